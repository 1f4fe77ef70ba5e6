import Derived.Test.YtpabpeppgpeaoaaWPlays
import Derived.Test.YtpabpeppgpeaoaaOc
import Derived.JoinedCond
import Derived.Deep.CondSized
namespace Go.Proofs.Ytpabpeppgpeaoaa.Md
open Go.ChangeShapes Go.WideShapes Go.ChangeAt Go.RowKit
open Go.ChangeMaps (open_string shut_string)
set_option linter.unusedVariables false
set_option linter.unusedSimpArgs false

theorem Try.cells49 : Try.prog.cellsOf 49 = 31 := by kernel_rfl
theorem Try.bytes49 : Try.prog.bytesOf 49 = 320 := by kernel_rfl
theorem U29 : Try.prog.underlying 29 = some (.slice 49) := by kernel_rfl
theorem one_le {H : Type} (d : DataW H) : 1 ≤ Rows.uptoBulk d := by
  cases d with
  | lit l => cases l <;> simp [Rows.uptoBulk]
  | nil => simp [Rows.uptoBulk]
  | ptr d => simp [Rows.uptoBulk]
  | slice elems spare => simp [Rows.uptoBulk]
  | agg parts => simp [Rows.uptoBulk]
  | iface t d => simp [Rows.uptoBulk]
  | map entries => simp [Rows.uptoBulk]
  | held h => simp [Rows.uptoBulk]
theorem len_le {H : Type} (l : List (DataW H)) : l.length ≤ Rows.uptoBulkAll l := by
  induction l with
  | nil => simp [Rows.uptoBulkAll]
  | cons x r ih => have := one_le x; simp only [Rows.uptoBulkAll, List.length_cons]; omega
/-- How many there are, by what they weigh. -/
theorem slice_len {H : Type} {enc : TypeId × Value → H} {W : World} {T e : TypeId} {a : Option Addr} {len cap : Nat} {d : DataW H} {p : List MemPlace} (ht : Try.prog.underlying T = some (.slice e))
    (h : DataW.Trod enc Try.prog W 0 (fun _ => true) true T (.slice a len cap) d p) : len ≤ Rows.uptoBulk d := by
  obtain ⟨fuel, hf⟩ := h
  rcases Go.Deep.open_slice ht hf with ⟨hcs, _⟩ | ⟨x, l, c, m, n, D, Pl, hcs, hq, hl, hm, hmm, hx, hel⟩
  · simp [Value.cells] at hcs
    omega
  · simp [Value.cells] at hcs
    simp only [Prod.mk.injEq] at hx
    rw [hx.1]
    have h1 := len_le ((List.range l).map D)
    simp only [Rows.uptoBulk]
    simp only [List.length_map, List.length_range] at h1
    omega
set_option maxRecDepth 100000 in
theorem opened_key (H : Type) (enc : TypeId × Value → H) (W : World) (b0 : Nat) (v : Value) (d0 : DataW H) (p0 : List MemPlace) (hv : Value.okWide Try.prog W .any b0 23 v)
    (h0 : DataW.Trod enc Try.prog W 0 (fun _ => true) true 23 v d0 p0) : ∃ k : Ky, v = .agg (Ky.cells k) := by
  obtain ⟨cs, rfl, _⟩ := okWide_struct U23 hv
  obtain ⟨fuel, hf⟩ := h0
  obtain ⟨k, e⟩ := key_ok hf
  simp only [Value.cells] at e
  obtain ⟨l⟩ := cs
  simp only [] at e
  exact ⟨k, by rw [e]; rfl⟩
set_option maxRecDepth 100000 in
theorem opened_cmd (H : Type) (enc : TypeId × Value → H) (W : World) (b0 : Nat) (v : Value) (d0 : DataW H) (p0 : List MemPlace) (hv : Value.okWide Try.prog W .any b0 28 v)
    (h0 : DataW.Trod enc Try.prog W 0 (fun _ => true) true 28 v d0 p0) : ∃ k : Cm, v = .agg (Cm.cells k) := by
  obtain ⟨cs, rfl, _⟩ := okWide_struct U28 hv
  obtain ⟨fuel, hf⟩ := h0
  obtain ⟨k, e⟩ := cmd_ok hf
  simp only [Value.cells] at e
  obtain ⟨l⟩ := cs
  simp only [] at e
  exact ⟨k, by rw [e]; rfl⟩
theorem opened_ints (H : Type) (enc : TypeId × Value → H) (W : World) (a0 : Option Addr) (len0 cap0 : Nat) (d0 : DataW H) (p0 : List MemPlace)
    (h0 : DataW.Trod enc Try.prog W 0 (fun _ => true) true 24 (.slice a0 len0 cap0) d0 p0) : ∃ zs : List Int, zs.length = len0 ∧ Nums .i64 W a0 zs := by
  obtain ⟨fuel, hf⟩ := h0
  rcases open_ints U24 U3 (by kernel_rfl) hf with ⟨hcs, _⟩ | ⟨x, l, c, zs, hcs, hq, hl, hm, hz, hx, hcell, hwz⟩
  · simp [Value.cells] at hcs
    obtain ⟨rfl, rfl, rfl⟩ := hcs
    exact ⟨[], rfl, Nums.nil _ _ _⟩
  · simp [Value.cells] at hcs
    obtain ⟨rfl, rfl, rfl⟩ := hcs
    have hz' : zs.length = cap0 := by simpa using hz
    refine ⟨zs.take len0, by simp; omega, ?_⟩
    intro i hi
    simp only [List.length_take] at hi
    obtain ⟨b, off, rfl, hc⟩ := ints_at hcell (by omega)
    refine ⟨b, off, rfl, ?_⟩
    rw [List.getElem?_take, if_pos (by omega), hc i (by omega)]
    simp
theorem weights_all {H : Type} {P : Program} {e : TypeId} : ∀ {ds : List (DataW H)} {d : DataW H}, d ∈ ds → ∀ n ∈ d.weights P e, n ∈ DataW.weightsAll P e ds
  | d0 :: r, d, hd, n, hn => by
    rw [DataW.weightsAll, List.mem_append]
    rcases List.mem_cons.1 hd with rfl | h
    · exact .inl hn
    · exact .inr (weights_all h n hn)
set_option maxRecDepth 100000 in
theorem step_ok {H : Type} {enc : TypeId × Value → H} {W : World} {fuel : Nat} {l : List Value} {x : DataW H × List MemPlace}
    (hf : DataW.trod enc Try.prog W 0 (fun _ => true) true fuel 49 l = some x) (hs : ∀ n ∈ x.1.weights Try.prog 49, n ≤ reachBytes) :
    ∃ s : Stp, l = s.cs ∧ ∃ (bs : List Int) (es : List En) (ls : List La) (cs : List Cm), MgAt W s.m bs es ls cs ∧ s.m.st.n ≤ 9223372036854775807 := by
  obtain ⟨xs, n, _, rfl, hl, hlen, hfs⟩ := DataW.trod_struct U49 hf
  rw [Try.cells49] at hl
  have hlen : xs.length = 2 := hlen
  match xs, hlen, hfs, hs with
  | [y0, y1], _, hfs, hs =>
    have h0 : DataW.trod enc Try.prog W 0 (fun _ => true) true n 3 ((l.drop 0).take (Try.prog.cellsOf 3)) = some y0 := hfs 0 _ rfl
    rw [Try.cells3] at h0
    obtain ⟨n0, e0, _, _⟩ := DataW.trod_int Try.und3 h0
    have h1 : DataW.trod enc Try.prog W 0 (fun _ => true) true n 47 ((l.drop 1).take (Try.prog.cellsOf 47)) = some y1 := hfs 1 _ rfl
    rw [Try.cells50] at h1
    obtain ⟨m, bs, es, ls, cs, e1, hM, hN⟩ := msg_ok h1 (fun w hw => hs w (by
      simp only [DataW.weights, U49]
      exact DataW.weights_mem_each (j := 1) (t := 47) (d := y1.1) (by kernel_rfl) rfl w hw))
    have s : l = l.drop 0 := rfl
    have s0 : l.drop 0 = (l.drop 0).take 1 ++ l.drop 1 := cutL 0 1
    rw [e0] at s0
    have s1 : l.drop 1 = (l.drop 1).take 30 ++ l.drop 31 := cutL 1 30
    rw [e1] at s1
    have sz : l.drop 31 = [] := List.drop_of_length_le (by omega)
    refine ⟨⟨n0, m⟩, ?_, bs, es, ls, cs, hM, hN⟩
    rw [s, s0, s1, sz, List.append_nil]
    rfl
theorem opened_stps (H : Type) (enc : TypeId × Value → H) (W : World) (a0 : Option Addr) (len0 cap0 : Nat) (d0 : DataW H) (p0 : List MemPlace)
    (h0 : DataW.Trod enc Try.prog W 0 (fun _ => true) true 29 (.slice a0 len0 cap0) d0 p0)
    {ts : List TypeId} {ds : List (DataW H)} (hsz : (DataW.weightsEach Try.prog ts ds).all (· ≤ reachBytes) = true) {j : Nat} (ht : ts[j]? = some 29) (hd : ds[j]? = some d0) :
    ∃ xs : List Stp, len0 ≤ 140737488351232 ∧ RdS W ⟨a0, len0, cap0⟩ xs := by
  obtain ⟨fuel, hf⟩ := h0
  rcases Go.Deep.open_slice U29 hf with ⟨hcs, _⟩ | ⟨x, l, c, m, n, D, Pl, hcs, hq, hl, hm, hmm, hx, hel⟩
  · simp [Value.cells] at hcs
    obtain ⟨rfl, rfl, rfl⟩ := hcs
    exact ⟨[], by omega, RowsAt.nil _ _ _, rfl, fun x hx => by simp at hx⟩
  · simp [Value.cells] at hcs
    obtain ⟨rfl, rfl, rfl⟩ := hcs
    simp only [if_true] at hmm
    subst hmm
    simp only [Prod.mk.injEq] at hx
    have hw : ∀ n ∈ d0.weights Try.prog 29, n ≤ reachBytes := fun n hn => by
      have := List.all_eq_true.1 hsz _ (DataW.weights_mem_each ht hd n hn)
      simpa using this
    have hb : len0 ≤ 140737488351232 := by
      have := sized_slice hsz (j := j) (t := 29) (e := 49) ht (by rw [hd, hx.1]) U29
      rw [Try.bytes49] at this
      simp [reachBytes] at this
      omega
    rw [Try.cells49] at hel
    have key : ∀ i, i < len0 → ∃ it : Stp, W.cells? 0 (x.add (i * 31)) 31 = some it.cs ∧ ∃ (bs : List Int) (es : List En) (ls : List La) (cs : List Cm), MgAt W it.m bs es ls cs ∧ it.m.st.n ≤ 9223372036854775807 := by
      intro i hi
      obtain ⟨cs', hc, htr⟩ := hel i (by omega)
      obtain ⟨it, rfl, hok⟩ := step_ok htr (fun n hn => hw n (by
        rw [hx.1]; simp only [DataW.weights, U29]
        refine List.mem_cons_of_mem _ (List.mem_append.2 (.inl (weights_all (d := D i) ?_ n hn)))
        exact List.mem_map.2 ⟨i, List.mem_range.2 hi, rfl⟩))
      exact ⟨it, hc, hok⟩
    haveI : Inhabited Stp := ⟨⟨0, mgZ⟩⟩
    obtain ⟨f, hfm⟩ := Go.Deep.choose_lt key
    refine ⟨(List.range len0).map f, hb, ⟨?_, by simp, ?_⟩⟩
    · intro i it hit
      have hi : i < len0 := by have := (List.getElem?_eq_some_iff.1 hit).1; simpa using this
      have e : (f i).cs = it := by simpa [hi] using hit
      obtain ⟨hc, _⟩ := hfm i hi
      have hcs := (World.cells?_some hc).2.2
      obtain ⟨b, off, spot⟩ := x
      have hspot : spot = none := by
        have h00 := (World.cells?_some (hfm 0 (by omega)).1).2.2 0 (by omega)
        have h00' : (f 0).cs[0]? = some (.int .i64 (f 0).k) := rfl
        rw [h00'] at h00
        have := World.cell?_spot h00
        simpa [Addr.add] using this
      subst hspot
      refine ⟨b, off, rfl, fun j u hu => ?_⟩
      rw [← e] at hu
      have hj : j < 31 := (List.getElem?_eq_some_iff.1 hu).1
      have h := hcs j hj
      rw [hu, Go.Deep.add_add, addr_add] at h
      rw [show off + i * 31 + j = off + (i * 31 + j) by omega]
      exact h
    · intro it hit
      obtain ⟨i, hi, rfl⟩ := List.mem_map.1 hit
      exact (hfm i (List.mem_range.1 hi)).2

namespace proposerPlays
set_option maxRecDepth 100000 in
theorem lifted (os : Os) (started : os.Started) (H : Type) (enc : TypeId × Value → H) (F : Stop.Interp) :
    ReturnsInHanded {} Try.checked os 3 .any ((Rows.OpenSpec.upto Rows.proposerPlaysSpec).pre6 enc Try.prog Try.f3 Rows.proposerPlaysUptoRow.domain false) (((Rows.OpenSpec.upto Rows.proposerPlaysSpec).at F).post enc Try.prog Try.f3 false true false false) := by
  refine returnsInHanded_of_cond_sized (C := Try.checked) (s := Rows.OpenSpec.upto Rows.proposerPlaysSpec) (k := Rows.uptoSmall) rfl own started (by kernel_rfl) Try.func3
    (OpenSpec.witness (enc := enc) (C := Try.checked) (s := Rows.OpenSpec.upto Rows.proposerPlaysSpec) (k := Rows.uptoSmall) rfl false ⟨#[], #[.int .i64 0, .int .i64 0, .agg (Ky.cells kyZ), .slice none 0 0, .agg (Cm.cells cZ), .int .i64 0, .int .i64 0, .slice none 0 0], []⟩ 8 (by kernel_rfl) (by kernel_rfl) (by kernel_rfl)
      (x := ([.lit (.int .i64 0), .lit (.int .i64 0), .agg [.lit (.int .i64 0), .lit (.int .i64 0), .lit (.int .i64 0), .lit (.int .i64 0)], .nil, .agg [.lit (.int .i64 0), .lit (.int .i64 0), .lit (.int .i64 0), .lit (.string []), .agg [.lit (.int .i64 0), .lit (.int .i64 0)], .agg [.lit (.int .i64 0), .lit (.int .i64 0)], .lit (.int .i64 0)], .lit (.int .i64 0), .lit (.int .i64 0), .nil], [], [])) (by kernel_rfl) rfl (by kernel_rfl)) ?_
  intro W base args ds gs before hval0 hW hcnd hk hsz0 hlone
  have hval : ∀ (j : Nat) t v, Try.f3.params[j]? = some t → args[j]? = some v → Value.okWide Try.prog W .any base t v := hval0
  have hsz1 : (DataW.weightsEach Try.prog (Try.f3.params.toList ++ Rows.proposerPlaysSpec.plain.varTypes Try.prog) (ds ++ gs)).all (· ≤ reachBytes) = true := hsz0
  have hW' := hW
  obtain ⟨p, q, hA0, hV, rfl, hfz, hnd⟩ := hW
  have hA : DataW.TrodAll enc Try.prog W 0 (fun _ => true) true Try.f3.params.toList args.toList ds p := hA0
  rw [Try.params3] at hA hval hsz1
  obtain ⟨v0, vs0, d0, ds0, p0, q0, hargs, rfl, rfl, h0, r0⟩ := trodAll_cons hA
  obtain ⟨v1, vs1, d1, ds1, p1, q1, rfl, rfl, rfl, h1, r1⟩ := trodAll_cons r0
  obtain ⟨v2, vs2, d2, ds2, p2, q2, rfl, rfl, rfl, h2, r2⟩ := trodAll_cons r1
  obtain ⟨v3, vs3, d3, ds3, p3, q3, rfl, rfl, rfl, h3, r3⟩ := trodAll_cons r2
  obtain ⟨v4, vs4, d4, ds4, p4, q4, rfl, rfl, rfl, h4, r4⟩ := trodAll_cons r3
  obtain ⟨v5, vs5, d5, ds5, p5, q5, rfl, rfl, rfl, h5, r5⟩ := trodAll_cons r4
  obtain ⟨v6, vs6, d6, ds6, p6, q6, rfl, rfl, rfl, h6, r6⟩ := trodAll_cons r5
  obtain ⟨v7, vs7, d7, ds7, p7, q7, rfl, rfl, rfl, h7, r7⟩ := trodAll_cons r6
  obtain ⟨rfl, rfl, rfl⟩ := trodAll_nil r7
  obtain rfl : args = #[v0, v1, v2, v3, v4, v5, v6, v7] := by cases args; simp_all
  obtain ⟨rfl, rfl⟩ := trodVars_none hV
  obtain ⟨n0, rfl, rfl, rfl, w0⟩ := open_int U3 (hval 0 3 v0 rfl rfl) h0
  obtain ⟨n1, rfl, rfl, rfl, w1⟩ := open_int U3 (hval 1 3 v1 rfl rfl) h1
  have k2 := h2
  have lt2 : ∀ x ∈ p2, x.block < W.heap.size := by obtain ⟨m, hm⟩ := k2; exact DataW.trod_lt m _ _ _ hm
  obtain ⟨y, rfl⟩ := opened_key H enc W base v2 d2 p2 (hval 2 23 v2 rfl rfl) h2
  obtain ⟨a3, l3, c3, rfl⟩ := okWide_slice U24 (hval 3 24 v3 rfl rfl)
  have k3 := h3
  have lt3 : ∀ x ∈ p3, x.block < W.heap.size := by obtain ⟨m, hm⟩ := k3; exact DataW.trod_lt m _ _ _ hm
  obtain ⟨zs, hz1, hz2⟩ := opened_ints H enc W a3 l3 c3 d3 p3 h3
  have k4 := h4
  have lt4 : ∀ x ∈ p4, x.block < W.heap.size := by obtain ⟨m, hm⟩ := k4; exact DataW.trod_lt m _ _ _ hm
  obtain ⟨c, rfl⟩ := opened_cmd H enc W base v4 d4 p4 (hval 4 28 v4 rfl rfl) h4
  obtain ⟨n5, rfl, rfl, rfl, w5⟩ := open_int U3 (hval 5 3 v5 rfl rfl) h5
  obtain ⟨n6, rfl, rfl, rfl, w6⟩ := open_int U3 (hval 6 3 v6 rfl rfl) h6
  obtain ⟨a7, l7, c7, rfl⟩ := okWide_slice U29 (hval 7 29 v7 rfl rfl)
  have k7 := h7
  have lt7 : ∀ x ∈ p7, x.block < W.heap.size := by obtain ⟨m, hm⟩ := k7; exact DataW.trod_lt m _ _ _ hm
  obtain ⟨xs, hx1, hx2⟩ := opened_stps H enc W a7 l7 c7 d7 p7 h7 hsz1 (j := 7) rfl rfl
  have hb : Rows.uptoBulkAll ([.lit (.int .i64 n0), .lit (.int .i64 n1), d2, d3, d4, .lit (.int .i64 n5), .lit (.int .i64 n6), d7] ++ ([] : List (DataW H))) ≤ 1048576 := of_decide_eq_true hk
  have l3' := slice_len U24 k3
  simp only [List.append_nil, Rows.uptoBulkAll] at hb
  clear hA0 hval0 hsz0
  refine (playsWalk n0 n1 y ⟨a3, l3, c3⟩ zs c n5 n6 ⟨a7, l7, c7⟩ xs W ⟨hz2, hz1⟩ (by show l3 ≤ _; omega) (wf_hi w5) hx2 hx1).mono fun e W' ⟨he, hkk⟩ => ?_
  have bel : Below W.heap.size W W' := hkk.below (Nat.le_refl _) (fun _ e => e.elim)
  subst he
  exact ⟨_, rfl, _, _, _, [], _, [], hW', trodAll_mk1 (shut_bool U4 _), (trodAll_cons_mk (shut_int U3 w0) (trodAll_cons_mk (shut_int U3 w1) (trodAll_cons_mk (Below.trod laidOut (by kernel_rfl) (of_decide_eq_true (by kernel_rfl)) k2 bel lt2) (trodAll_cons_mk (Below.trod laidOut (by kernel_rfl) (of_decide_eq_true (by kernel_rfl)) k3 bel lt3) (trodAll_cons_mk (Below.trod laidOut (by kernel_rfl) (of_decide_eq_true (by kernel_rfl)) k4 bel lt4) (trodAll_cons_mk (shut_int U3 w5) (trodAll_cons_mk (shut_int U3 w6) (trodAll_cons_mk (Below.trod laidOut (by kernel_rfl) (of_decide_eq_true (by kernel_rfl)) k7 bel lt7) trodAll_mk0)))))))), rfl, bel.frame _, fun h => by cases h⟩

theorem over : Rows.proposerPlaysUptoRow.holds Try.pinned (Rows.OpenSpec.upto Rows.proposerPlaysSpec) :=
  OpenClaim.holds_of_cond 3 Try.f3 rfl rfl rfl rfl rfl rfl rfl ⟨rfl, rfl, rfl, rfl, rfl⟩ rfl rfl rfl rfl rfl (by kernel_rfl) Try.func3 (by kernel_rfl)
    (of_decide_eq_true (by kernel_rfl)) (by unfold Func.isWrapper; first | (rw [if_pos (by decide +kernel)]; kernel_rfl) | (rw [if_neg (by decide +kernel)]; exact ⟨rfl, rfl⟩))
    (fun os started H enc _ F => lifted os started H enc F)

end proposerPlays
end Go.Proofs.Ytpabpeppgpeaoaa.Md
namespace Go.Proofs.Ytpabpeppgpeaoaa
theorem proposerPlaysUpto_holds : Rows.ProposerPlaysUptoSaid := Md.proposerPlays.over

#print axioms proposerPlaysUpto_holds
end Go.Proofs.Ytpabpeppgpeaoaa
