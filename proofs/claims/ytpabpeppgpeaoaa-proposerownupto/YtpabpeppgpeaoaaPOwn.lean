import Derived.Test.YtpabpeppgpeaoaaWOwn
import Derived.Test.YtpabpeppgpeaoaaOc
import Derived.JoinedCond
import Derived.Deep.CondSized
namespace Go.Proofs.Ytpabpeppgpeaoaa.Md
open Go.ChangeShapes Go.WideShapes Go.ChangeAt Go.RowKit
open Go.ChangeMaps (open_string shut_string)
set_option linter.unusedVariables false
set_option linter.unusedSimpArgs false

namespace proposerOwn
theorem one_le {H : Type} (d : DataW H) : 1 ≤ Rows.uptoBulk d := by
  cases d with
  | lit l => cases l <;> simp [Rows.uptoBulk]
  | nil => simp [Rows.uptoBulk]
  | ptr d => simp [Rows.uptoBulk]
  | slice elems spare => simp [Rows.uptoBulk]
  | agg parts => simp [Rows.uptoBulk]
  | iface t d => simp [Rows.uptoBulk]
  | map entries => simp [Rows.uptoBulk]
  | held h => simp [Rows.uptoBulk]
theorem len_le {H : Type} (l : List (DataW H)) : l.length ≤ Rows.uptoBulkAll l := by
  induction l with
  | nil => simp [Rows.uptoBulkAll]
  | cons x r ih => have := one_le x; simp only [Rows.uptoBulkAll, List.length_cons]; omega
/-- How many there are, by what they weigh. -/
theorem sl_len {H : Type} {enc : TypeId × Value → H} {W : World} {T e : TypeId} {fuel : Nat} {s : Sl} {x : DataW H × List MemPlace} (ht : Try.prog.underlying T = some (.slice e))
    (hf : DataW.trod enc Try.prog W 0 (fun _ => true) true fuel T [s.v] = some x) : s.l ≤ Rows.uptoBulk x.1 := by
  rcases Go.Deep.open_slice ht hf with ⟨hcs, _⟩ | ⟨ad, l, c, m, n, D, Pl, hcs, hq, hl, hm, hmm, hx, hel⟩
  · simp [Sl.v] at hcs
    omega
  · simp [Sl.v] at hcs
    rw [hx]
    have h1 := len_le ((List.range l).map D)
    simp only [Rows.uptoBulk]
    simp only [List.length_map, List.length_range] at h1
    omega
set_option maxRecDepth 100000 in
theorem bkt_len {H : Type} {enc : TypeId × Value → H} {W : World} {fuel : Nat} {b : Bv} {x : DataW H × List MemPlace}
    (hf : DataW.trod enc Try.prog W 0 (fun _ => true) true fuel 44 b.cs = some x) : b.e.l ≤ Rows.uptoBulk x.1 ∧ b.l.l ≤ Rows.uptoBulk x.1 := by
  obtain ⟨xs, n, _, rfl, hl, hlen, hfs⟩ := DataW.trod_struct Try.und32 hf
  have hlen : xs.length = 3 := hlen
  match xs, hlen, hfs with
  | [y0, y1, y2], _, hfs =>
    have h1 : DataW.trod enc Try.prog W 0 (fun _ => true) true n 41 ((b.cs.drop 1).take (Try.prog.cellsOf 41)) = some y1 := hfs 1 _ rfl
    rw [Try.cells29] at h1
    have h2 : DataW.trod enc Try.prog W 0 (fun _ => true) true n 42 ((b.cs.drop 2).take (Try.prog.cellsOf 42)) = some y2 := hfs 2 _ rfl
    rw [Try.cells30] at h2
    have e1 := sl_len (s := b.e) Try.und29 h1
    have e2 := sl_len (s := b.l) Try.und30 h2
    constructor
    · show b.e.l ≤ Rows.uptoBulk (.agg [y0.1, y1.1, y2.1])
      simp only [Rows.uptoBulk, Rows.uptoBulkAll]
      omega
    · show b.l.l ≤ Rows.uptoBulk (.agg [y0.1, y1.1, y2.1])
      simp only [Rows.uptoBulk, Rows.uptoBulkAll]
      omega
theorem opened_ints (H : Type) (enc : TypeId × Value → H) (W : World) (a0 : Option Addr) (len0 cap0 : Nat) (d0 : DataW H) (p0 : List MemPlace)
    (h0 : DataW.Trod enc Try.prog W 0 (fun _ => true) true 24 (.slice a0 len0 cap0) d0 p0) : ∃ zs : List Int, zs.length = len0 ∧ Nums .i64 W a0 zs ∧ len0 ≤ Rows.uptoBulk d0 := by
  obtain ⟨fuel, hf⟩ := h0
  have hb := sl_len (s := ⟨a0, len0, cap0⟩) U24 hf
  rcases open_ints U24 U3 (by kernel_rfl) hf with ⟨hcs, _⟩ | ⟨x, l, c, zs, hcs, hq, hl, hm, hz, hx, hcell, hwz⟩
  · simp [Value.cells] at hcs
    obtain ⟨rfl, rfl, rfl⟩ := hcs
    exact ⟨[], rfl, Nums.nil _ _ _, hb⟩
  · simp [Value.cells] at hcs
    obtain ⟨rfl, rfl, rfl⟩ := hcs
    have hz' : zs.length = cap0 := by simpa using hz
    refine ⟨zs.take len0, by simp; omega, ?_, hb⟩
    intro i hi
    simp only [List.length_take] at hi
    obtain ⟨b, off, rfl, hc⟩ := ints_at hcell (by omega)
    refine ⟨b, off, rfl, ?_⟩
    rw [List.getElem?_take, if_pos (by omega), hc i (by omega)]
    simp
set_option maxRecDepth 100000 in
theorem opened_bkt (H : Type) (enc : TypeId × Value → H) (W : World) (b0 : Nat) (v : Value) (d0 : DataW H) (p0 : List MemPlace) (hv : Value.okWide Try.prog W .any b0 44 v)
    (h0 : DataW.Trod enc Try.prog W 0 (fun _ => true) true 44 v d0 p0) (hs : ∀ n ∈ d0.weights Try.prog 44, n ≤ reachBytes) :
    ∃ (b : Bv) (es : List En) (ls : List La), v = .agg (Bv.cells b) ∧ RdE W b.e es ∧ RdL W b.l ls ∧ b.e.l ≤ Rows.uptoBulk d0 ∧ b.l.l ≤ Rows.uptoBulk d0 := by
  obtain ⟨cs, rfl, _⟩ := okWide_struct U44 hv
  obtain ⟨fuel, hf⟩ := h0
  obtain ⟨b, es, ls, e, h1, h2, _, _⟩ := bkt_ok hf hs
  simp only [Value.cells] at e
  obtain ⟨l⟩ := cs
  simp only [] at e
  subst e
  obtain ⟨h3, h4⟩ := bkt_len (b := b) hf
  exact ⟨b, es, ls, rfl, h1, h2, h3, h4⟩
set_option maxRecDepth 100000 in
theorem lifted (os : Os) (started : os.Started) (H : Type) (enc : TypeId × Value → H) (F : Stop.Interp) :
    ReturnsInHanded {} Try.checked os 7 .any ((Rows.OpenSpec.upto Rows.proposerOwnSpec).pre6 enc Try.prog Try.f7 Rows.proposerOwnUptoRow.domain false) (((Rows.OpenSpec.upto Rows.proposerOwnSpec).at F).post enc Try.prog Try.f7 false true false false) := by
  refine returnsInHanded_of_cond_sized (C := Try.checked) (s := Rows.OpenSpec.upto Rows.proposerOwnSpec) (k := Rows.uptoSmall) rfl own started (by kernel_rfl) Try.func7
    (OpenSpec.witness (enc := enc) (C := Try.checked) (s := Rows.OpenSpec.upto Rows.proposerOwnSpec) (k := Rows.uptoSmall) rfl false ⟨#[], #[.slice none 0 0, .agg (Bv.cells bvZ)], []⟩ 8 (by kernel_rfl) (by kernel_rfl) (by kernel_rfl)
      (x := ([.nil, .agg [.lit (.int .i64 0), .nil, .nil]], [], [])) (by kernel_rfl) rfl (by kernel_rfl)) ?_
  intro W base args ds gs before hval0 hW hcnd hk hsz0 hlone
  have hval : ∀ (j : Nat) t v, Try.f7.params[j]? = some t → args[j]? = some v → Value.okWide Try.prog W .any base t v := hval0
  have hsz1 : (DataW.weightsEach Try.prog (Try.f7.params.toList ++ Rows.proposerOwnSpec.plain.varTypes Try.prog) (ds ++ gs)).all (· ≤ reachBytes) = true := hsz0
  have hW' := hW
  obtain ⟨p, q, hA0, hV, rfl, hfz, hnd⟩ := hW
  have hA : DataW.TrodAll enc Try.prog W 0 (fun _ => true) true Try.f7.params.toList args.toList ds p := hA0
  rw [Try.params7] at hA hval hsz1
  obtain ⟨v0, vs0, d0, ds0, p0, q0, hargs, rfl, rfl, h0, r0⟩ := trodAll_cons hA
  obtain ⟨v1, vs1, d1, ds1, p1, q1, rfl, rfl, rfl, h1, r1⟩ := trodAll_cons r0
  obtain ⟨rfl, rfl, rfl⟩ := trodAll_nil r1
  obtain rfl : args = #[v0, v1] := by cases args; simp_all
  obtain ⟨rfl, rfl⟩ := trodVars_none hV
  obtain ⟨a0, l0, c0, rfl⟩ := okWide_slice U24 (hval 0 24 v0 rfl rfl)
  have k0 := h0
  have lt0 : ∀ x ∈ p0, x.block < W.heap.size := by obtain ⟨m, hm⟩ := k0; exact DataW.trod_lt m _ _ _ hm
  obtain ⟨zs, hz1, hz2, hz3⟩ := opened_ints H enc W a0 l0 c0 d0 p0 h0
  have k1 := h1
  have lt1 : ∀ x ∈ p1, x.block < W.heap.size := by obtain ⟨m, hm⟩ := k1; exact DataW.trod_lt m _ _ _ hm
  obtain ⟨b, es, ls, rfl, hb1, hb2, hb3, hb4⟩ := opened_bkt H enc W base v1 d1 p1 (hval 1 44 v1 rfl rfl) h1 (fun n hn => by
    have := List.all_eq_true.1 hsz1 _ (DataW.weights_mem_each (j := 1) (t := 44) (d := d1) rfl rfl n hn)
    simpa using this)
  have hb : Rows.uptoBulkAll ([d0, d1] ++ ([] : List (DataW H))) ≤ 1048576 := of_decide_eq_true hk
  simp only [List.append_nil, Rows.uptoBulkAll] at hb
  clear hA0 hval0 hsz0
  refine (ownWalk ⟨a0, l0, c0⟩ zs b es ls W ⟨hz2, hz1⟩ (by show l0 ≤ _; omega) hb1 hb2 (by omega) (by omega)).mono fun e W' ⟨he, hkk⟩ => ?_
  have bel : Below W.heap.size W W' := hkk.below (Nat.le_refl _) (fun _ e => e.elim)
  subst he
  exact ⟨_, rfl, _, _, _, [], _, [], hW', trodAll_mk1 (shut_bool U4 _), (trodAll_cons_mk (Below.trod laidOut (by kernel_rfl) (of_decide_eq_true (by kernel_rfl)) k0 bel lt0) (trodAll_cons_mk (Below.trod laidOut (by kernel_rfl) (of_decide_eq_true (by kernel_rfl)) k1 bel lt1) trodAll_mk0)), rfl, bel.frame _, fun h => by cases h⟩

theorem over : Rows.proposerOwnUptoRow.holds Try.pinned (Rows.OpenSpec.upto Rows.proposerOwnSpec) :=
  OpenClaim.holds_of_cond 7 Try.f7 rfl rfl rfl rfl rfl rfl rfl ⟨rfl, rfl, rfl, rfl, rfl⟩ rfl rfl rfl rfl rfl (by kernel_rfl) Try.func7 (by kernel_rfl)
    (of_decide_eq_true (by kernel_rfl)) (by unfold Func.isWrapper; first | (rw [if_pos (by decide +kernel)]; kernel_rfl) | (rw [if_neg (by decide +kernel)]; exact ⟨rfl, rfl⟩))
    (fun os started H enc _ F => lifted os started H enc F)

end proposerOwn
end Go.Proofs.Ytpabpeppgpeaoaa.Md
namespace Go.Proofs.Ytpabpeppgpeaoaa
theorem proposerOwnUpto_holds : Rows.ProposerOwnUptoSaid := Md.proposerOwn.over

#print axioms proposerOwnUpto_holds
end Go.Proofs.Ytpabpeppgpeaoaa
