import Derived.Test.YtgiokkcdgoloaaaOe
import Derived.JoinedCond
import Derived.Deep.CondSized
namespace Go.Proofs.Ytgiokkcdgoloaaa.Md
open Go.ChangeShapes Go.WideShapes Go.ChangeAt Go.RowKit
open Go.ChangeMaps (open_string shut_string)
set_option linter.unusedVariables false
set_option linter.unusedSimpArgs false

theorem Try.cells54 : Try.prog.cellsOf 54 = 31 := by kernel_rfl
theorem Try.bytes54 : Try.prog.bytesOf 54 = 320 := by kernel_rfl
theorem Try.cells27 : Try.prog.cellsOf 27 = 11 := by kernel_rfl
theorem Try.cells24 : Try.prog.cellsOf 24 = 1 := by kernel_rfl
theorem U28 : Try.prog.underlying 28 = some (.slice 54) := by kernel_rfl
theorem ints_ok {H : Type} {enc : TypeId × Value → H} {W : World} {fuel : Nat} {v : Value} {x : DataW H × List MemPlace}
    (hf : DataW.trod enc Try.prog W 0 (fun _ => true) true fuel 24 [v] = some x) : ∃ (s : Sl) (zs : List Int), v = s.v ∧ RdI W s zs ∧ (s.a = none → s.k = 0) := by
  rcases open_ints U24 U3 (by kernel_rfl) hf with ⟨hcs, _⟩ | ⟨ad, l, c, zs, hcs, hq, hl, hm, hz, hx, hcell, hwz⟩
  · simp at hcs
    exact ⟨slZ, [], hcs, ⟨Nums.nil _ _ _, rfl⟩, fun _ => rfl⟩
  · simp at hcs
    have hz' : zs.length = c := by simpa using hz
    refine ⟨⟨some ad, l, c⟩, zs.take l, hcs, ⟨?_, by simp; omega⟩, fun e => by cases e⟩
    intro i hi
    simp only [List.length_take] at hi
    obtain ⟨b, off, rfl, hc⟩ := ints_at hcell (by omega)
    refine ⟨b, off, rfl, ?_⟩
    rw [List.getElem?_take, if_pos (by omega), hc i (by omega)]
    simp
theorem weights_all {H : Type} {P : Program} {e : TypeId} : ∀ {ds : List (DataW H)} {d : DataW H}, d ∈ ds → ∀ n ∈ d.weights P e, n ∈ DataW.weightsAll P e ds
  | d0 :: r, d, hd, n, hn => by
    rw [DataW.weightsAll, List.mem_append]
    rcases List.mem_cons.1 hd with rfl | h
    · exact .inl hn
    · exact .inr (weights_all h n hn)
set_option maxRecDepth 100000 in
theorem step_ok {H : Type} {enc : TypeId × Value → H} {W : World} {fuel : Nat} {l : List Value} {x : DataW H × List MemPlace}
    (hf : DataW.trod enc Try.prog W 0 (fun _ => true) true fuel 54 l = some x) (hs : ∀ n ∈ x.1.weights Try.prog 54, n ≤ reachBytes) :
    ∃ s : Stp, l = s.cs ∧ ∃ (bs : List Int) (es : List En) (ls : List La) (cs : List Cm), MgIn W s.m bs es ls cs ∧ -9223372036854775808 ≤ s.m.st.n := by
  obtain ⟨xs, n, _, rfl, hl, hlen, hfs⟩ := DataW.trod_struct U54 hf
  rw [Try.cells54] at hl
  have hlen : xs.length = 2 := hlen
  match xs, hlen, hfs, hs with
  | [y0, y1], _, hfs, hs =>
    have h0 : DataW.trod enc Try.prog W 0 (fun _ => true) true n 3 ((l.drop 0).take (Try.prog.cellsOf 3)) = some y0 := hfs 0 _ rfl
    rw [Try.cells3] at h0
    obtain ⟨n0, e0, _, _⟩ := DataW.trod_int Try.und3 h0
    have h1 : DataW.trod enc Try.prog W 0 (fun _ => true) true n 52 ((l.drop 1).take (Try.prog.cellsOf 52)) = some y1 := hfs 1 _ rfl
    rw [Try.cells50] at h1
    obtain ⟨m, bs, es, ls, cs, e1, hM, hN⟩ := msg_ok h1 (fun w hw => hs w (by
      simp only [DataW.weights, U54]
      exact DataW.weights_mem_each (j := 1) (t := 52) (d := y1.1) (by kernel_rfl) rfl w hw))
    have s : l = l.drop 0 := rfl
    have s0 : l.drop 0 = (l.drop 0).take 1 ++ l.drop 1 := cutL 0 1
    rw [e0] at s0
    have s1 : l.drop 1 = (l.drop 1).take 30 ++ l.drop 31 := cutL 1 30
    rw [e1] at s1
    have sz : l.drop 31 = [] := List.drop_of_length_le (by omega)
    refine ⟨⟨n0, m⟩, ?_, bs, es, ls, cs, hM, hN⟩
    rw [s, s0, s1, sz, List.append_nil]
    rfl
set_option maxRecDepth 100000 in
theorem ask_ok {H : Type} {enc : TypeId × Value → H} {W : World} {fuel : Nat} {l : List Value} {x : DataW H × List MemPlace}
    (hf : DataW.trod enc Try.prog W 0 (fun _ => true) true fuel 27 l = some x) (hs : ∀ n ∈ x.1.weights Try.prog 27, n ≤ reachBytes) :
    ∃ (q : Aq) (gs zs : List Int), l = q.cs ∧ RdI W q.g gs ∧ (q.g.a = none → q.g.k = 0) ∧ RdB W q.da zs ∧ q.da.l ≤ 140737488351232 := by
  obtain ⟨xs, n, _, rfl, hl, hlen, hfs⟩ := DataW.trod_struct U27 hf
  rw [Try.cells27] at hl
  have hlen : xs.length = 8 := hlen
  match xs, hlen, hfs, hs with
  | [y0, y1, y2, y3, y4, y5, y6, y7], _, hfs, hs =>
    have h0 : DataW.trod enc Try.prog W 0 (fun _ => true) true n 4 ((l.drop 0).take (Try.prog.cellsOf 4)) = some y0 := hfs 0 _ rfl
    rw [Try.cells4] at h0
    obtain ⟨n0, e0, _⟩ := DataW.trod_bool Try.und4 h0
    have h1 : DataW.trod enc Try.prog W 0 (fun _ => true) true n 3 ((l.drop 1).take (Try.prog.cellsOf 3)) = some y1 := hfs 1 _ rfl
    rw [Try.cells3] at h1
    obtain ⟨n1, e1, _, _⟩ := DataW.trod_int Try.und3 h1
    have h2 : DataW.trod enc Try.prog W 0 (fun _ => true) true n 3 ((l.drop 2).take (Try.prog.cellsOf 3)) = some y2 := hfs 2 _ rfl
    rw [Try.cells3] at h2
    obtain ⟨n2, e2, _, _⟩ := DataW.trod_int Try.und3 h2
    have h3 : DataW.trod enc Try.prog W 0 (fun _ => true) true n 23 ((l.drop 3).take (Try.prog.cellsOf 23)) = some y3 := hfs 3 _ rfl
    rw [Try.cells23] at h3
    obtain ⟨n3, e3⟩ := key_ok h3
    have h4 : DataW.trod enc Try.prog W 0 (fun _ => true) true n 24 ((l.drop 7).take (Try.prog.cellsOf 24)) = some y4 := hfs 4 _ rfl
    rw [Try.cells24] at h4
    obtain ⟨c4, hc4⟩ : ∃ c, (l.drop 7).take 1 = [c] := List.length_eq_one_iff.1 (by rw [List.length_take, List.length_drop]; omega)
    rw [hc4] at h4
    obtain ⟨n4, z4, u4, a4, b4⟩ := ints_ok h4
    have e4 : (l.drop 7).take 1 = [n4.v] := by rw [hc4, u4]
    have h5 : DataW.trod enc Try.prog W 0 (fun _ => true) true n 3 ((l.drop 8).take (Try.prog.cellsOf 3)) = some y5 := hfs 5 _ rfl
    rw [Try.cells3] at h5
    obtain ⟨n5, e5, _, _⟩ := DataW.trod_int Try.und3 h5
    have h6 : DataW.trod enc Try.prog W 0 (fun _ => true) true n 3 ((l.drop 9).take (Try.prog.cellsOf 3)) = some y6 := hfs 6 _ rfl
    rw [Try.cells3] at h6
    obtain ⟨n6, e6, _, _⟩ := DataW.trod_int Try.und3 h6
    have h7 : DataW.trod enc Try.prog W 0 (fun _ => true) true n 25 ((l.drop 10).take (Try.prog.cellsOf 25)) = some y7 := hfs 7 _ rfl
    rw [Try.cells26] at h7
    obtain ⟨c7, hc7⟩ : ∃ c, (l.drop 10).take 1 = [c] := List.length_eq_one_iff.1 (by rw [List.length_take, List.length_drop]; omega)
    rw [hc7] at h7
    obtain ⟨n7, z7, u7, a7, b7, d7⟩ := bytes_ok h7 (fun w hw => hs w (by
      simp only [DataW.weights, U27]
      exact DataW.weights_mem_each (j := 7) (t := 25) (d := y7.1) (by kernel_rfl) rfl w hw))
    have e7 : (l.drop 10).take 1 = [n7.v] := by rw [hc7, u7]
    have s : l = l.drop 0 := rfl
    have s0 : l.drop 0 = (l.drop 0).take 1 ++ l.drop 1 := cutL 0 1
    rw [e0] at s0
    have s1 : l.drop 1 = (l.drop 1).take 1 ++ l.drop 2 := cutL 1 1
    rw [e1] at s1
    have s2 : l.drop 2 = (l.drop 2).take 1 ++ l.drop 3 := cutL 2 1
    rw [e2] at s2
    have s3 : l.drop 3 = (l.drop 3).take 4 ++ l.drop 7 := cutL 3 4
    rw [e3] at s3
    have s4 : l.drop 7 = (l.drop 7).take 1 ++ l.drop 8 := cutL 7 1
    rw [e4] at s4
    have s5 : l.drop 8 = (l.drop 8).take 1 ++ l.drop 9 := cutL 8 1
    rw [e5] at s5
    have s6 : l.drop 9 = (l.drop 9).take 1 ++ l.drop 10 := cutL 9 1
    rw [e6] at s6
    have s7 : l.drop 10 = (l.drop 10).take 1 ++ l.drop 11 := cutL 10 1
    rw [e7] at s7
    have sz : l.drop 11 = [] := List.drop_of_length_le (by omega)
    refine ⟨⟨n0, n1, n2, n3, n4, n5, n6, n7⟩, z4, z7, ?_, a4, b4, a7, b7⟩
    rw [s, s0, s1, s2, s3, s4, s5, s6, s7, sz]
    rfl
set_option maxRecDepth 100000 in
theorem opened_ask (H : Type) (enc : TypeId × Value → H) (W : World) (b0 : Nat) (v : Value) (d0 : DataW H) (p0 : List MemPlace) (hv : Value.okWide Try.prog W .any b0 27 v)
    (h0 : DataW.Trod enc Try.prog W 0 (fun _ => true) true 27 v d0 p0) {ts : List TypeId} {ds : List (DataW H)} (hsz : (DataW.weightsEach Try.prog ts ds).all (· ≤ reachBytes) = true) {j : Nat} (ht : ts[j]? = some 27) (hd : ds[j]? = some d0) :
    ∃ (q : Aq) (gs zs : List Int), v = .agg (Aq.cells q) ∧ RdI W q.g gs ∧ (q.g.a = none → q.g.k = 0) ∧ RdB W q.da zs ∧ q.da.l ≤ 140737488351232 := by
  obtain ⟨cs, rfl, _⟩ := okWide_struct U27 hv
  obtain ⟨fuel, hf⟩ := h0
  obtain ⟨q, gs, zs, e, h1, h2, h3, h4⟩ := ask_ok hf (fun n hn => by
    have := List.all_eq_true.1 hsz _ (DataW.weights_mem_each ht hd n hn)
    simpa using this)
  simp only [Value.cells] at e
  obtain ⟨l⟩ := cs
  simp only [] at e
  exact ⟨q, gs, zs, by rw [e]; rfl, h1, h2, h3, h4⟩
theorem opened_stps (H : Type) (enc : TypeId × Value → H) (W : World) (a0 : Option Addr) (len0 cap0 : Nat) (d0 : DataW H) (p0 : List MemPlace)
    (h0 : DataW.Trod enc Try.prog W 0 (fun _ => true) true 28 (.slice a0 len0 cap0) d0 p0)
    {ts : List TypeId} {ds : List (DataW H)} (hsz : (DataW.weightsEach Try.prog ts ds).all (· ≤ reachBytes) = true) {j : Nat} (ht : ts[j]? = some 28) (hd : ds[j]? = some d0) :
    ∃ xs : List Stp, len0 ≤ 140737488351232 ∧ RdS W ⟨a0, len0, cap0⟩ xs := by
  obtain ⟨fuel, hf⟩ := h0
  rcases Go.Deep.open_slice U28 hf with ⟨hcs, _⟩ | ⟨x, l, c, m, n, D, Pl, hcs, hq, hl, hm, hmm, hx, hel⟩
  · simp [Value.cells] at hcs
    obtain ⟨rfl, rfl, rfl⟩ := hcs
    exact ⟨[], by omega, RowsAt.nil _ _ _, rfl, fun x hx => by simp at hx⟩
  · simp [Value.cells] at hcs
    obtain ⟨rfl, rfl, rfl⟩ := hcs
    simp only [if_true] at hmm
    subst hmm
    simp only [Prod.mk.injEq] at hx
    have hw : ∀ n ∈ d0.weights Try.prog 28, n ≤ reachBytes := fun n hn => by
      have := List.all_eq_true.1 hsz _ (DataW.weights_mem_each ht hd n hn)
      simpa using this
    have hb : len0 ≤ 140737488351232 := by
      have := sized_slice hsz (j := j) (t := 28) (e := 54) ht (by rw [hd, hx.1]) U28
      rw [Try.bytes54] at this
      simp [reachBytes] at this
      omega
    rw [Try.cells54] at hel
    have key : ∀ i, i < len0 → ∃ it : Stp, W.cells? 0 (x.add (i * 31)) 31 = some it.cs ∧ ∃ (bs : List Int) (es : List En) (ls : List La) (cs : List Cm), MgIn W it.m bs es ls cs ∧ -9223372036854775808 ≤ it.m.st.n := by
      intro i hi
      obtain ⟨cs', hc, htr⟩ := hel i (by omega)
      obtain ⟨it, rfl, hok⟩ := step_ok htr (fun n hn => hw n (by
        rw [hx.1]; simp only [DataW.weights, U28]
        refine List.mem_cons_of_mem _ (List.mem_append.2 (.inl (weights_all (d := D i) ?_ n hn)))
        exact List.mem_map.2 ⟨i, List.mem_range.2 hi, rfl⟩))
      exact ⟨it, hc, hok⟩
    haveI : Inhabited Stp := ⟨⟨0, mgZ⟩⟩
    obtain ⟨f, hfm⟩ := Go.Deep.choose_lt key
    refine ⟨(List.range len0).map f, hb, ⟨?_, by simp, ?_⟩⟩
    · intro i it hit
      have hi : i < len0 := by have := (List.getElem?_eq_some_iff.1 hit).1; simpa using this
      have e : (f i).cs = it := by simpa [hi] using hit
      obtain ⟨hc, _⟩ := hfm i hi
      have hcs := (World.cells?_some hc).2.2
      obtain ⟨b, off, spot⟩ := x
      have hspot : spot = none := by
        have h00 := (World.cells?_some (hfm 0 (by omega)).1).2.2 0 (by omega)
        have h00' : (f 0).cs[0]? = some (.int .i64 (f 0).k) := rfl
        rw [h00'] at h00
        have := World.cell?_spot h00
        simpa [Addr.add] using this
      subst hspot
      refine ⟨b, off, rfl, fun j u hu => ?_⟩
      rw [← e] at hu
      have hj : j < 31 := (List.getElem?_eq_some_iff.1 hu).1
      have h := hcs j hj
      rw [hu, Go.Deep.add_add, addr_add] at h
      rw [show off + i * 31 + j = off + (i * 31 + j) by omega]
      exact h
    · intro it hit
      obtain ⟨i, hi, rfl⟩ := List.mem_map.1 hit
      exact (hfm i (List.mem_range.1 hi)).2


end Go.Proofs.Ytgiokkcdgoloaaa.Md
