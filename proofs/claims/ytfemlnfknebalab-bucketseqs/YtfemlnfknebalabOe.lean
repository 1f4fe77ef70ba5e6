import Derived.Test.YtfemlnfknebalabOd
namespace Go.Proofs.Ytfemlnfknebalab
open Go.ChangeShapes Go.WideShapes Go.ChangeAt Go.RowKit
open Go.ChangeMaps (open_string shut_string)
set_option linter.unusedVariables false
set_option linter.unusedSimpArgs false

theorem wf_lo {n : Int} (h : (Lit.int .i64 n).wf = true) : -9223372036854775808 ≤ n := by
  simp only [Lit.wf, Bool.and_eq_true, decide_eq_true_eq] at h
  have h1 : IntKind.min .i64 = -9223372036854775808 := by decide
  rw [h1] at h; exact h.1
theorem wf_hi {n : Int} (h : (Lit.int .i64 n).wf = true) : n ≤ 9223372036854775807 := by
  simp only [Lit.wf, Bool.and_eq_true, decide_eq_true_eq] at h
  have h1 : IntKind.max .i64 = 9223372036854775807 := by decide
  rw [h1] at h; exact h.2
set_option maxRecDepth 100000 in
theorem bkt_okC {H : Type} {enc : TypeId × Value → H} {W : World} {fuel : Nat} {l : List Value} {x : DataW H × List MemPlace}
    (hf : DataW.trod enc Try.prog W 0 (fun _ => true) true fuel 26 l = some x) (hs : ∀ n ∈ x.1.weights Try.prog 26, n ≤ reachBytes) :
    ∃ (u : Int) (s t : Sl) (es : List En) (ls : List La), l = [.int .i64 u, s.v, t.v] ∧ RdE W s es ∧ RdL W t ls ∧ s.l * 40 ≤ 140737488351232 ∧ t.l * 56 ≤ 140737488351232 ∧ s.l ≤ s.k ∧ -9223372036854775808 ≤ u ∧ u ≤ 9223372036854775807 := by
  obtain ⟨xs, n, _, rfl, hl, hlen, hfs⟩ := DataW.trod_struct Try.und25 hf
  rw [Try.cells25] at hl
  have hlen : xs.length = 3 := hlen
  match l, hl, xs, hlen, hfs, hs with
  | [c0, c1, c2], _, [y0, y1, y2], _, hfs, hs =>
    have h0 : DataW.trod enc Try.prog W 0 (fun _ => true) true n 3 (([c0, c1, c2].drop 0).take (Try.prog.cellsOf 3)) = some y0 := hfs 0 _ rfl
    have h1 : DataW.trod enc Try.prog W 0 (fun _ => true) true n 23 (([c0, c1, c2].drop 1).take (Try.prog.cellsOf 23)) = some y1 := hfs 1 _ rfl
    have h2 : DataW.trod enc Try.prog W 0 (fun _ => true) true n 24 (([c0, c1, c2].drop 2).take (Try.prog.cellsOf 24)) = some y2 := hfs 2 _ rfl
    rw [Try.cells3] at h0
    rw [Try.cells22] at h1
    rw [Try.cells23] at h2
    simp only [List.drop_zero, List.take_succ_cons, List.take_zero, List.drop_succ_cons] at h0 h1 h2
    obtain ⟨n0, e0, _, w0⟩ := DataW.trod_int Try.und3 h0
    obtain ⟨a1, l1, k1, e1, es, i1, i2, i3, i4, i5⟩ := ents_ok h1 (fun w hw => hs w (by
      simp only [DataW.weights, Try.und25]
      exact DataW.weights_mem_each (j := 1) (t := 23) (d := y1.1) (by kernel_rfl) rfl w hw))
    obtain ⟨a2, l2, k2, e2, ls, j1, j2, j3, j4, j5⟩ := lasts_ok h2 (fun w hw => hs w (by
      simp only [DataW.weights, Try.und25]
      exact DataW.weights_mem_each (j := 2) (t := 24) (d := y2.1) (by kernel_rfl) rfl w hw))
    simp at e0
    exact ⟨n0, ⟨a1, l1, k1⟩, ⟨a2, l2, k2⟩, es, ls, by rw [e0, e1, e2]; rfl, ⟨i5, i1, i3⟩, ⟨j5, j1, j3⟩, i2, j2, i4, wf_lo w0, wf_hi w0⟩
set_option maxRecDepth 100000 in
theorem opened_bktC (H : Type) (enc : TypeId × Value → H) (W : World) (b0 : Nat) (v : Value) (d0 : DataW H) (p0 : List MemPlace) (hv : Value.okWide Try.prog W .any b0 26 v)
    (h0 : DataW.Trod enc Try.prog W 0 (fun _ => true) true 26 v d0 p0) (hs : ∀ n ∈ d0.weights Try.prog 26, n ≤ reachBytes) :
    ∃ (u : Int) (s t : Sl) (es : List En) (ls : List La), v = .agg (Bv.cells ⟨u, s, t⟩) ∧ RdE W s es ∧ RdL W t ls ∧ s.l * 40 ≤ 140737488351232 ∧ t.l * 56 ≤ 140737488351232 ∧ s.l ≤ s.k ∧ -9223372036854775808 ≤ u ∧ u ≤ 9223372036854775807 := by
  obtain ⟨cs, rfl, _⟩ := okWide_struct Try.und25 hv
  obtain ⟨fuel, hf⟩ := h0
  obtain ⟨u, s, t, es, ls, e, h⟩ := bkt_okC hf hs
  simp only [Value.cells] at e
  obtain ⟨l⟩ := cs
  simp only [] at e
  exact ⟨u, s, t, es, ls, by rw [e]; rfl, h⟩

set_option maxRecDepth 100000 in
theorem opened_cmd (H : Type) (enc : TypeId × Value → H) (W : World) (b0 : Nat) (v : Value) (d0 : DataW H) (p0 : List MemPlace) (hv : Value.okWide Try.prog W .any b0 31 v)
    (h0 : DataW.Trod enc Try.prog W 0 (fun _ => true) true 31 v d0 p0) : ∃ c : Cm, v = .agg (Cm.cells c) := by
  obtain ⟨cs, rfl, _⟩ := okWide_struct Try.und29 hv
  obtain ⟨fuel, hf⟩ := h0
  obtain ⟨c, e⟩ := cmd_ok hf
  simp only [Value.cells] at e
  obtain ⟨l⟩ := cs
  simp only [] at e
  exact ⟨c, by rw [e]; rfl⟩

end Go.Proofs.Ytfemlnfknebalab
