import Derived.Test.YtfemlnfknebalabOc
namespace Go.Proofs.Ytfemlnfknebalab
open Go.ChangeShapes Go.WideShapes Go.ChangeAt Go.RowKit
open Go.ChangeMaps (open_string shut_string)
set_option linter.unusedVariables false
set_option linter.unusedSimpArgs false

theorem ents_ok {H : Type} {enc : TypeId × Value → H} {W : World} {fuel : Nat} {v : Value} {x : DataW H × List MemPlace}
    (hf : DataW.trod enc Try.prog W 0 (fun _ => true) true fuel 23 [v] = some x) (hs : ∀ n ∈ x.1.weights Try.prog 23, n ≤ reachBytes) :
    ∃ a len cap, v = .slice a len cap ∧ ∃ xs : List En, xs.length = len ∧ len * 40 ≤ 140737488351232 ∧ (a = none → cap = 0) ∧ len ≤ cap ∧ RowsAt 4 W a (xs.map En.cs) := by
  rcases Go.Deep.open_slice Try.und22 hf with ⟨hcs, _⟩ | ⟨ad, l, cp, m, n, D, Pl, hcs, hq, hl, hm, hmm, hx, hel⟩
  · simp at hcs
    exact ⟨none, 0, 0, hcs, [], rfl, by omega, fun _ => rfl, Nat.le_refl _, RowsAt.nil _ _ _⟩
  · simp at hcs
    simp only [if_true] at hmm
    subst hmm
    have hb : l * 40 ≤ 140737488351232 := by
      have h1 := hs _ (by rw [hx]; simp only [DataW.weights, Try.und22]; exact List.mem_cons_self ..)
      rw [Try.bytes54] at h1
      simp [reachBytes] at h1
      omega
    rw [Try.cells54] at hel
    have key : ∀ i, i < l → ∃ it : En, W.cells? 0 (ad.add (i * 4)) 4 = some it.cs := by
      intro i hi
      obtain ⟨cs', hc, htr⟩ := hel i (by omega)
      obtain ⟨it, rfl⟩ := ent_ok htr
      exact ⟨it, hc⟩
    obtain ⟨f, hfm⟩ := Go.Deep.choose_lt key
    refine ⟨some ad, l, m, hcs, (List.range l).map f, by simp, hb, (fun e => by cases e), (by omega), ?_⟩
    intro i it hit
    have hi : i < l := by have := (List.getElem?_eq_some_iff.1 hit).1; simpa using this
    have e : (f i).cs = it := by simpa [hi] using hit
    have hc := hfm i hi
    have hcs := (World.cells?_some hc).2.2
    obtain ⟨b, off, spot⟩ := ad
    have hspot : spot = none := by
      have h00 := (World.cells?_some (hfm 0 (by omega))).2.2 0 (by omega)
      have h00' : (f 0).cs[0]? = some (.string (f 0).nm) := rfl
      rw [h00'] at h00
      have := World.cell?_spot h00
      simpa [Addr.add] using this
    subst hspot
    refine ⟨b, off, rfl, fun k v hv => ?_⟩
    rw [← e] at hv
    have hk : k < 4 := by have := (List.getElem?_eq_some_iff.1 hv).1; exact this
    have h1 := hcs k hk
    rw [hv, Go.Deep.add_add, addr_add] at h1
    rw [show off + i * 4 + k = off + (i * 4 + k) by omega]
    exact h1
theorem lasts_ok {H : Type} {enc : TypeId × Value → H} {W : World} {fuel : Nat} {v : Value} {x : DataW H × List MemPlace}
    (hf : DataW.trod enc Try.prog W 0 (fun _ => true) true fuel 24 [v] = some x) (hs : ∀ n ∈ x.1.weights Try.prog 24, n ≤ reachBytes) :
    ∃ a len cap, v = .slice a len cap ∧ ∃ xs : List La, xs.length = len ∧ len * 56 ≤ 140737488351232 ∧ (a = none → cap = 0) ∧ len ≤ cap ∧ RowsAt 7 W a (xs.map La.cs) := by
  rcases Go.Deep.open_slice Try.und23 hf with ⟨hcs, _⟩ | ⟨ad, l, cp, m, n, D, Pl, hcs, hq, hl, hm, hmm, hx, hel⟩
  · simp at hcs
    exact ⟨none, 0, 0, hcs, [], rfl, by omega, fun _ => rfl, Nat.le_refl _, RowsAt.nil _ _ _⟩
  · simp at hcs
    simp only [if_true] at hmm
    subst hmm
    have hb : l * 56 ≤ 140737488351232 := by
      have h1 := hs _ (by rw [hx]; simp only [DataW.weights, Try.und23]; exact List.mem_cons_self ..)
      rw [Try.bytes64] at h1
      simp [reachBytes] at h1
      omega
    rw [Try.cells64] at hel
    have key : ∀ i, i < l → ∃ it : La, W.cells? 0 (ad.add (i * 7)) 7 = some it.cs := by
      intro i hi
      obtain ⟨cs', hc, htr⟩ := hel i (by omega)
      obtain ⟨it, rfl⟩ := last_ok htr
      exact ⟨it, hc⟩
    obtain ⟨f, hfm⟩ := Go.Deep.choose_lt key
    refine ⟨some ad, l, m, hcs, (List.range l).map f, by simp, hb, (fun e => by cases e), (by omega), ?_⟩
    intro i it hit
    have hi : i < l := by have := (List.getElem?_eq_some_iff.1 hit).1; simpa using this
    have e : (f i).cs = it := by simpa [hi] using hit
    have hc := hfm i hi
    have hcs := (World.cells?_some hc).2.2
    obtain ⟨b, off, spot⟩ := ad
    have hspot : spot = none := by
      have h00 := (World.cells?_some (hfm 0 (by omega))).2.2 0 (by omega)
      have h00' : (f 0).cs[0]? = some (.int .i64 (f 0).cl) := rfl
      rw [h00'] at h00
      have := World.cell?_spot h00
      simpa [Addr.add] using this
    subst hspot
    refine ⟨b, off, rfl, fun k v hv => ?_⟩
    rw [← e] at hv
    have hk : k < 7 := by have := (List.getElem?_eq_some_iff.1 hv).1; exact this
    have h1 := hcs k hk
    rw [hv, Go.Deep.add_add, addr_add] at h1
    rw [show off + i * 7 + k = off + (i * 7 + k) by omega]
    exact h1
set_option maxRecDepth 100000 in
theorem bkt_ok {H : Type} {enc : TypeId × Value → H} {W : World} {fuel : Nat} {l : List Value} {x : DataW H × List MemPlace}
    (hf : DataW.trod enc Try.prog W 0 (fun _ => true) true fuel 26 l = some x) (hs : ∀ n ∈ x.1.weights Try.prog 26, n ≤ reachBytes) :
    ∃ (u : Int) (s t : Sl) (es : List En) (ls : List La), l = [.int .i64 u, s.v, t.v] ∧ RdE W s es ∧ RdL W t ls ∧ s.l * 40 ≤ 140737488351232 ∧ t.l * 56 ≤ 140737488351232 := by
  obtain ⟨xs, n, _, rfl, hl, hlen, hfs⟩ := DataW.trod_struct Try.und25 hf
  rw [Try.cells25] at hl
  have hlen : xs.length = 3 := hlen
  match l, hl, xs, hlen, hfs, hs with
  | [c0, c1, c2], _, [y0, y1, y2], _, hfs, hs =>
    have h0 : DataW.trod enc Try.prog W 0 (fun _ => true) true n 3 (([c0, c1, c2].drop 0).take (Try.prog.cellsOf 3)) = some y0 := hfs 0 _ rfl
    have h1 : DataW.trod enc Try.prog W 0 (fun _ => true) true n 23 (([c0, c1, c2].drop 1).take (Try.prog.cellsOf 23)) = some y1 := hfs 1 _ rfl
    have h2 : DataW.trod enc Try.prog W 0 (fun _ => true) true n 24 (([c0, c1, c2].drop 2).take (Try.prog.cellsOf 24)) = some y2 := hfs 2 _ rfl
    rw [Try.cells3] at h0
    rw [Try.cells22] at h1
    rw [Try.cells23] at h2
    simp only [List.drop_zero, List.take_succ_cons, List.take_zero, List.drop_succ_cons] at h0 h1 h2
    obtain ⟨n0, e0, _, w0⟩ := DataW.trod_int Try.und3 h0
    obtain ⟨a1, l1, k1, e1, es, i1, i2, i3, i4, i5⟩ := ents_ok h1 (fun w hw => hs w (by
      simp only [DataW.weights, Try.und25]
      exact DataW.weights_mem_each (j := 1) (t := 23) (d := y1.1) (by kernel_rfl) rfl w hw))
    obtain ⟨a2, l2, k2, e2, ls, j1, j2, j3, j4, j5⟩ := lasts_ok h2 (fun w hw => hs w (by
      simp only [DataW.weights, Try.und25]
      exact DataW.weights_mem_each (j := 2) (t := 24) (d := y2.1) (by kernel_rfl) rfl w hw))
    simp at e0
    exact ⟨n0, ⟨a1, l1, k1⟩, ⟨a2, l2, k2⟩, es, ls, by rw [e0, e1, e2]; rfl, ⟨i5, i1, i3⟩, ⟨j5, j1, j3⟩, i2, j2⟩
set_option maxRecDepth 100000 in
theorem opened_bkt (H : Type) (enc : TypeId × Value → H) (W : World) (b0 : Nat) (v : Value) (d0 : DataW H) (p0 : List MemPlace) (hv : Value.okWide Try.prog W .any b0 26 v)
    (h0 : DataW.Trod enc Try.prog W 0 (fun _ => true) true 26 v d0 p0) (hs : ∀ n ∈ d0.weights Try.prog 26, n ≤ reachBytes) :
    ∃ (u : Int) (s t : Sl) (es : List En) (ls : List La), v = .agg (Bv.cells ⟨u, s, t⟩) ∧ RdE W s es ∧ RdL W t ls ∧ s.l * 40 ≤ 140737488351232 ∧ t.l * 56 ≤ 140737488351232 := by
  obtain ⟨cs, rfl, _⟩ := okWide_struct Try.und25 hv
  obtain ⟨fuel, hf⟩ := h0
  obtain ⟨u, s, t, es, ls, e, h⟩ := bkt_ok hf hs
  simp only [Value.cells] at e
  obtain ⟨l⟩ := cs
  simp only [] at e
  exact ⟨u, s, t, es, ls, by rw [e]; rfl, h⟩

end Go.Proofs.Ytfemlnfknebalab
