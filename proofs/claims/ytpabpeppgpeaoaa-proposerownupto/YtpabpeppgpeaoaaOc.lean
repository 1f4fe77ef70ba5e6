import Derived.Test.YtpabpeppgpeaoaaRt
import Derived.ProofKit
import Derived.OpenShut
import Derived.ShutString
import Derived.ChangeOld
import Derived.SizedLaws
import Derived.Deep.Slices
namespace Go.Proofs.Ytpabpeppgpeaoaa.Md
open Go.ChangeShapes Go.WideShapes Go.ChangeAt Go.RowKit
open Go.ChangeMaps (open_string shut_string)
set_option linter.unusedVariables false
set_option linter.unusedSimpArgs false

theorem own : ownKnob Try.prog.godebug = none := by kernel_rfl
theorem laidOut : laidOutB Try.prog = true := by kernel_rfl
theorem cutL {α : Type} {l : List α} (a n : Nat) : l.drop a = (l.drop a).take n ++ l.drop (a + n) := by
  rw [← List.drop_drop]; exact (List.take_append_drop _ _).symm
theorem Try.cells3 : Try.prog.cellsOf 3 = 1 := by kernel_rfl
theorem Try.cells9 : Try.prog.cellsOf 9 = 1 := by kernel_rfl
theorem Try.cells29 : Try.prog.cellsOf 41 = 1 := by kernel_rfl
theorem Try.cells30 : Try.prog.cellsOf 42 = 1 := by kernel_rfl
theorem Try.cells32 : Try.prog.cellsOf 44 = 3 := by kernel_rfl
theorem Try.cells45 : Try.prog.cellsOf 26 = 2 := by kernel_rfl
theorem Try.cells110 : Try.prog.cellsOf 124 = 4 := by kernel_rfl
theorem Try.cells111 : Try.prog.cellsOf 125 = 1 := by kernel_rfl
theorem Try.cells113 : Try.prog.cellsOf 127 = 7 := by kernel_rfl
theorem Try.bytes110 : Try.prog.bytesOf 124 = 40 := by kernel_rfl
theorem Try.bytes113 : Try.prog.bytesOf 127 = 56 := by kernel_rfl
set_option maxRecDepth 100000 in
theorem file_ok {H : Type} {enc : TypeId × Value → H} {W : World} {fuel : Nat} {l : List Value} {x : DataW H × List MemPlace}
    (hf : DataW.trod enc Try.prog W 0 (fun _ => true) true fuel 26 l = some x) : ∃ a b : Int, l = [.int .i64 a, .int .i64 b] := by
  obtain ⟨xs, n, _, _, hl, hlen, hfs⟩ := DataW.trod_struct Try.und45 hf
  rw [Try.cells45] at hl
  have hlen : xs.length = 2 := hlen
  have h0 : DataW.trod enc Try.prog W 0 (fun _ => true) true n 3 ((l.drop 0).take (Try.prog.cellsOf 3)) = xs[0]? := hfs 0 _ rfl
  obtain ⟨y0, hy0⟩ : ∃ y, xs[0]? = some y := ⟨_, List.getElem?_eq_getElem (show 0 < xs.length by omega)⟩
  rw [Try.cells3, hy0] at h0
  obtain ⟨n0, e0, _, _⟩ := DataW.trod_int Try.und3 h0
  have h1 : DataW.trod enc Try.prog W 0 (fun _ => true) true n 3 ((l.drop 1).take (Try.prog.cellsOf 3)) = xs[1]? := hfs 1 _ rfl
  obtain ⟨y1, hy1⟩ : ∃ y, xs[1]? = some y := ⟨_, List.getElem?_eq_getElem (show 1 < xs.length by omega)⟩
  rw [Try.cells3, hy1] at h1
  obtain ⟨n1, e1, _, _⟩ := DataW.trod_int Try.und3 h1
  have s : l = l.drop 0 := rfl
  have s0 : l.drop 0 = (l.drop 0).take 1 ++ l.drop 1 := cutL 0 1
  rw [e0] at s0
  have s1 : l.drop 1 = (l.drop 1).take 1 ++ l.drop 2 := cutL 1 1
  rw [e1] at s1
  have sz : l.drop 2 = [] := List.drop_of_length_le (by omega)
  refine ⟨n0, n1, ?_⟩
  rw [s, s0, s1, sz]
  rfl
set_option maxRecDepth 100000 in
theorem ent_ok {H : Type} {enc : TypeId × Value → H} {W : World} {fuel : Nat} {l : List Value} {x : DataW H × List MemPlace}
    (hf : DataW.trod enc Try.prog W 0 (fun _ => true) true fuel 124 l = some x) : ∃ c : En, l = c.cs := by
  obtain ⟨xs, n, _, _, hl, hlen, hfs⟩ := DataW.trod_struct Try.und110 hf
  rw [Try.cells110] at hl
  have hlen : xs.length = 3 := hlen
  have h0 : DataW.trod enc Try.prog W 0 (fun _ => true) true n 9 ((l.drop 0).take (Try.prog.cellsOf 9)) = xs[0]? := hfs 0 _ rfl
  obtain ⟨y0, hy0⟩ : ∃ y, xs[0]? = some y := ⟨_, List.getElem?_eq_getElem (show 0 < xs.length by omega)⟩
  rw [Try.cells9, hy0] at h0
  obtain ⟨n0, e0, _, _⟩ := DataW.trod_string Try.und9 h0
  have h1 : DataW.trod enc Try.prog W 0 (fun _ => true) true n 26 ((l.drop 1).take (Try.prog.cellsOf 26)) = xs[1]? := hfs 1 _ rfl
  obtain ⟨y1, hy1⟩ : ∃ y, xs[1]? = some y := ⟨_, List.getElem?_eq_getElem (show 1 < xs.length by omega)⟩
  rw [Try.cells45, hy1] at h1
  obtain ⟨m1, n1, e1⟩ := file_ok h1
  have h2 : DataW.trod enc Try.prog W 0 (fun _ => true) true n 3 ((l.drop 3).take (Try.prog.cellsOf 3)) = xs[2]? := hfs 2 _ rfl
  obtain ⟨y2, hy2⟩ : ∃ y, xs[2]? = some y := ⟨_, List.getElem?_eq_getElem (show 2 < xs.length by omega)⟩
  rw [Try.cells3, hy2] at h2
  obtain ⟨n2, e2, _, _⟩ := DataW.trod_int Try.und3 h2
  have s : l = l.drop 0 := rfl
  have s0 : l.drop 0 = (l.drop 0).take 1 ++ l.drop 1 := cutL 0 1
  rw [e0] at s0
  have s1 : l.drop 1 = (l.drop 1).take 2 ++ l.drop 3 := cutL 1 2
  rw [e1] at s1
  have s2 : l.drop 3 = (l.drop 3).take 1 ++ l.drop 4 := cutL 3 1
  rw [e2] at s2
  have sz : l.drop 4 = [] := List.drop_of_length_le (by omega)
  refine ⟨⟨n0, m1, n1, n2⟩, ?_⟩
  rw [s, s0, s1, s2, sz]
  rfl
set_option maxRecDepth 100000 in
theorem last_ok {H : Type} {enc : TypeId × Value → H} {W : World} {fuel : Nat} {l : List Value} {x : DataW H × List MemPlace}
    (hf : DataW.trod enc Try.prog W 0 (fun _ => true) true fuel 127 l = some x) : ∃ c : La, l = c.cs := by
  obtain ⟨xs, n, _, _, hl, hlen, hfs⟩ := DataW.trod_struct Try.und113 hf
  rw [Try.cells113] at hl
  have hlen : xs.length = 6 := hlen
  have h0 : DataW.trod enc Try.prog W 0 (fun _ => true) true n 3 ((l.drop 0).take (Try.prog.cellsOf 3)) = xs[0]? := hfs 0 _ rfl
  obtain ⟨y0, hy0⟩ : ∃ y, xs[0]? = some y := ⟨_, List.getElem?_eq_getElem (show 0 < xs.length by omega)⟩
  rw [Try.cells3, hy0] at h0
  obtain ⟨n0, e0, _, _⟩ := DataW.trod_int Try.und3 h0
  have h1 : DataW.trod enc Try.prog W 0 (fun _ => true) true n 3 ((l.drop 1).take (Try.prog.cellsOf 3)) = xs[1]? := hfs 1 _ rfl
  obtain ⟨y1, hy1⟩ : ∃ y, xs[1]? = some y := ⟨_, List.getElem?_eq_getElem (show 1 < xs.length by omega)⟩
  rw [Try.cells3, hy1] at h1
  obtain ⟨n1, e1, _, _⟩ := DataW.trod_int Try.und3 h1
  have h2 : DataW.trod enc Try.prog W 0 (fun _ => true) true n 3 ((l.drop 2).take (Try.prog.cellsOf 3)) = xs[2]? := hfs 2 _ rfl
  obtain ⟨y2, hy2⟩ : ∃ y, xs[2]? = some y := ⟨_, List.getElem?_eq_getElem (show 2 < xs.length by omega)⟩
  rw [Try.cells3, hy2] at h2
  obtain ⟨n2, e2, _, _⟩ := DataW.trod_int Try.und3 h2
  have h3 : DataW.trod enc Try.prog W 0 (fun _ => true) true n 125 ((l.drop 3).take (Try.prog.cellsOf 125)) = xs[3]? := hfs 3 _ rfl
  obtain ⟨y3, hy3⟩ : ∃ y, xs[3]? = some y := ⟨_, List.getElem?_eq_getElem (show 3 < xs.length by omega)⟩
  rw [Try.cells111, hy3] at h3
  obtain ⟨n3, e3, _, _⟩ := DataW.trod_int Try.und111 h3
  have h4 : DataW.trod enc Try.prog W 0 (fun _ => true) true n 26 ((l.drop 4).take (Try.prog.cellsOf 26)) = xs[4]? := hfs 4 _ rfl
  obtain ⟨y4, hy4⟩ : ∃ y, xs[4]? = some y := ⟨_, List.getElem?_eq_getElem (show 4 < xs.length by omega)⟩
  rw [Try.cells45, hy4] at h4
  obtain ⟨m4, n4, e4⟩ := file_ok h4
  have h5 : DataW.trod enc Try.prog W 0 (fun _ => true) true n 3 ((l.drop 6).take (Try.prog.cellsOf 3)) = xs[5]? := hfs 5 _ rfl
  obtain ⟨y5, hy5⟩ : ∃ y, xs[5]? = some y := ⟨_, List.getElem?_eq_getElem (show 5 < xs.length by omega)⟩
  rw [Try.cells3, hy5] at h5
  obtain ⟨n5, e5, _, _⟩ := DataW.trod_int Try.und3 h5
  have s : l = l.drop 0 := rfl
  have s0 : l.drop 0 = (l.drop 0).take 1 ++ l.drop 1 := cutL 0 1
  rw [e0] at s0
  have s1 : l.drop 1 = (l.drop 1).take 1 ++ l.drop 2 := cutL 1 1
  rw [e1] at s1
  have s2 : l.drop 2 = (l.drop 2).take 1 ++ l.drop 3 := cutL 2 1
  rw [e2] at s2
  have s3 : l.drop 3 = (l.drop 3).take 1 ++ l.drop 4 := cutL 3 1
  rw [e3] at s3
  have s4 : l.drop 4 = (l.drop 4).take 2 ++ l.drop 6 := cutL 4 2
  rw [e4] at s4
  have s5 : l.drop 6 = (l.drop 6).take 1 ++ l.drop 7 := cutL 6 1
  rw [e5] at s5
  have sz : l.drop 7 = [] := List.drop_of_length_le (by omega)
  refine ⟨⟨n0, n1, n2, n3, m4, n4, n5⟩, ?_⟩
  rw [s, s0, s1, s2, s3, s4, s5, sz]
  rfl
theorem ents_ok {H : Type} {enc : TypeId × Value → H} {W : World} {fuel : Nat} {v : Value} {x : DataW H × List MemPlace}
    (hf : DataW.trod enc Try.prog W 0 (fun _ => true) true fuel 41 [v] = some x) (hs : ∀ n ∈ x.1.weights Try.prog 41, n ≤ reachBytes) :
    ∃ (s : Sl) (xs : List En), v = s.v ∧ RdE W s xs ∧ s.l * 40 ≤ 140737488351232 ∧ s.l ≤ s.k := by
  rcases Go.Deep.open_slice Try.und29 hf with ⟨hcs, _⟩ | ⟨ad, l, cp, m, n, D, PP, hcs, hq, hl, hm, hmm, hx, hel⟩
  · simp at hcs
    exact ⟨slZ, [], hcs, ⟨RowsAt.nil _ _ _, rfl, fun _ => rfl⟩, by show 0 * 40 ≤ _; omega, Nat.le_refl _⟩
  · simp at hcs
    simp only [if_true] at hmm
    subst hmm
    have hb : l * 40 ≤ 140737488351232 := by
      have h1 := hs _ (by rw [hx]; simp only [DataW.weights, Try.und29]; exact List.mem_cons_self ..)
      rw [Try.bytes110] at h1
      simp [reachBytes] at h1
      omega
    rw [Try.cells110] at hel
    have key : ∀ i, i < l → ∃ it : En, W.cells? 0 (ad.add (i * 4)) 4 = some it.cs := by
      intro i hi
      obtain ⟨cs', hc, htr⟩ := hel i (by omega)
      obtain ⟨it, rfl⟩ := ent_ok htr
      exact ⟨it, hc⟩
    obtain ⟨f, hfm⟩ := Go.Deep.choose_lt key
    refine ⟨⟨some ad, l, m⟩, (List.range l).map f, hcs, ⟨?_, by simp, fun e => by cases e⟩, hb, (by show l ≤ m; omega)⟩
    intro i it hit
    have hi : i < l := by have := (List.getElem?_eq_some_iff.1 hit).1; simpa using this
    have e : (f i).cs = it := by simpa [hi] using hit
    have hc := hfm i hi
    have hcs := (World.cells?_some hc).2.2
    obtain ⟨b, off, spot⟩ := ad
    have hspot : spot = none := by
      have h00 := (World.cells?_some (hfm 0 (by omega))).2.2 0 (by omega)
      have h00' : (f 0).cs[0]? = some (.string (f 0).nm) := rfl
      rw [h00'] at h00
      have := World.cell?_spot h00
      simpa [Addr.add] using this
    subst hspot
    refine ⟨b, off, rfl, fun k v hv => ?_⟩
    rw [← e] at hv
    have hk : k < 4 := by have := (List.getElem?_eq_some_iff.1 hv).1; exact this
    have h1 := hcs k hk
    rw [hv, Go.Deep.add_add, addr_add] at h1
    rw [show off + i * 4 + k = off + (i * 4 + k) by omega]
    exact h1
theorem lasts_ok {H : Type} {enc : TypeId × Value → H} {W : World} {fuel : Nat} {v : Value} {x : DataW H × List MemPlace}
    (hf : DataW.trod enc Try.prog W 0 (fun _ => true) true fuel 42 [v] = some x) (hs : ∀ n ∈ x.1.weights Try.prog 42, n ≤ reachBytes) :
    ∃ (s : Sl) (xs : List La), v = s.v ∧ RdL W s xs ∧ s.l * 56 ≤ 140737488351232 ∧ s.l ≤ s.k := by
  rcases Go.Deep.open_slice Try.und30 hf with ⟨hcs, _⟩ | ⟨ad, l, cp, m, n, D, PP, hcs, hq, hl, hm, hmm, hx, hel⟩
  · simp at hcs
    exact ⟨slZ, [], hcs, ⟨RowsAt.nil _ _ _, rfl, fun _ => rfl⟩, by show 0 * 56 ≤ _; omega, Nat.le_refl _⟩
  · simp at hcs
    simp only [if_true] at hmm
    subst hmm
    have hb : l * 56 ≤ 140737488351232 := by
      have h1 := hs _ (by rw [hx]; simp only [DataW.weights, Try.und30]; exact List.mem_cons_self ..)
      rw [Try.bytes113] at h1
      simp [reachBytes] at h1
      omega
    rw [Try.cells113] at hel
    have key : ∀ i, i < l → ∃ it : La, W.cells? 0 (ad.add (i * 7)) 7 = some it.cs := by
      intro i hi
      obtain ⟨cs', hc, htr⟩ := hel i (by omega)
      obtain ⟨it, rfl⟩ := last_ok htr
      exact ⟨it, hc⟩
    obtain ⟨f, hfm⟩ := Go.Deep.choose_lt key
    refine ⟨⟨some ad, l, m⟩, (List.range l).map f, hcs, ⟨?_, by simp, fun e => by cases e⟩, hb, (by show l ≤ m; omega)⟩
    intro i it hit
    have hi : i < l := by have := (List.getElem?_eq_some_iff.1 hit).1; simpa using this
    have e : (f i).cs = it := by simpa [hi] using hit
    have hc := hfm i hi
    have hcs := (World.cells?_some hc).2.2
    obtain ⟨b, off, spot⟩ := ad
    have hspot : spot = none := by
      have h00 := (World.cells?_some (hfm 0 (by omega))).2.2 0 (by omega)
      have h00' : (f 0).cs[0]? = some (.int .i64 (f 0).cl) := rfl
      rw [h00'] at h00
      have := World.cell?_spot h00
      simpa [Addr.add] using this
    subst hspot
    refine ⟨b, off, rfl, fun k v hv => ?_⟩
    rw [← e] at hv
    have hk : k < 7 := by have := (List.getElem?_eq_some_iff.1 hv).1; exact this
    have h1 := hcs k hk
    rw [hv, Go.Deep.add_add, addr_add] at h1
    rw [show off + i * 7 + k = off + (i * 7 + k) by omega]
    exact h1
set_option maxRecDepth 100000 in
theorem bkt_ok {H : Type} {enc : TypeId × Value → H} {W : World} {fuel : Nat} {l : List Value} {x : DataW H × List MemPlace}
    (hf : DataW.trod enc Try.prog W 0 (fun _ => true) true fuel 44 l = some x) (hs : ∀ n ∈ x.1.weights Try.prog 44, n ≤ reachBytes) :
    ∃ (b : Bv) (es : List En) (ls : List La), l = b.cs ∧ RdE W b.e es ∧ RdL W b.l ls ∧ b.e.l * 40 ≤ 140737488351232 ∧ b.l.l * 56 ≤ 140737488351232 := by
  obtain ⟨xs, n, _, rfl, hl, hlen, hfs⟩ := DataW.trod_struct Try.und32 hf
  rw [Try.cells32] at hl
  have hlen : xs.length = 3 := hlen
  match xs, hlen, hfs, hs with
  | [y0, y1, y2], _, hfs, hs =>
    have h0 : DataW.trod enc Try.prog W 0 (fun _ => true) true n 3 ((l.drop 0).take (Try.prog.cellsOf 3)) = some y0 := hfs 0 _ rfl
    rw [Try.cells3] at h0
    obtain ⟨n0, e0, _, _⟩ := DataW.trod_int Try.und3 h0
    have h1 : DataW.trod enc Try.prog W 0 (fun _ => true) true n 41 ((l.drop 1).take (Try.prog.cellsOf 41)) = some y1 := hfs 1 _ rfl
    rw [Try.cells29] at h1
    have g1 : l.drop 1 = (l.drop 1).take 1 ++ l.drop 2 := cutL 1 1
    obtain ⟨c1, hc1⟩ : ∃ c, (l.drop 1).take 1 = [c] := List.length_eq_one_iff.1 (by rw [List.length_take, List.length_drop]; omega)
    rw [hc1] at h1
    obtain ⟨n1, z1, u1, a1, b1, d1⟩ := ents_ok h1 (fun w hw => hs w (by
      simp only [DataW.weights, Try.und32]
      exact DataW.weights_mem_each (j := 1) (t := 41) (d := y1.1) (by kernel_rfl) rfl w hw))
    have e1 : (l.drop 1).take 1 = [n1.v] := by rw [hc1, u1]
    have h2 : DataW.trod enc Try.prog W 0 (fun _ => true) true n 42 ((l.drop 2).take (Try.prog.cellsOf 42)) = some y2 := hfs 2 _ rfl
    rw [Try.cells30] at h2
    have g2 : l.drop 2 = (l.drop 2).take 1 ++ l.drop 3 := cutL 2 1
    obtain ⟨c2, hc2⟩ : ∃ c, (l.drop 2).take 1 = [c] := List.length_eq_one_iff.1 (by rw [List.length_take, List.length_drop]; omega)
    rw [hc2] at h2
    obtain ⟨n2, z2, u2, a2, b2, d2⟩ := lasts_ok h2 (fun w hw => hs w (by
      simp only [DataW.weights, Try.und32]
      exact DataW.weights_mem_each (j := 2) (t := 42) (d := y2.1) (by kernel_rfl) rfl w hw))
    have e2 : (l.drop 2).take 1 = [n2.v] := by rw [hc2, u2]
    have s : l = l.drop 0 := rfl
    have s0 : l.drop 0 = (l.drop 0).take 1 ++ l.drop 1 := cutL 0 1
    rw [e0] at s0
    have s1 : l.drop 1 = (l.drop 1).take 1 ++ l.drop 2 := cutL 1 1
    rw [e1] at s1
    have s2 : l.drop 2 = (l.drop 2).take 1 ++ l.drop 3 := cutL 2 1
    rw [e2] at s2
    have sz : l.drop 3 = [] := List.drop_of_length_le (by omega)
    refine ⟨⟨n0, n1, n2⟩, z1, z2, ?_, a1, a2, b1, b2⟩
    rw [s, s0, s1, s2, sz]
    rfl
end Go.Proofs.Ytpabpeppgpeaoaa.Md
