import Derived.Test.YtgdnofacgfjaeaaGreatWiIt
import Derived.ProofKit
import Derived.OpenShut
import Derived.ShutString
import Derived.ChangeOld
import Derived.SizedLaws
import Derived.Deep.Slices
import Derived.Test.YtgdnofacgfjaeaaGreatMe
namespace Go.Proofs.YtgdnofacgfjaeaaGreat.Md
open Go.ChangeShapes Go.WideShapes Go.ChangeAt Go.RowKit
open Go.ChangeMaps (open_string shut_string)
set_option linter.unusedVariables false
set_option linter.unusedSimpArgs false
theorem Tryz.und5 : Tryz.prog.underlying 5 = some (.int .u8) := by kernel_rfl
theorem Tryz.und32 : Tryz.prog.underlying 43 = some (.struct (Tryz.prog.fieldsOf 43)) := by kernel_rfl
theorem own : ownKnob Tryz.prog.godebug = none := by kernel_rfl
theorem laidOut : laidOutB Tryz.prog = true := by kernel_rfl
theorem wf_lo {n : Int} (h : (Lit.int .i64 n).wf = true) : -9223372036854775808 ≤ n := by
  simp only [Lit.wf, Bool.and_eq_true, decide_eq_true_eq] at h
  have h1 : IntKind.min .i64 = -9223372036854775808 := by decide
  rw [h1] at h; exact h.1
theorem cutL {α : Type} {l : List α} (a n : Nat) : l.drop a = (l.drop a).take n ++ l.drop (a + n) := by
  rw [← List.drop_drop]; exact (List.take_append_drop _ _).symm
theorem Tryz.cells3 : Tryz.prog.cellsOf 3 = 1 := by kernel_rfl
theorem Tryz.cells5 : Tryz.prog.cellsOf 5 = 1 := by kernel_rfl
theorem Tryz.cells9 : Tryz.prog.cellsOf 9 = 1 := by kernel_rfl
theorem Tryz.cells25 : Tryz.prog.cellsOf 34 = 2 := by kernel_rfl
theorem Tryz.cells29 : Tryz.prog.cellsOf 40 = 1 := by kernel_rfl
theorem Tryz.cells30 : Tryz.prog.cellsOf 41 = 1 := by kernel_rfl
theorem Tryz.cells32 : Tryz.prog.cellsOf 43 = 3 := by kernel_rfl
theorem Tryz.cells45 : Tryz.prog.cellsOf 37 = 2 := by kernel_rfl
theorem Tryz.cells47 : Tryz.prog.cellsOf 39 = 9 := by kernel_rfl
theorem Tryz.cells110 : Tryz.prog.cellsOf 92 = 4 := by kernel_rfl
theorem Tryz.cells111 : Tryz.prog.cellsOf 47 = 1 := by kernel_rfl
theorem Tryz.cells113 : Tryz.prog.cellsOf 94 = 7 := by kernel_rfl
theorem Tryz.bytes5 : Tryz.prog.bytesOf 5 = 1 := by kernel_rfl
theorem Tryz.bytes110 : Tryz.prog.bytesOf 92 = 40 := by kernel_rfl
theorem Tryz.bytes113 : Tryz.prog.bytesOf 94 = 56 := by kernel_rfl
set_option maxRecDepth 100000 in
theorem file_ok {H : Type} {enc : TypeId × Value → H} {W : World} {fuel : Nat} {l : List Value} {x : DataW H × List MemPlace}
    (hf : DataW.trod enc Tryz.prog W 0 (fun _ => true) true fuel 37 l = some x) : ∃ a b : Int, l = [.int .i64 a, .int .i64 b] := by
  obtain ⟨xs, n, _, _, hl, hlen, hfs⟩ := DataW.trod_struct Tryz.und45 hf
  rw [Tryz.cells45] at hl
  have hlen : xs.length = 2 := hlen
  have h0 : DataW.trod enc Tryz.prog W 0 (fun _ => true) true n 3 ((l.drop 0).take (Tryz.prog.cellsOf 3)) = xs[0]? := hfs 0 _ rfl
  obtain ⟨y0, hy0⟩ : ∃ y, xs[0]? = some y := ⟨_, List.getElem?_eq_getElem (show 0 < xs.length by omega)⟩
  rw [Tryz.cells3, hy0] at h0
  obtain ⟨n0, e0, _, _⟩ := DataW.trod_int Tryz.und3 h0
  have h1 : DataW.trod enc Tryz.prog W 0 (fun _ => true) true n 3 ((l.drop 1).take (Tryz.prog.cellsOf 3)) = xs[1]? := hfs 1 _ rfl
  obtain ⟨y1, hy1⟩ : ∃ y, xs[1]? = some y := ⟨_, List.getElem?_eq_getElem (show 1 < xs.length by omega)⟩
  rw [Tryz.cells3, hy1] at h1
  obtain ⟨n1, e1, _, _⟩ := DataW.trod_int Tryz.und3 h1
  have s : l = l.drop 0 := rfl
  have s0 : l.drop 0 = (l.drop 0).take 1 ++ l.drop 1 := cutL 0 1
  rw [e0] at s0
  have s1 : l.drop 1 = (l.drop 1).take 1 ++ l.drop 2 := cutL 1 1
  rw [e1] at s1
  have sz : l.drop 2 = [] := List.drop_of_length_le (by omega)
  refine ⟨n0, n1, ?_⟩
  rw [s, s0, s1, sz]
  rfl
set_option maxRecDepth 100000 in
theorem stamp_ok {H : Type} {enc : TypeId × Value → H} {W : World} {fuel : Nat} {l : List Value} {x : DataW H × List MemPlace}
    (hf : DataW.trod enc Tryz.prog W 0 (fun _ => true) true fuel 34 l = some x) : ∃ c : Sp, l = c.cs ∧ -9223372036854775808 ≤ c.n := by
  obtain ⟨xs, n, _, _, hl, hlen, hfs⟩ := DataW.trod_struct Tryz.und25 hf
  rw [Tryz.cells25] at hl
  have hlen : xs.length = 2 := hlen
  have h0 : DataW.trod enc Tryz.prog W 0 (fun _ => true) true n 3 ((l.drop 0).take (Tryz.prog.cellsOf 3)) = xs[0]? := hfs 0 _ rfl
  obtain ⟨y0, hy0⟩ : ∃ y, xs[0]? = some y := ⟨_, List.getElem?_eq_getElem (show 0 < xs.length by omega)⟩
  rw [Tryz.cells3, hy0] at h0
  obtain ⟨n0, e0, _, w0⟩ := DataW.trod_int Tryz.und3 h0
  have h1 : DataW.trod enc Tryz.prog W 0 (fun _ => true) true n 3 ((l.drop 1).take (Tryz.prog.cellsOf 3)) = xs[1]? := hfs 1 _ rfl
  obtain ⟨y1, hy1⟩ : ∃ y, xs[1]? = some y := ⟨_, List.getElem?_eq_getElem (show 1 < xs.length by omega)⟩
  rw [Tryz.cells3, hy1] at h1
  obtain ⟨n1, e1, _, _⟩ := DataW.trod_int Tryz.und3 h1
  have s : l = l.drop 0 := rfl
  have s0 : l.drop 0 = (l.drop 0).take 1 ++ l.drop 1 := cutL 0 1
  rw [e0] at s0
  have s1 : l.drop 1 = (l.drop 1).take 1 ++ l.drop 2 := cutL 1 1
  rw [e1] at s1
  have sz : l.drop 2 = [] := List.drop_of_length_le (by omega)
  refine ⟨⟨n0, n1⟩, ?_, wf_lo w0⟩
  rw [s, s0, s1, sz]
  rfl
set_option maxRecDepth 100000 in
theorem cmd_ok {H : Type} {enc : TypeId × Value → H} {W : World} {fuel : Nat} {l : List Value} {x : DataW H × List MemPlace}
    (hf : DataW.trod enc Tryz.prog W 0 (fun _ => true) true fuel 39 l = some x) : ∃ c : Cm, l = c.cs := by
  obtain ⟨xs, n, _, _, hl, hlen, hfs⟩ := DataW.trod_struct Tryz.und47 hf
  rw [Tryz.cells47] at hl
  have hlen : xs.length = 7 := hlen
  have h0 : DataW.trod enc Tryz.prog W 0 (fun _ => true) true n 3 ((l.drop 0).take (Tryz.prog.cellsOf 3)) = xs[0]? := hfs 0 _ rfl
  obtain ⟨y0, hy0⟩ : ∃ y, xs[0]? = some y := ⟨_, List.getElem?_eq_getElem (show 0 < xs.length by omega)⟩
  rw [Tryz.cells3, hy0] at h0
  obtain ⟨n0, e0, _, _⟩ := DataW.trod_int Tryz.und3 h0
  have h1 : DataW.trod enc Tryz.prog W 0 (fun _ => true) true n 3 ((l.drop 1).take (Tryz.prog.cellsOf 3)) = xs[1]? := hfs 1 _ rfl
  obtain ⟨y1, hy1⟩ : ∃ y, xs[1]? = some y := ⟨_, List.getElem?_eq_getElem (show 1 < xs.length by omega)⟩
  rw [Tryz.cells3, hy1] at h1
  obtain ⟨n1, e1, _, _⟩ := DataW.trod_int Tryz.und3 h1
  have h2 : DataW.trod enc Tryz.prog W 0 (fun _ => true) true n 3 ((l.drop 2).take (Tryz.prog.cellsOf 3)) = xs[2]? := hfs 2 _ rfl
  obtain ⟨y2, hy2⟩ : ∃ y, xs[2]? = some y := ⟨_, List.getElem?_eq_getElem (show 2 < xs.length by omega)⟩
  rw [Tryz.cells3, hy2] at h2
  obtain ⟨n2, e2, _, _⟩ := DataW.trod_int Tryz.und3 h2
  have h3 : DataW.trod enc Tryz.prog W 0 (fun _ => true) true n 9 ((l.drop 3).take (Tryz.prog.cellsOf 9)) = xs[3]? := hfs 3 _ rfl
  obtain ⟨y3, hy3⟩ : ∃ y, xs[3]? = some y := ⟨_, List.getElem?_eq_getElem (show 3 < xs.length by omega)⟩
  rw [Tryz.cells9, hy3] at h3
  obtain ⟨n3, e3, _, _⟩ := DataW.trod_string Tryz.und9 h3
  have h4 : DataW.trod enc Tryz.prog W 0 (fun _ => true) true n 37 ((l.drop 4).take (Tryz.prog.cellsOf 37)) = xs[4]? := hfs 4 _ rfl
  obtain ⟨y4, hy4⟩ : ∃ y, xs[4]? = some y := ⟨_, List.getElem?_eq_getElem (show 4 < xs.length by omega)⟩
  rw [Tryz.cells45, hy4] at h4
  obtain ⟨m4, n4, e4⟩ := file_ok h4
  have h5 : DataW.trod enc Tryz.prog W 0 (fun _ => true) true n 37 ((l.drop 6).take (Tryz.prog.cellsOf 37)) = xs[5]? := hfs 5 _ rfl
  obtain ⟨y5, hy5⟩ : ∃ y, xs[5]? = some y := ⟨_, List.getElem?_eq_getElem (show 5 < xs.length by omega)⟩
  rw [Tryz.cells45, hy5] at h5
  obtain ⟨m5, n5, e5⟩ := file_ok h5
  have h6 : DataW.trod enc Tryz.prog W 0 (fun _ => true) true n 3 ((l.drop 8).take (Tryz.prog.cellsOf 3)) = xs[6]? := hfs 6 _ rfl
  obtain ⟨y6, hy6⟩ : ∃ y, xs[6]? = some y := ⟨_, List.getElem?_eq_getElem (show 6 < xs.length by omega)⟩
  rw [Tryz.cells3, hy6] at h6
  obtain ⟨n6, e6, _, _⟩ := DataW.trod_int Tryz.und3 h6
  have s : l = l.drop 0 := rfl
  have s0 : l.drop 0 = (l.drop 0).take 1 ++ l.drop 1 := cutL 0 1
  rw [e0] at s0
  have s1 : l.drop 1 = (l.drop 1).take 1 ++ l.drop 2 := cutL 1 1
  rw [e1] at s1
  have s2 : l.drop 2 = (l.drop 2).take 1 ++ l.drop 3 := cutL 2 1
  rw [e2] at s2
  have s3 : l.drop 3 = (l.drop 3).take 1 ++ l.drop 4 := cutL 3 1
  rw [e3] at s3
  have s4 : l.drop 4 = (l.drop 4).take 2 ++ l.drop 6 := cutL 4 2
  rw [e4] at s4
  have s5 : l.drop 6 = (l.drop 6).take 2 ++ l.drop 8 := cutL 6 2
  rw [e5] at s5
  have s6 : l.drop 8 = (l.drop 8).take 1 ++ l.drop 9 := cutL 8 1
  rw [e6] at s6
  have sz : l.drop 9 = [] := List.drop_of_length_le (by omega)
  refine ⟨⟨n0, n1, n2, n3, m4, n4, m5, n5, n6⟩, ?_⟩
  rw [s, s0, s1, s2, s3, s4, s5, s6, sz]
  rfl
set_option maxRecDepth 100000 in
theorem ent_ok {H : Type} {enc : TypeId × Value → H} {W : World} {fuel : Nat} {l : List Value} {x : DataW H × List MemPlace}
    (hf : DataW.trod enc Tryz.prog W 0 (fun _ => true) true fuel 92 l = some x) : ∃ c : En, l = c.cs := by
  obtain ⟨xs, n, _, _, hl, hlen, hfs⟩ := DataW.trod_struct Tryz.und110 hf
  rw [Tryz.cells110] at hl
  have hlen : xs.length = 3 := hlen
  have h0 : DataW.trod enc Tryz.prog W 0 (fun _ => true) true n 9 ((l.drop 0).take (Tryz.prog.cellsOf 9)) = xs[0]? := hfs 0 _ rfl
  obtain ⟨y0, hy0⟩ : ∃ y, xs[0]? = some y := ⟨_, List.getElem?_eq_getElem (show 0 < xs.length by omega)⟩
  rw [Tryz.cells9, hy0] at h0
  obtain ⟨n0, e0, _, _⟩ := DataW.trod_string Tryz.und9 h0
  have h1 : DataW.trod enc Tryz.prog W 0 (fun _ => true) true n 37 ((l.drop 1).take (Tryz.prog.cellsOf 37)) = xs[1]? := hfs 1 _ rfl
  obtain ⟨y1, hy1⟩ : ∃ y, xs[1]? = some y := ⟨_, List.getElem?_eq_getElem (show 1 < xs.length by omega)⟩
  rw [Tryz.cells45, hy1] at h1
  obtain ⟨m1, n1, e1⟩ := file_ok h1
  have h2 : DataW.trod enc Tryz.prog W 0 (fun _ => true) true n 3 ((l.drop 3).take (Tryz.prog.cellsOf 3)) = xs[2]? := hfs 2 _ rfl
  obtain ⟨y2, hy2⟩ : ∃ y, xs[2]? = some y := ⟨_, List.getElem?_eq_getElem (show 2 < xs.length by omega)⟩
  rw [Tryz.cells3, hy2] at h2
  obtain ⟨n2, e2, _, _⟩ := DataW.trod_int Tryz.und3 h2
  have s : l = l.drop 0 := rfl
  have s0 : l.drop 0 = (l.drop 0).take 1 ++ l.drop 1 := cutL 0 1
  rw [e0] at s0
  have s1 : l.drop 1 = (l.drop 1).take 2 ++ l.drop 3 := cutL 1 2
  rw [e1] at s1
  have s2 : l.drop 3 = (l.drop 3).take 1 ++ l.drop 4 := cutL 3 1
  rw [e2] at s2
  have sz : l.drop 4 = [] := List.drop_of_length_le (by omega)
  refine ⟨⟨n0, m1, n1, n2⟩, ?_⟩
  rw [s, s0, s1, s2, sz]
  rfl
set_option maxRecDepth 100000 in
theorem last_ok {H : Type} {enc : TypeId × Value → H} {W : World} {fuel : Nat} {l : List Value} {x : DataW H × List MemPlace}
    (hf : DataW.trod enc Tryz.prog W 0 (fun _ => true) true fuel 94 l = some x) : ∃ c : La, l = c.cs := by
  obtain ⟨xs, n, _, _, hl, hlen, hfs⟩ := DataW.trod_struct Tryz.und113 hf
  rw [Tryz.cells113] at hl
  have hlen : xs.length = 6 := hlen
  have h0 : DataW.trod enc Tryz.prog W 0 (fun _ => true) true n 3 ((l.drop 0).take (Tryz.prog.cellsOf 3)) = xs[0]? := hfs 0 _ rfl
  obtain ⟨y0, hy0⟩ : ∃ y, xs[0]? = some y := ⟨_, List.getElem?_eq_getElem (show 0 < xs.length by omega)⟩
  rw [Tryz.cells3, hy0] at h0
  obtain ⟨n0, e0, _, _⟩ := DataW.trod_int Tryz.und3 h0
  have h1 : DataW.trod enc Tryz.prog W 0 (fun _ => true) true n 3 ((l.drop 1).take (Tryz.prog.cellsOf 3)) = xs[1]? := hfs 1 _ rfl
  obtain ⟨y1, hy1⟩ : ∃ y, xs[1]? = some y := ⟨_, List.getElem?_eq_getElem (show 1 < xs.length by omega)⟩
  rw [Tryz.cells3, hy1] at h1
  obtain ⟨n1, e1, _, _⟩ := DataW.trod_int Tryz.und3 h1
  have h2 : DataW.trod enc Tryz.prog W 0 (fun _ => true) true n 3 ((l.drop 2).take (Tryz.prog.cellsOf 3)) = xs[2]? := hfs 2 _ rfl
  obtain ⟨y2, hy2⟩ : ∃ y, xs[2]? = some y := ⟨_, List.getElem?_eq_getElem (show 2 < xs.length by omega)⟩
  rw [Tryz.cells3, hy2] at h2
  obtain ⟨n2, e2, _, _⟩ := DataW.trod_int Tryz.und3 h2
  have h3 : DataW.trod enc Tryz.prog W 0 (fun _ => true) true n 47 ((l.drop 3).take (Tryz.prog.cellsOf 47)) = xs[3]? := hfs 3 _ rfl
  obtain ⟨y3, hy3⟩ : ∃ y, xs[3]? = some y := ⟨_, List.getElem?_eq_getElem (show 3 < xs.length by omega)⟩
  rw [Tryz.cells111, hy3] at h3
  obtain ⟨n3, e3, _, _⟩ := DataW.trod_int Tryz.und111 h3
  have h4 : DataW.trod enc Tryz.prog W 0 (fun _ => true) true n 37 ((l.drop 4).take (Tryz.prog.cellsOf 37)) = xs[4]? := hfs 4 _ rfl
  obtain ⟨y4, hy4⟩ : ∃ y, xs[4]? = some y := ⟨_, List.getElem?_eq_getElem (show 4 < xs.length by omega)⟩
  rw [Tryz.cells45, hy4] at h4
  obtain ⟨m4, n4, e4⟩ := file_ok h4
  have h5 : DataW.trod enc Tryz.prog W 0 (fun _ => true) true n 3 ((l.drop 6).take (Tryz.prog.cellsOf 3)) = xs[5]? := hfs 5 _ rfl
  obtain ⟨y5, hy5⟩ : ∃ y, xs[5]? = some y := ⟨_, List.getElem?_eq_getElem (show 5 < xs.length by omega)⟩
  rw [Tryz.cells3, hy5] at h5
  obtain ⟨n5, e5, _, _⟩ := DataW.trod_int Tryz.und3 h5
  have s : l = l.drop 0 := rfl
  have s0 : l.drop 0 = (l.drop 0).take 1 ++ l.drop 1 := cutL 0 1
  rw [e0] at s0
  have s1 : l.drop 1 = (l.drop 1).take 1 ++ l.drop 2 := cutL 1 1
  rw [e1] at s1
  have s2 : l.drop 2 = (l.drop 2).take 1 ++ l.drop 3 := cutL 2 1
  rw [e2] at s2
  have s3 : l.drop 3 = (l.drop 3).take 1 ++ l.drop 4 := cutL 3 1
  rw [e3] at s3
  have s4 : l.drop 4 = (l.drop 4).take 2 ++ l.drop 6 := cutL 4 2
  rw [e4] at s4
  have s5 : l.drop 6 = (l.drop 6).take 1 ++ l.drop 7 := cutL 6 1
  rw [e5] at s5
  have sz : l.drop 7 = [] := List.drop_of_length_le (by omega)
  refine ⟨⟨n0, n1, n2, n3, m4, n4, n5⟩, ?_⟩
  rw [s, s0, s1, s2, s3, s4, s5, sz]
  rfl
theorem ents_ok {H : Type} {enc : TypeId × Value → H} {W : World} {fuel : Nat} {v : Value} {x : DataW H × List MemPlace}
    (hf : DataW.trod enc Tryz.prog W 0 (fun _ => true) true fuel 40 [v] = some x) (hs : ∀ n ∈ x.1.weights Tryz.prog 40, n ≤ reachBytes) :
    ∃ (s : Sl) (xs : List En), v = s.v ∧ RdE W s xs ∧ s.l * 40 ≤ 140737488351232 ∧ s.l ≤ s.k := by
  rcases Go.Deep.open_slice Tryz.und29 hf with ⟨hcs, _⟩ | ⟨ad, l, cp, m, n, D, PP, hcs, hq, hl, hm, hmm, hx, hel⟩
  · simp at hcs
    exact ⟨slZ, [], hcs, ⟨RowsAt.nil _ _ _, rfl, fun _ => rfl⟩, by show 0 * 40 ≤ _; omega, Nat.le_refl _⟩
  · simp at hcs
    simp only [if_true] at hmm
    subst hmm
    have hb : l * 40 ≤ 140737488351232 := by
      have h1 := hs _ (by rw [hx]; simp only [DataW.weights, Tryz.und29]; exact List.mem_cons_self ..)
      rw [Tryz.bytes110] at h1
      simp [reachBytes] at h1
      omega
    rw [Tryz.cells110] at hel
    have key : ∀ i, i < l → ∃ it : En, W.cells? 0 (ad.add (i * 4)) 4 = some it.cs := by
      intro i hi
      obtain ⟨cs', hc, htr⟩ := hel i (by omega)
      obtain ⟨it, rfl⟩ := ent_ok htr
      exact ⟨it, hc⟩
    obtain ⟨f, hfm⟩ := Go.Deep.choose_lt key
    refine ⟨⟨some ad, l, m⟩, (List.range l).map f, hcs, ⟨?_, by simp, fun e => by cases e⟩, hb, (by show l ≤ m; omega)⟩
    intro i it hit
    have hi : i < l := by have := (List.getElem?_eq_some_iff.1 hit).1; simpa using this
    have e : (f i).cs = it := by simpa [hi] using hit
    have hc := hfm i hi
    have hcs := (World.cells?_some hc).2.2
    obtain ⟨b, off, spot⟩ := ad
    have hspot : spot = none := by
      have h00 := (World.cells?_some (hfm 0 (by omega))).2.2 0 (by omega)
      have h00' : (f 0).cs[0]? = some (.string (f 0).nm) := rfl
      rw [h00'] at h00
      have := World.cell?_spot h00
      simpa [Addr.add] using this
    subst hspot
    refine ⟨b, off, rfl, fun k v hv => ?_⟩
    rw [← e] at hv
    have hk : k < 4 := by have := (List.getElem?_eq_some_iff.1 hv).1; exact this
    have h1 := hcs k hk
    rw [hv, Go.Deep.add_add, addr_add] at h1
    rw [show off + i * 4 + k = off + (i * 4 + k) by omega]
    exact h1
theorem lasts_ok {H : Type} {enc : TypeId × Value → H} {W : World} {fuel : Nat} {v : Value} {x : DataW H × List MemPlace}
    (hf : DataW.trod enc Tryz.prog W 0 (fun _ => true) true fuel 41 [v] = some x) (hs : ∀ n ∈ x.1.weights Tryz.prog 41, n ≤ reachBytes) :
    ∃ (s : Sl) (xs : List La), v = s.v ∧ RdL W s xs ∧ s.l * 56 ≤ 140737488351232 ∧ s.l ≤ s.k := by
  rcases Go.Deep.open_slice Tryz.und30 hf with ⟨hcs, _⟩ | ⟨ad, l, cp, m, n, D, PP, hcs, hq, hl, hm, hmm, hx, hel⟩
  · simp at hcs
    exact ⟨slZ, [], hcs, ⟨RowsAt.nil _ _ _, rfl, fun _ => rfl⟩, by show 0 * 56 ≤ _; omega, Nat.le_refl _⟩
  · simp at hcs
    simp only [if_true] at hmm
    subst hmm
    have hb : l * 56 ≤ 140737488351232 := by
      have h1 := hs _ (by rw [hx]; simp only [DataW.weights, Tryz.und30]; exact List.mem_cons_self ..)
      rw [Tryz.bytes113] at h1
      simp [reachBytes] at h1
      omega
    rw [Tryz.cells113] at hel
    have key : ∀ i, i < l → ∃ it : La, W.cells? 0 (ad.add (i * 7)) 7 = some it.cs := by
      intro i hi
      obtain ⟨cs', hc, htr⟩ := hel i (by omega)
      obtain ⟨it, rfl⟩ := last_ok htr
      exact ⟨it, hc⟩
    obtain ⟨f, hfm⟩ := Go.Deep.choose_lt key
    refine ⟨⟨some ad, l, m⟩, (List.range l).map f, hcs, ⟨?_, by simp, fun e => by cases e⟩, hb, (by show l ≤ m; omega)⟩
    intro i it hit
    have hi : i < l := by have := (List.getElem?_eq_some_iff.1 hit).1; simpa using this
    have e : (f i).cs = it := by simpa [hi] using hit
    have hc := hfm i hi
    have hcs := (World.cells?_some hc).2.2
    obtain ⟨b, off, spot⟩ := ad
    have hspot : spot = none := by
      have h00 := (World.cells?_some (hfm 0 (by omega))).2.2 0 (by omega)
      have h00' : (f 0).cs[0]? = some (.int .i64 (f 0).cl) := rfl
      rw [h00'] at h00
      have := World.cell?_spot h00
      simpa [Addr.add] using this
    subst hspot
    refine ⟨b, off, rfl, fun k v hv => ?_⟩
    rw [← e] at hv
    have hk : k < 7 := by have := (List.getElem?_eq_some_iff.1 hv).1; exact this
    have h1 := hcs k hk
    rw [hv, Go.Deep.add_add, addr_add] at h1
    rw [show off + i * 7 + k = off + (i * 7 + k) by omega]
    exact h1
theorem wu_lo {n : Int} (h : (Lit.int .u8 n).wf = true) : 0 ≤ n := by
  simp only [Lit.wf, Bool.and_eq_true, decide_eq_true_eq] at h
  have h1 : IntKind.min .u8 = 0 := by decide
  rw [h1] at h; exact h.1
theorem wu_hi {n : Int} (h : (Lit.int .u8 n).wf = true) : n ≤ 255 := by
  simp only [Lit.wf, Bool.and_eq_true, decide_eq_true_eq] at h
  have h1 : IntKind.max .u8 = 255 := by decide
  rw [h1] at h; exact h.2
theorem u8_map {f : Nat → Int} {l : Nat} {P : Nat → Prop} (h : ∀ i, i < l → P i ∧ 0 ≤ f i ∧ f i ≤ 255) : Wi.U8 ((List.range l).map f) := by
  intro i
  by_cases hi : i < l
  · rw [List.getElem?_map, List.getElem?_range hi]; exact (h i hi).2
  · rw [List.getElem?_eq_none (by simp; omega)]; simp
theorem bytes_ok {H : Type} {enc : TypeId × Value → H} {W : World} {fuel : Nat} {v : Value} {x : DataW H × List MemPlace}
    (hf : DataW.trod enc Tryz.prog W 0 (fun _ => true) true fuel 35 [v] = some x) (hs : ∀ n ∈ x.1.weights Tryz.prog 35, n ≤ reachBytes) :
    ∃ (s : Sl) (xs : List Int), v = s.v ∧ RdB W s xs ∧ s.l ≤ 140737488351232 ∧ s.l ≤ s.k ∧ Wi.U8 xs := by
  rcases Go.Deep.open_slice Tryz.und26 hf with ⟨hcs, _⟩ | ⟨ad, l, cp, m, n, D, PP, hcs, hq, hl, hm, hmm, hx, hel⟩
  · simp at hcs
    exact ⟨slZ, [], hcs, ⟨Nums.nil _ _ _, rfl, fun _ => rfl⟩, by show 0 ≤ _; omega, Nat.le_refl _, Wi.U8.nil⟩
  · simp at hcs
    simp only [if_true] at hmm
    subst hmm
    have hb : l ≤ 140737488351232 := by
      have h1 := hs _ (by rw [hx]; simp only [DataW.weights, Tryz.und26]; exact List.mem_cons_self ..)
      rw [Tryz.bytes5] at h1
      simp [reachBytes] at h1
      omega
    rw [Tryz.cells5] at hel
    have key : ∀ i, i < l → ∃ z : Int, W.cells? 0 (ad.add (i * 1)) 1 = some [.int .u8 z] ∧ 0 ≤ z ∧ z ≤ 255 := by
      intro i hi
      obtain ⟨cs', hc, htr⟩ := hel i (by omega)
      obtain ⟨z, e, _, wz⟩ := DataW.trod_int Tryz.und5 htr
      subst e
      exact ⟨z, hc, wu_lo wz, wu_hi wz⟩
    obtain ⟨f, hfm⟩ := Go.Deep.choose_lt key
    refine ⟨⟨some ad, l, m⟩, (List.range l).map f, hcs, ⟨?_, by simp, fun e => by cases e⟩, hb, (by show l ≤ m; omega), u8_map hfm⟩
    intro i hi0
    have hi : i < l := by simpa using hi0
    have hc := (hfm i hi).1
    have hcs := (World.cells?_some hc).2.2 0 (by omega)
    obtain ⟨b, off, spot⟩ := ad
    have h00' : [Value.int .u8 (f i)][0]? = some (.int .u8 (f i)) := rfl
    rw [h00'] at hcs
    have hspot : spot = none := by
      have h0 := (World.cells?_some (hfm 0 (by omega)).1).2.2 0 (by omega)
      have h00 : [Value.int .u8 (f 0)][0]? = some (.int .u8 (f 0)) := rfl
      rw [h00] at h0
      have := World.cell?_spot h0
      simpa [Addr.add] using this
    subst hspot
    refine ⟨b, off, rfl, ?_⟩
    rw [Go.Deep.add_add, addr_add] at hcs
    rw [show off + i = off + (i * 1 + 0) by omega]
    simpa [hi] using hcs
set_option maxRecDepth 100000 in
theorem bkt_ok {H : Type} {enc : TypeId × Value → H} {W : World} {fuel : Nat} {l : List Value} {x : DataW H × List MemPlace}
    (hf : DataW.trod enc Tryz.prog W 0 (fun _ => true) true fuel 43 l = some x) (hs : ∀ n ∈ x.1.weights Tryz.prog 43, n ≤ reachBytes) :
    ∃ (b : Bv) (es : List En) (ls : List La), l = b.cs ∧ RdE W b.e es ∧ RdL W b.l ls ∧ b.e.l * 40 ≤ 140737488351232 ∧ b.l.l * 56 ≤ 140737488351232 := by
  obtain ⟨xs, n, _, rfl, hl, hlen, hfs⟩ := DataW.trod_struct Tryz.und32 hf
  rw [Tryz.cells32] at hl
  have hlen : xs.length = 3 := hlen
  match xs, hlen, hfs, hs with
  | [y0, y1, y2], _, hfs, hs =>
    have h0 : DataW.trod enc Tryz.prog W 0 (fun _ => true) true n 3 ((l.drop 0).take (Tryz.prog.cellsOf 3)) = some y0 := hfs 0 _ rfl
    rw [Tryz.cells3] at h0
    obtain ⟨n0, e0, _, _⟩ := DataW.trod_int Tryz.und3 h0
    have h1 : DataW.trod enc Tryz.prog W 0 (fun _ => true) true n 40 ((l.drop 1).take (Tryz.prog.cellsOf 40)) = some y1 := hfs 1 _ rfl
    rw [Tryz.cells29] at h1
    have g1 : l.drop 1 = (l.drop 1).take 1 ++ l.drop 2 := cutL 1 1
    obtain ⟨c1, hc1⟩ : ∃ c, (l.drop 1).take 1 = [c] := List.length_eq_one_iff.1 (by rw [List.length_take, List.length_drop]; omega)
    rw [hc1] at h1
    obtain ⟨n1, z1, u1, a1, b1, d1⟩ := ents_ok h1 (fun w hw => hs w (by
      simp only [DataW.weights, Tryz.und32]
      exact DataW.weights_mem_each (j := 1) (t := 40) (d := y1.1) (by kernel_rfl) rfl w hw))
    have e1 : (l.drop 1).take 1 = [n1.v] := by rw [hc1, u1]
    have h2 : DataW.trod enc Tryz.prog W 0 (fun _ => true) true n 41 ((l.drop 2).take (Tryz.prog.cellsOf 41)) = some y2 := hfs 2 _ rfl
    rw [Tryz.cells30] at h2
    have g2 : l.drop 2 = (l.drop 2).take 1 ++ l.drop 3 := cutL 2 1
    obtain ⟨c2, hc2⟩ : ∃ c, (l.drop 2).take 1 = [c] := List.length_eq_one_iff.1 (by rw [List.length_take, List.length_drop]; omega)
    rw [hc2] at h2
    obtain ⟨n2, z2, u2, a2, b2, d2⟩ := lasts_ok h2 (fun w hw => hs w (by
      simp only [DataW.weights, Tryz.und32]
      exact DataW.weights_mem_each (j := 2) (t := 41) (d := y2.1) (by kernel_rfl) rfl w hw))
    have e2 : (l.drop 2).take 1 = [n2.v] := by rw [hc2, u2]
    have s : l = l.drop 0 := rfl
    have s0 : l.drop 0 = (l.drop 0).take 1 ++ l.drop 1 := cutL 0 1
    rw [e0] at s0
    have s1 : l.drop 1 = (l.drop 1).take 1 ++ l.drop 2 := cutL 1 1
    rw [e1] at s1
    have s2 : l.drop 2 = (l.drop 2).take 1 ++ l.drop 3 := cutL 2 1
    rw [e2] at s2
    have sz : l.drop 3 = [] := List.drop_of_length_le (by omega)
    refine ⟨⟨n0, n1, n2⟩, z1, z2, ?_, a1, a2, b1, b2⟩
    rw [s, s0, s1, s2, sz]
    rfl
theorem ints_ok {H : Type} {enc : TypeId × Value → H} {W : World} {fuel : Nat} {v : Value} {x : DataW H × List MemPlace}
    (hf : DataW.trod enc Tryz.prog W 0 (fun _ => true) true fuel 22 [v] = some x) (hs : ∀ n ∈ x.1.weights Tryz.prog 22, n ≤ reachBytes) : ∃ (s : Sl) (zs : List Int), v = s.v ∧ RdI W s zs ∧ s.l ≤ 17592186043904 := by
  rcases open_ints U22 U3 (by kernel_rfl) hf with ⟨hcs, _⟩ | ⟨ad, l, c, zs, hcs, hq, hl, hm, hz, hx, hcell, hwz⟩
  · simp at hcs
    exact ⟨slZ, [], hcs, ⟨Nums.nil _ _ _, rfl⟩, by show 0 ≤ _; omega⟩
  · simp at hcs
    have hz' : zs.length = c := by simpa using hz
    have hb : l ≤ 17592186043904 := by
      have := hs ((l + (zs.length - l)) * Tryz.prog.bytesOf 3) (by
        rw [hx]; simp only [DataW.weights, U22]
        refine List.mem_cons.2 (.inl ?_)
        simp only [lits, List.length_map, List.length_take, List.length_drop]
        rw [Nat.min_eq_left (by omega)])
      rw [show Tryz.prog.bytesOf 3 = 8 by kernel_rfl] at this
      simp only [reachBytes] at this
      omega
    refine ⟨⟨some ad, l, c⟩, zs.take l, hcs, ⟨?_, by simp; omega⟩, hb⟩
    intro i hi
    simp only [List.length_take] at hi
    obtain ⟨b, off, rfl, hc⟩ := ints_at hcell (by omega)
    refine ⟨b, off, rfl, ?_⟩
    rw [List.getElem?_take, if_pos (by omega), hc i (by omega)]
    simp
theorem Tryz.cells22 : Tryz.prog.cellsOf 22 = 1 := by kernel_rfl
theorem Tryz.cells24 : Tryz.prog.cellsOf 24 = 6 := by kernel_rfl
set_option maxRecDepth 100000 in
theorem cfg_ok {H : Type} {enc : TypeId × Value → H} {W : World} {fuel : Nat} {l : List Value} {x : DataW H × List MemPlace}
    (hf : DataW.trod enc Tryz.prog W 0 (fun _ => true) true fuel 24 l = some x) (hs : ∀ n ∈ x.1.weights Tryz.prog 24, n ≤ reachBytes) : ∃ (c : Cg) (zs : List Int), l = c.cs ∧ CgIn W c zs := by
  obtain ⟨xs, n, _, rfl, hl, hlen, hfs⟩ := DataW.trod_struct U24 hf
  rw [Tryz.cells24] at hl
  have hlen : xs.length = 6 := hlen
  match xs, hlen, hfs, hs with
  | [y0, y1, y2, y3, y4, y5], _, hfs, hs =>
    have h0 : DataW.trod enc Tryz.prog W 0 (fun _ => true) true n 22 ((l.drop 0).take (Tryz.prog.cellsOf 22)) = some y0 := hfs 0 _ rfl
    rw [Tryz.cells22] at h0
    obtain ⟨c0, hc0⟩ : ∃ c, (l.drop 0).take 1 = [c] := List.length_eq_one_iff.1 (by rw [List.length_take, List.length_drop]; omega)
    rw [hc0] at h0
    obtain ⟨n0, z0, u0, a0, b0⟩ := ints_ok h0 (fun w hw => hs w (by
      simp only [DataW.weights, U24]
      exact DataW.weights_mem_each (j := 0) (t := 22) (d := y0.1) (by kernel_rfl) rfl w hw))
    have e0 : (l.drop 0).take 1 = [n0.v] := by rw [hc0, u0]
    have h1 : DataW.trod enc Tryz.prog W 0 (fun _ => true) true n 3 ((l.drop 1).take (Tryz.prog.cellsOf 3)) = some y1 := hfs 1 _ rfl
    have h2 : DataW.trod enc Tryz.prog W 0 (fun _ => true) true n 3 ((l.drop 2).take (Tryz.prog.cellsOf 3)) = some y2 := hfs 2 _ rfl
    have h3 : DataW.trod enc Tryz.prog W 0 (fun _ => true) true n 3 ((l.drop 3).take (Tryz.prog.cellsOf 3)) = some y3 := hfs 3 _ rfl
    have h4 : DataW.trod enc Tryz.prog W 0 (fun _ => true) true n 3 ((l.drop 4).take (Tryz.prog.cellsOf 3)) = some y4 := hfs 4 _ rfl
    have h5 : DataW.trod enc Tryz.prog W 0 (fun _ => true) true n 3 ((l.drop 5).take (Tryz.prog.cellsOf 3)) = some y5 := hfs 5 _ rfl
    rw [Tryz.cells3] at h1 h2 h3 h4 h5
    obtain ⟨n1, e1, _, _⟩ := DataW.trod_int Tryz.und3 h1
    obtain ⟨n2, e2, _, _⟩ := DataW.trod_int Tryz.und3 h2
    obtain ⟨n3, e3, _, _⟩ := DataW.trod_int Tryz.und3 h3
    obtain ⟨n4, e4, _, _⟩ := DataW.trod_int Tryz.und3 h4
    obtain ⟨n5, e5, _, _⟩ := DataW.trod_int Tryz.und3 h5
    have s : l = l.drop 0 := rfl
    have s0 : l.drop 0 = (l.drop 0).take 1 ++ l.drop 1 := cutL 0 1
    rw [e0] at s0
    have s1 : l.drop 1 = (l.drop 1).take 1 ++ l.drop 2 := cutL 1 1
    rw [e1] at s1
    have s2 : l.drop 2 = (l.drop 2).take 1 ++ l.drop 3 := cutL 2 1
    rw [e2] at s2
    have s3 : l.drop 3 = (l.drop 3).take 1 ++ l.drop 4 := cutL 3 1
    rw [e3] at s3
    have s4 : l.drop 4 = (l.drop 4).take 1 ++ l.drop 5 := cutL 4 1
    rw [e4] at s4
    have s5 : l.drop 5 = (l.drop 5).take 1 ++ l.drop 6 := cutL 5 1
    rw [e5] at s5
    have sz : l.drop 6 = [] := List.drop_of_length_le (by omega)
    refine ⟨⟨n0, n1, n2, n3, n4, n5⟩, z0, ?_, a0, b0⟩
    rw [s, s0, s1, s2, s3, s4, s5, sz]
    rfl
theorem weights_all {H : Type} {P : Program} {e : TypeId} : ∀ {ds : List (DataW H)} {d : DataW H}, d ∈ ds → ∀ n ∈ d.weights P e, n ∈ DataW.weightsAll P e ds
  | d0 :: r, d, hd, n, hn => by
    rw [DataW.weightsAll, List.mem_append]
    rcases List.mem_cons.1 hd with rfl | h
    · exact .inl hn
    · exact .inr (weights_all h n hn)
theorem rows_ok {H : Type} {enc : TypeId × Value → H} {W : World} {α : Type} [Inhabited α] (cs : α → List Value) (c by' : Nat) (T E : TypeId) (hU : Tryz.prog.underlying T = some (.slice E)) (hc : Tryz.prog.cellsOf E = c) (hby : Tryz.prog.bytesOf E = by') (h0 : 0 < c) (hlen : ∀ a, (cs a).length = c) (P : α → Prop)
    (hel : ∀ (fuel : Nat) (l : List Value) (x : DataW H × List MemPlace), DataW.trod enc Tryz.prog W 0 (fun _ => true) true fuel E l = some x → (∀ n ∈ x.1.weights Tryz.prog E, n ≤ reachBytes) → ∃ a, l = cs a ∧ P a)
    {fuel : Nat} {v : Value} {x : DataW H × List MemPlace} (hf : DataW.trod enc Tryz.prog W 0 (fun _ => true) true fuel T [v] = some x) (hs : ∀ n ∈ x.1.weights Tryz.prog T, n ≤ reachBytes) :
    ∃ (s : Sl) (xs : List α), v = s.v ∧ RowsAt c W s.a (xs.map cs) ∧ xs.length = s.l ∧ (∀ i, i < s.l → P (xs[i]?.getD default)) ∧ s.l * by' ≤ 140737488351232 := by
  rcases Go.Deep.open_slice hU hf with ⟨hcs, _⟩ | ⟨ad, l, cp, m, n, D, PP, hcs, hq, hl, hm, hmm, hx, hel2⟩
  · simp at hcs
    exact ⟨slZ, [], hcs, RowsAt.nil _ _ _, rfl, fun i hi => absurd hi (Nat.not_lt_zero _), by show 0 * by' ≤ _; omega⟩
  · simp at hcs
    simp only [if_true] at hmm
    subst hmm
    have hb : l * by' ≤ 140737488351232 := by
      have h1 := hs _ (by rw [hx]; simp only [DataW.weights, hU]; exact List.mem_cons_self ..)
      rw [hby] at h1
      simp [reachBytes] at h1
      rw [show l + (m - l) = m by omega] at h1
      exact Nat.le_trans (Nat.mul_le_mul_right _ hl) h1
    rw [hc] at hel2
    have key : ∀ i, i < l → ∃ it : α, W.cells? 0 (ad.add (i * c)) c = some (cs it) ∧ P it := by
      intro i hi
      obtain ⟨cs', hc', htr⟩ := hel2 i (by omega)
      obtain ⟨it, rfl, hp⟩ := hel _ _ _ htr (fun n hn => hs n (by
        rw [hx]; simp only [DataW.weights, hU]
        refine List.mem_cons_of_mem _ (List.mem_append.2 (.inl (weights_all (d := D i) ?_ n hn)))
        exact List.mem_map.2 ⟨i, List.mem_range.2 hi, rfl⟩))
      exact ⟨it, hc', hp⟩
    obtain ⟨f, hfm⟩ := Go.Deep.choose_lt key
    refine ⟨⟨some ad, l, m⟩, (List.range l).map f, hcs, ?_, by simp, ?_, hb⟩
    · intro i it hit
      have hi : i < l := by have := (List.getElem?_eq_some_iff.1 hit).1; simpa using this
      have e : cs (f i) = it := by simpa [hi] using hit
      obtain ⟨hc', _⟩ := hfm i hi
      have hcs := (World.cells?_some hc').2.2
      obtain ⟨b, off, spot⟩ := ad
      have hspot : spot = none := by
        have h00 := (World.cells?_some (hfm 0 (by omega)).1).2.2 0 h0
        rw [List.getElem?_eq_getElem (show 0 < (cs (f 0)).length by rw [hlen]; exact h0)] at h00
        have := World.cell?_spot h00
        simpa [Addr.add] using this
      subst hspot
      refine ⟨b, off, rfl, fun j u hu => ?_⟩
      rw [← e] at hu
      have hj : j < c := by have := (List.getElem?_eq_some_iff.1 hu).1; rw [hlen] at this; exact this
      have h := hcs j hj
      rw [hu, Go.Deep.add_add, addr_add] at h
      rw [show off + i * c + j = off + (i * c + j) by omega]
      exact h
    · intro i hi
      have hi : i < l := hi
      rw [List.getElem?_map, List.getElem?_range hi]
      exact (hfm i hi).2
instance : Inhabited Bl := ⟨blZ'⟩
instance : Inhabited In := ⟨inZ'⟩
theorem U70 : Tryz.prog.underlying 70 = some (.slice 73) := by kernel_rfl
theorem U71 : Tryz.prog.underlying 71 = some (.slice 78) := by kernel_rfl
set_option maxRecDepth 100000 in
theorem blk_open {H : Type} {enc : TypeId × Value → H} {W : World} {fuel : Nat} {l : List Value} {x : DataW H × List MemPlace}
    (hf : DataW.trod enc Tryz.prog W 0 (fun _ => true) true fuel 73 l = some x) (hs : ∀ n ∈ x.1.weights Tryz.prog 73, n ≤ reachBytes) :
    ∃ x : Bl, l = x.cs ∧ ∃ bs, BlIn W x bs := by
  obtain ⟨xs, n, _, rfl, hl, hlen, hfs⟩ := DataW.trod_struct U73 hf
  rw [show Tryz.prog.cellsOf 73 = 3 by kernel_rfl] at hl
  have hlen : xs.length = 2 := hlen
  match xs, hlen, hfs, hs with
  | [y0, y1], _, hfs, hs =>
    have h0 : DataW.trod enc Tryz.prog W 0 (fun _ => true) true n 34 ((l.drop 0).take (Tryz.prog.cellsOf 34)) = some y0 := hfs 0 _ rfl
    rw [show Tryz.prog.cellsOf 34 = 2 by kernel_rfl] at h0
    obtain ⟨n0, e0, b0⟩ := stamp_ok h0
    have h1 : DataW.trod enc Tryz.prog W 0 (fun _ => true) true n 35 ((l.drop 2).take (Tryz.prog.cellsOf 35)) = some y1 := hfs 1 _ rfl
    rw [show Tryz.prog.cellsOf 35 = 1 by kernel_rfl] at h1
    obtain ⟨c1, hc1⟩ : ∃ c, (l.drop 2).take 1 = [c] := List.length_eq_one_iff.1 (by rw [List.length_take, List.length_drop]; omega)
    rw [hc1] at h1
    obtain ⟨n1, z1, u1, a1, b1, d1, du1⟩ := bytes_ok h1 (fun w hw => hs w (by
      simp only [DataW.weights, U73]
      exact DataW.weights_mem_each (j := 1) (t := 35) (d := y1.1) (by kernel_rfl) rfl w hw))
    have e1 : (l.drop 2).take 1 = [n1.v] := by rw [hc1, u1]
    have s : l = l.drop 0 := rfl
    have s0 : l.drop 0 = (l.drop 0).take 2 ++ l.drop 2 := cutL 0 2
    rw [e0] at s0
    have s1 : l.drop 2 = (l.drop 2).take 1 ++ l.drop 3 := cutL 2 1
    rw [e1] at s1
    have sz : l.drop 3 = [] := List.drop_of_length_le (by omega)
    refine ⟨⟨n0, n1⟩, ?_, z1, ⟨a1, by omega, du1⟩⟩
    rw [s, s0, s1, sz]
    rfl
set_option maxRecDepth 100000 in
theorem ins_open {H : Type} {enc : TypeId × Value → H} {W : World} {fuel : Nat} {l : List Value} {x : DataW H × List MemPlace}
    (hf : DataW.trod enc Tryz.prog W 0 (fun _ => true) true fuel 78 l = some x) (hs : ∀ n ∈ x.1.weights Tryz.prog 78, n ≤ reachBytes) :
    ∃ x : In, l = x.cs ∧ InIn W x := by
  obtain ⟨xs, n, _, rfl, hl, hlen, hfs⟩ := DataW.trod_struct U78 hf
  rw [show Tryz.prog.cellsOf 78 = 14 by kernel_rfl] at hl
  have hlen : xs.length = 4 := hlen
  match xs, hlen, hfs, hs with
  | [y0, y1, y2, y3], _, hfs, hs =>
    have h0 : DataW.trod enc Tryz.prog W 0 (fun _ => true) true n 34 ((l.drop 0).take (Tryz.prog.cellsOf 34)) = some y0 := hfs 0 _ rfl
    rw [show Tryz.prog.cellsOf 34 = 2 by kernel_rfl] at h0
    obtain ⟨n0, e0, b0⟩ := stamp_ok h0
    have h1 : DataW.trod enc Tryz.prog W 0 (fun _ => true) true n 34 ((l.drop 2).take (Tryz.prog.cellsOf 34)) = some y1 := hfs 1 _ rfl
    rw [show Tryz.prog.cellsOf 34 = 2 by kernel_rfl] at h1
    obtain ⟨n1, e1, b1⟩ := stamp_ok h1
    have h2 : DataW.trod enc Tryz.prog W 0 (fun _ => true) true n 39 ((l.drop 4).take (Tryz.prog.cellsOf 39)) = some y2 := hfs 2 _ rfl
    rw [show Tryz.prog.cellsOf 39 = 9 by kernel_rfl] at h2
    obtain ⟨n2, e2⟩ := cmd_ok h2
    have h3 : DataW.trod enc Tryz.prog W 0 (fun _ => true) true n 4 ((l.drop 13).take (Tryz.prog.cellsOf 4)) = some y3 := hfs 3 _ rfl
    rw [show Tryz.prog.cellsOf 4 = 1 by kernel_rfl] at h3
    obtain ⟨n3, e3, _⟩ := DataW.trod_bool Tryz.und4 h3
    have s : l = l.drop 0 := rfl
    have s0 : l.drop 0 = (l.drop 0).take 2 ++ l.drop 2 := cutL 0 2
    rw [e0] at s0
    have s1 : l.drop 2 = (l.drop 2).take 2 ++ l.drop 4 := cutL 2 2
    rw [e1] at s1
    have s2 : l.drop 4 = (l.drop 4).take 9 ++ l.drop 13 := cutL 4 9
    rw [e2] at s2
    have s3 : l.drop 13 = (l.drop 13).take 1 ++ l.drop 14 := cutL 13 1
    rw [e3] at s3
    have sz : l.drop 14 = [] := List.drop_of_length_le (by omega)
    refine ⟨⟨n0, n1, n2, n3⟩, ?_, ⟨rfl⟩⟩
    rw [s, s0, s1, s2, s3, sz]
    rfl
set_option maxRecDepth 100000 in
theorem opened_os (H : Type) (enc : TypeId × Value → H) (W : World) (a0 : Option Addr) (len0 cap0 : Nat) (d0 : DataW H) (p0 : List MemPlace)
    (h0 : DataW.Trod enc Tryz.prog W 0 (fun _ => true) true 70 (.slice a0 len0 cap0) d0 p0) {ts : List TypeId} {ds : List (DataW H)} (hsz : (DataW.weightsEach Tryz.prog ts ds).all (· ≤ reachBytes) = true) {j : Nat} (ht : ts[j]? = some 70) (hd : ds[j]? = some d0) :
    ∃ xs : List Bl, RdO W ⟨a0, len0, cap0⟩ xs ∧ (∀ i, i < len0 → ∃ bs, BlIn W (oAt xs i) bs) ∧ len0 ≤ 281474976710656 := by
  obtain ⟨fuel, hf⟩ := h0
  have hf' : DataW.trod enc Tryz.prog W 0 (fun _ => true) true fuel 70 [.slice a0 len0 cap0] = some (d0, p0) := hf
  obtain ⟨s, xs, hv, h1, h2, h3, h4⟩ := rows_ok Bl.cs 3 40 70 73 U70 (by kernel_rfl) (by kernel_rfl) (by omega) (fun _ => rfl) (fun x => ∃ bs, BlIn W x bs)
    (fun fuel l x h hs => blk_open h hs) hf' (fun n hn => by
      have := List.all_eq_true.1 hsz _ (DataW.weights_mem_each ht hd n hn)
      simpa using this)
  obtain ⟨sa, sn, sk⟩ := s
  simp only [Sl.v, Value.slice.injEq] at hv
  obtain ⟨rfl, rfl, rfl⟩ := hv
  exact ⟨xs, ⟨h1, h2⟩, h3, by simp only at h4; omega⟩
set_option maxRecDepth 100000 in
theorem opened_ns (H : Type) (enc : TypeId × Value → H) (W : World) (a0 : Option Addr) (len0 cap0 : Nat) (d0 : DataW H) (p0 : List MemPlace)
    (h0 : DataW.Trod enc Tryz.prog W 0 (fun _ => true) true 71 (.slice a0 len0 cap0) d0 p0) {ts : List TypeId} {ds : List (DataW H)} (hsz : (DataW.weightsEach Tryz.prog ts ds).all (· ≤ reachBytes) = true) {j : Nat} (ht : ts[j]? = some 71) (hd : ds[j]? = some d0) :
    ∃ xs : List In, RdN W ⟨a0, len0, cap0⟩ xs ∧ (∀ i, i < len0 → InIn W (nAt xs i)) ∧ len0 ≤ 281474976710656 := by
  obtain ⟨fuel, hf⟩ := h0
  have hf' : DataW.trod enc Tryz.prog W 0 (fun _ => true) true fuel 71 [.slice a0 len0 cap0] = some (d0, p0) := hf
  obtain ⟨s, xs, hv, h1, h2, h3, h4⟩ := rows_ok In.cs 14 120 71 78 U71 (by kernel_rfl) (by kernel_rfl) (by omega) (fun _ => rfl) (fun x => InIn W x)
    (fun fuel l x h hs => ins_open h hs) hf' (fun n hn => by
      have := List.all_eq_true.1 hsz _ (DataW.weights_mem_each ht hd n hn)
      simpa using this)
  obtain ⟨sa, sn, sk⟩ := s
  simp only [Sl.v, Value.slice.injEq] at hv
  obtain ⟨rfl, rfl, rfl⟩ := hv
  exact ⟨xs, ⟨h1, h2⟩, h3, by simp only at h4; omega⟩
instance : Inhabited Mg := ⟨mgZ⟩
instance : Inhabited Bv := ⟨bvZ⟩
instance : Inhabited Cm := ⟨cZ⟩
set_option maxRecDepth 100000 in
theorem opened_cg (H : Type) (enc : TypeId × Value → H) (W : World) (b0 : Nat) (v : Value) (d0 : DataW H) (p0 : List MemPlace) (hv : Value.okWide Tryz.prog W .any b0 24 v)
    (h0 : DataW.Trod enc Tryz.prog W 0 (fun _ => true) true 24 v d0 p0) {ts : List TypeId} {ds : List (DataW H)} (hsz : (DataW.weightsEach Tryz.prog ts ds).all (· ≤ reachBytes) = true) {j : Nat} (ht : ts[j]? = some 24) (hd : ds[j]? = some d0) :
    ∃ (c : Cg) (zs : List Int), v = .agg (Cg.cells c) ∧ CgIn W c zs := by
  obtain ⟨cs, rfl, _⟩ := okWide_struct U24 hv
  obtain ⟨fuel, hf⟩ := h0
  obtain ⟨q, zs, e, h1⟩ := cfg_ok hf (fun n hn => by
    have := List.all_eq_true.1 hsz _ (DataW.weights_mem_each ht hd n hn)
    simpa using this)
  simp only [Value.cells] at e
  obtain ⟨l⟩ := cs
  simp only [] at e
  exact ⟨q, zs, by rw [e]; rfl, h1⟩
set_option maxRecDepth 100000 in
theorem opened_ks (H : Type) (enc : TypeId × Value → H) (W : World) (a0 : Option Addr) (len0 cap0 : Nat) (d0 : DataW H) (p0 : List MemPlace)
    (h0 : DataW.Trod enc Tryz.prog W 0 (fun _ => true) true 27 (.slice a0 len0 cap0) d0 p0) {ts : List TypeId} {ds : List (DataW H)} (hsz : (DataW.weightsEach Tryz.prog ts ds).all (· ≤ reachBytes) = true) {j : Nat} (ht : ts[j]? = some 27) (hd : ds[j]? = some d0) :
    ∃ ks : List Bv, RdK W ⟨a0, len0, cap0⟩ ks ∧ (∀ i, i < len0 → ∃ es ls, BkIn W (kAt ks i) es ls) ∧ len0 ≤ 281474976710656 := by
  obtain ⟨fuel, hf⟩ := h0
  have hf' : DataW.trod enc Tryz.prog W 0 (fun _ => true) true fuel 27 [.slice a0 len0 cap0] = some (d0, p0) := hf
  obtain ⟨s, xs, hv, h1, h2, h3, h4⟩ := rows_ok Bv.cs 3 56 27 43 U27 (by kernel_rfl) (by kernel_rfl) (by omega) (fun _ => rfl) (fun x => ∃ es ls, BkIn W x es ls)
    (fun fuel l x h hs => by obtain ⟨b, es, ls, e, a1, a2, b1, b2⟩ := bkt_ok h hs; exact ⟨b, e, es, ls, ⟨a1, a2, by omega, by omega⟩⟩) hf' (fun n hn => by
      have := List.all_eq_true.1 hsz _ (DataW.weights_mem_each ht hd n hn)
      simpa using this)
  obtain ⟨sa, sn, sk⟩ := s
  simp only [Sl.v, Value.slice.injEq] at hv
  obtain ⟨rfl, rfl, rfl⟩ := hv
  exact ⟨xs, ⟨h1, h2⟩, h3, by simp only at h4; omega⟩
end Go.Proofs.YtgdnofacgfjaeaaGreat.Md
