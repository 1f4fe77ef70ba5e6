import Derived.Test.YtcgnbpaaalmkoabBd
import Derived.ProofKit
import Derived.OpenShut
import Derived.ShutString
import Derived.ChangeOld
import Derived.SizedLaws
import Derived.Deep.Slices
namespace Go.Proofs.Ytcgnbpaaalmkoab
open Go.ChangeShapes Go.WideShapes Go.ChangeAt Go.RowKit
open Go.ChangeMaps (open_string shut_string)
set_option linter.unusedVariables false
set_option linter.unusedSimpArgs false

theorem own : ownKnob Try.prog.godebug = none := by kernel_rfl
theorem laidOut : laidOutB Try.prog = true := by kernel_rfl
theorem cutL {α : Type} {l : List α} (a n : Nat) : l.drop a = (l.drop a).take n ++ l.drop (a + n) := by
  rw [← List.drop_drop]; exact (List.take_append_drop _ _).symm
theorem Try.cells3 : Try.prog.cellsOf 3 = 1 := by kernel_rfl
theorem Try.cells4 : Try.prog.cellsOf 4 = 1 := by kernel_rfl
theorem Try.cells9 : Try.prog.cellsOf 9 = 1 := by kernel_rfl
theorem Try.cells5 : Try.prog.cellsOf 5 = 1 := by kernel_rfl
theorem Try.cells111 : Try.prog.cellsOf 92 = 1 := by kernel_rfl
theorem Try.cells45 : Try.prog.cellsOf 41 = 2 := by kernel_rfl
theorem Try.cells25 : Try.prog.cellsOf 23 = 2 := by kernel_rfl
theorem Try.cells47 : Try.prog.cellsOf 43 = 9 := by kernel_rfl
theorem Try.cells70 : Try.prog.cellsOf 65 = 14 := by kernel_rfl
theorem Try.cells89 : Try.prog.cellsOf 73 = 15 := by kernel_rfl
theorem Try.cells110 : Try.prog.cellsOf 91 = 4 := by kernel_rfl
theorem Try.cells113 : Try.prog.cellsOf 94 = 7 := by kernel_rfl
theorem Try.cells26 : Try.prog.cellsOf 24 = 1 := by kernel_rfl
theorem Try.cells29 : Try.prog.cellsOf 27 = 1 := by kernel_rfl
theorem Try.cells30 : Try.prog.cellsOf 28 = 1 := by kernel_rfl
theorem Try.cells33 : Try.prog.cellsOf 31 = 1 := by kernel_rfl
theorem Try.cells28 : Try.prog.cellsOf 26 = 3 := by kernel_rfl
theorem Try.cells32 : Try.prog.cellsOf 30 = 3 := by kernel_rfl
theorem Try.cells35 : Try.prog.cellsOf 33 = 7 := by kernel_rfl
theorem Try.bytes89 : Try.prog.bytesOf 73 = 128 := by kernel_rfl
theorem Try.bytes110 : Try.prog.bytesOf 91 = 40 := by kernel_rfl
theorem Try.bytes113 : Try.prog.bytesOf 94 = 56 := by kernel_rfl
theorem Try.bytes5 : Try.prog.bytesOf 5 = 1 := by kernel_rfl
set_option maxRecDepth 100000 in
theorem file_ok {H : Type} {enc : TypeId × Value → H} {W : World} {fuel : Nat} {l : List Value} {x : DataW H × List MemPlace}
    (hf : DataW.trod enc Try.prog W 0 (fun _ => true) true fuel 41 l = some x) : ∃ a b : Int, l = [.int .i64 a, .int .i64 b] := by
  obtain ⟨xs, n, _, _, hl, hlen, hfs⟩ := DataW.trod_struct Try.und45 hf
  rw [Try.cells45] at hl
  have hlen : xs.length = 2 := hlen
  have h0 : DataW.trod enc Try.prog W 0 (fun _ => true) true n 3 ((l.drop 0).take (Try.prog.cellsOf 3)) = xs[0]? := hfs 0 _ rfl
  obtain ⟨y0, hy0⟩ : ∃ y, xs[0]? = some y := ⟨_, List.getElem?_eq_getElem (show 0 < xs.length by omega)⟩
  rw [Try.cells3, hy0] at h0
  obtain ⟨n0, e0, _, _⟩ := DataW.trod_int Try.und3 h0
  have h1 : DataW.trod enc Try.prog W 0 (fun _ => true) true n 3 ((l.drop 1).take (Try.prog.cellsOf 3)) = xs[1]? := hfs 1 _ rfl
  obtain ⟨y1, hy1⟩ : ∃ y, xs[1]? = some y := ⟨_, List.getElem?_eq_getElem (show 1 < xs.length by omega)⟩
  rw [Try.cells3, hy1] at h1
  obtain ⟨n1, e1, _, _⟩ := DataW.trod_int Try.und3 h1
  have s : l = l.drop 0 := rfl
  have s0 : l.drop 0 = (l.drop 0).take 1 ++ l.drop 1 := cutL 0 1
  rw [e0] at s0
  have s1 : l.drop 1 = (l.drop 1).take 1 ++ l.drop 2 := cutL 1 1
  rw [e1] at s1
  have sz : l.drop 2 = [] := List.drop_of_length_le (by omega)
  refine ⟨n0, n1, ?_⟩
  rw [s, s0, s1, sz]
  rfl
set_option maxRecDepth 100000 in
theorem stamp_ok {H : Type} {enc : TypeId × Value → H} {W : World} {fuel : Nat} {l : List Value} {x : DataW H × List MemPlace}
    (hf : DataW.trod enc Try.prog W 0 (fun _ => true) true fuel 23 l = some x) : ∃ c : Sp, l = c.cs := by
  obtain ⟨xs, n, _, _, hl, hlen, hfs⟩ := DataW.trod_struct Try.und25 hf
  rw [Try.cells25] at hl
  have hlen : xs.length = 2 := hlen
  have h0 : DataW.trod enc Try.prog W 0 (fun _ => true) true n 3 ((l.drop 0).take (Try.prog.cellsOf 3)) = xs[0]? := hfs 0 _ rfl
  obtain ⟨y0, hy0⟩ : ∃ y, xs[0]? = some y := ⟨_, List.getElem?_eq_getElem (show 0 < xs.length by omega)⟩
  rw [Try.cells3, hy0] at h0
  obtain ⟨n0, e0, _, _⟩ := DataW.trod_int Try.und3 h0
  have h1 : DataW.trod enc Try.prog W 0 (fun _ => true) true n 3 ((l.drop 1).take (Try.prog.cellsOf 3)) = xs[1]? := hfs 1 _ rfl
  obtain ⟨y1, hy1⟩ : ∃ y, xs[1]? = some y := ⟨_, List.getElem?_eq_getElem (show 1 < xs.length by omega)⟩
  rw [Try.cells3, hy1] at h1
  obtain ⟨n1, e1, _, _⟩ := DataW.trod_int Try.und3 h1
  have s : l = l.drop 0 := rfl
  have s0 : l.drop 0 = (l.drop 0).take 1 ++ l.drop 1 := cutL 0 1
  rw [e0] at s0
  have s1 : l.drop 1 = (l.drop 1).take 1 ++ l.drop 2 := cutL 1 1
  rw [e1] at s1
  have sz : l.drop 2 = [] := List.drop_of_length_le (by omega)
  refine ⟨⟨n0, n1⟩, ?_⟩
  rw [s, s0, s1, sz]
  rfl
set_option maxRecDepth 100000 in
theorem cmd_ok {H : Type} {enc : TypeId × Value → H} {W : World} {fuel : Nat} {l : List Value} {x : DataW H × List MemPlace}
    (hf : DataW.trod enc Try.prog W 0 (fun _ => true) true fuel 43 l = some x) : ∃ c : Cm, l = c.cs := by
  obtain ⟨xs, n, _, _, hl, hlen, hfs⟩ := DataW.trod_struct Try.und47 hf
  rw [Try.cells47] at hl
  have hlen : xs.length = 7 := hlen
  have h0 : DataW.trod enc Try.prog W 0 (fun _ => true) true n 3 ((l.drop 0).take (Try.prog.cellsOf 3)) = xs[0]? := hfs 0 _ rfl
  obtain ⟨y0, hy0⟩ : ∃ y, xs[0]? = some y := ⟨_, List.getElem?_eq_getElem (show 0 < xs.length by omega)⟩
  rw [Try.cells3, hy0] at h0
  obtain ⟨n0, e0, _, _⟩ := DataW.trod_int Try.und3 h0
  have h1 : DataW.trod enc Try.prog W 0 (fun _ => true) true n 3 ((l.drop 1).take (Try.prog.cellsOf 3)) = xs[1]? := hfs 1 _ rfl
  obtain ⟨y1, hy1⟩ : ∃ y, xs[1]? = some y := ⟨_, List.getElem?_eq_getElem (show 1 < xs.length by omega)⟩
  rw [Try.cells3, hy1] at h1
  obtain ⟨n1, e1, _, _⟩ := DataW.trod_int Try.und3 h1
  have h2 : DataW.trod enc Try.prog W 0 (fun _ => true) true n 3 ((l.drop 2).take (Try.prog.cellsOf 3)) = xs[2]? := hfs 2 _ rfl
  obtain ⟨y2, hy2⟩ : ∃ y, xs[2]? = some y := ⟨_, List.getElem?_eq_getElem (show 2 < xs.length by omega)⟩
  rw [Try.cells3, hy2] at h2
  obtain ⟨n2, e2, _, _⟩ := DataW.trod_int Try.und3 h2
  have h3 : DataW.trod enc Try.prog W 0 (fun _ => true) true n 9 ((l.drop 3).take (Try.prog.cellsOf 9)) = xs[3]? := hfs 3 _ rfl
  obtain ⟨y3, hy3⟩ : ∃ y, xs[3]? = some y := ⟨_, List.getElem?_eq_getElem (show 3 < xs.length by omega)⟩
  rw [Try.cells9, hy3] at h3
  obtain ⟨n3, e3, _, _⟩ := DataW.trod_string Try.und9 h3
  have h4 : DataW.trod enc Try.prog W 0 (fun _ => true) true n 41 ((l.drop 4).take (Try.prog.cellsOf 41)) = xs[4]? := hfs 4 _ rfl
  obtain ⟨y4, hy4⟩ : ∃ y, xs[4]? = some y := ⟨_, List.getElem?_eq_getElem (show 4 < xs.length by omega)⟩
  rw [Try.cells45, hy4] at h4
  obtain ⟨m4, n4, e4⟩ := file_ok h4
  have h5 : DataW.trod enc Try.prog W 0 (fun _ => true) true n 41 ((l.drop 6).take (Try.prog.cellsOf 41)) = xs[5]? := hfs 5 _ rfl
  obtain ⟨y5, hy5⟩ : ∃ y, xs[5]? = some y := ⟨_, List.getElem?_eq_getElem (show 5 < xs.length by omega)⟩
  rw [Try.cells45, hy5] at h5
  obtain ⟨m5, n5, e5⟩ := file_ok h5
  have h6 : DataW.trod enc Try.prog W 0 (fun _ => true) true n 3 ((l.drop 8).take (Try.prog.cellsOf 3)) = xs[6]? := hfs 6 _ rfl
  obtain ⟨y6, hy6⟩ : ∃ y, xs[6]? = some y := ⟨_, List.getElem?_eq_getElem (show 6 < xs.length by omega)⟩
  rw [Try.cells3, hy6] at h6
  obtain ⟨n6, e6, _, _⟩ := DataW.trod_int Try.und3 h6
  have s : l = l.drop 0 := rfl
  have s0 : l.drop 0 = (l.drop 0).take 1 ++ l.drop 1 := cutL 0 1
  rw [e0] at s0
  have s1 : l.drop 1 = (l.drop 1).take 1 ++ l.drop 2 := cutL 1 1
  rw [e1] at s1
  have s2 : l.drop 2 = (l.drop 2).take 1 ++ l.drop 3 := cutL 2 1
  rw [e2] at s2
  have s3 : l.drop 3 = (l.drop 3).take 1 ++ l.drop 4 := cutL 3 1
  rw [e3] at s3
  have s4 : l.drop 4 = (l.drop 4).take 2 ++ l.drop 6 := cutL 4 2
  rw [e4] at s4
  have s5 : l.drop 6 = (l.drop 6).take 2 ++ l.drop 8 := cutL 6 2
  rw [e5] at s5
  have s6 : l.drop 8 = (l.drop 8).take 1 ++ l.drop 9 := cutL 8 1
  rw [e6] at s6
  have sz : l.drop 9 = [] := List.drop_of_length_le (by omega)
  refine ⟨⟨n0, n1, n2, n3, m4, n4, m5, n5, n6⟩, ?_⟩
  rw [s, s0, s1, s2, s3, s4, s5, s6, sz]
  rfl
set_option maxRecDepth 100000 in
theorem inst_ok {H : Type} {enc : TypeId × Value → H} {W : World} {fuel : Nat} {l : List Value} {x : DataW H × List MemPlace}
    (hf : DataW.trod enc Try.prog W 0 (fun _ => true) true fuel 65 l = some x) : ∃ c : In, l = c.cs := by
  obtain ⟨xs, n, _, _, hl, hlen, hfs⟩ := DataW.trod_struct Try.und70 hf
  rw [Try.cells70] at hl
  have hlen : xs.length = 4 := hlen
  have h0 : DataW.trod enc Try.prog W 0 (fun _ => true) true n 23 ((l.drop 0).take (Try.prog.cellsOf 23)) = xs[0]? := hfs 0 _ rfl
  obtain ⟨y0, hy0⟩ : ∃ y, xs[0]? = some y := ⟨_, List.getElem?_eq_getElem (show 0 < xs.length by omega)⟩
  rw [Try.cells25, hy0] at h0
  obtain ⟨n0, e0⟩ := stamp_ok h0
  have h1 : DataW.trod enc Try.prog W 0 (fun _ => true) true n 23 ((l.drop 2).take (Try.prog.cellsOf 23)) = xs[1]? := hfs 1 _ rfl
  obtain ⟨y1, hy1⟩ : ∃ y, xs[1]? = some y := ⟨_, List.getElem?_eq_getElem (show 1 < xs.length by omega)⟩
  rw [Try.cells25, hy1] at h1
  obtain ⟨n1, e1⟩ := stamp_ok h1
  have h2 : DataW.trod enc Try.prog W 0 (fun _ => true) true n 43 ((l.drop 4).take (Try.prog.cellsOf 43)) = xs[2]? := hfs 2 _ rfl
  obtain ⟨y2, hy2⟩ : ∃ y, xs[2]? = some y := ⟨_, List.getElem?_eq_getElem (show 2 < xs.length by omega)⟩
  rw [Try.cells47, hy2] at h2
  obtain ⟨n2, e2⟩ := cmd_ok h2
  have h3 : DataW.trod enc Try.prog W 0 (fun _ => true) true n 4 ((l.drop 13).take (Try.prog.cellsOf 4)) = xs[3]? := hfs 3 _ rfl
  obtain ⟨y3, hy3⟩ : ∃ y, xs[3]? = some y := ⟨_, List.getElem?_eq_getElem (show 3 < xs.length by omega)⟩
  rw [Try.cells4, hy3] at h3
  obtain ⟨n3, e3, _⟩ := DataW.trod_bool Try.und4 h3
  have s : l = l.drop 0 := rfl
  have s0 : l.drop 0 = (l.drop 0).take 2 ++ l.drop 2 := cutL 0 2
  rw [e0] at s0
  have s1 : l.drop 2 = (l.drop 2).take 2 ++ l.drop 4 := cutL 2 2
  rw [e1] at s1
  have s2 : l.drop 4 = (l.drop 4).take 9 ++ l.drop 13 := cutL 4 9
  rw [e2] at s2
  have s3 : l.drop 13 = (l.drop 13).take 1 ++ l.drop 14 := cutL 13 1
  rw [e3] at s3
  have sz : l.drop 14 = [] := List.drop_of_length_le (by omega)
  refine ⟨⟨n0, n1, n2, n3⟩, ?_⟩
  rw [s, s0, s1, s2, s3, sz]
  rfl
set_option maxRecDepth 100000 in
theorem place_ok {H : Type} {enc : TypeId × Value → H} {W : World} {fuel : Nat} {l : List Value} {x : DataW H × List MemPlace}
    (hf : DataW.trod enc Try.prog W 0 (fun _ => true) true fuel 73 l = some x) : ∃ c : Pl, l = c.cs := by
  obtain ⟨xs, n, _, _, hl, hlen, hfs⟩ := DataW.trod_struct Try.und89 hf
  rw [Try.cells89] at hl
  have hlen : xs.length = 2 := hlen
  have h0 : DataW.trod enc Try.prog W 0 (fun _ => true) true n 3 ((l.drop 0).take (Try.prog.cellsOf 3)) = xs[0]? := hfs 0 _ rfl
  obtain ⟨y0, hy0⟩ : ∃ y, xs[0]? = some y := ⟨_, List.getElem?_eq_getElem (show 0 < xs.length by omega)⟩
  rw [Try.cells3, hy0] at h0
  obtain ⟨n0, e0, _, _⟩ := DataW.trod_int Try.und3 h0
  have h1 : DataW.trod enc Try.prog W 0 (fun _ => true) true n 65 ((l.drop 1).take (Try.prog.cellsOf 65)) = xs[1]? := hfs 1 _ rfl
  obtain ⟨y1, hy1⟩ : ∃ y, xs[1]? = some y := ⟨_, List.getElem?_eq_getElem (show 1 < xs.length by omega)⟩
  rw [Try.cells70, hy1] at h1
  obtain ⟨n1, e1⟩ := inst_ok h1
  have s : l = l.drop 0 := rfl
  have s0 : l.drop 0 = (l.drop 0).take 1 ++ l.drop 1 := cutL 0 1
  rw [e0] at s0
  have s1 : l.drop 1 = (l.drop 1).take 14 ++ l.drop 15 := cutL 1 14
  rw [e1] at s1
  have sz : l.drop 15 = [] := List.drop_of_length_le (by omega)
  refine ⟨⟨n0, n1⟩, ?_⟩
  rw [s, s0, s1, sz]
  rfl
set_option maxRecDepth 100000 in
theorem ent_ok {H : Type} {enc : TypeId × Value → H} {W : World} {fuel : Nat} {l : List Value} {x : DataW H × List MemPlace}
    (hf : DataW.trod enc Try.prog W 0 (fun _ => true) true fuel 91 l = some x) : ∃ c : En, l = c.cs := by
  obtain ⟨xs, n, _, _, hl, hlen, hfs⟩ := DataW.trod_struct Try.und110 hf
  rw [Try.cells110] at hl
  have hlen : xs.length = 3 := hlen
  have h0 : DataW.trod enc Try.prog W 0 (fun _ => true) true n 9 ((l.drop 0).take (Try.prog.cellsOf 9)) = xs[0]? := hfs 0 _ rfl
  obtain ⟨y0, hy0⟩ : ∃ y, xs[0]? = some y := ⟨_, List.getElem?_eq_getElem (show 0 < xs.length by omega)⟩
  rw [Try.cells9, hy0] at h0
  obtain ⟨n0, e0, _, _⟩ := DataW.trod_string Try.und9 h0
  have h1 : DataW.trod enc Try.prog W 0 (fun _ => true) true n 41 ((l.drop 1).take (Try.prog.cellsOf 41)) = xs[1]? := hfs 1 _ rfl
  obtain ⟨y1, hy1⟩ : ∃ y, xs[1]? = some y := ⟨_, List.getElem?_eq_getElem (show 1 < xs.length by omega)⟩
  rw [Try.cells45, hy1] at h1
  obtain ⟨m1, n1, e1⟩ := file_ok h1
  have h2 : DataW.trod enc Try.prog W 0 (fun _ => true) true n 3 ((l.drop 3).take (Try.prog.cellsOf 3)) = xs[2]? := hfs 2 _ rfl
  obtain ⟨y2, hy2⟩ : ∃ y, xs[2]? = some y := ⟨_, List.getElem?_eq_getElem (show 2 < xs.length by omega)⟩
  rw [Try.cells3, hy2] at h2
  obtain ⟨n2, e2, _, _⟩ := DataW.trod_int Try.und3 h2
  have s : l = l.drop 0 := rfl
  have s0 : l.drop 0 = (l.drop 0).take 1 ++ l.drop 1 := cutL 0 1
  rw [e0] at s0
  have s1 : l.drop 1 = (l.drop 1).take 2 ++ l.drop 3 := cutL 1 2
  rw [e1] at s1
  have s2 : l.drop 3 = (l.drop 3).take 1 ++ l.drop 4 := cutL 3 1
  rw [e2] at s2
  have sz : l.drop 4 = [] := List.drop_of_length_le (by omega)
  refine ⟨⟨n0, m1, n1, n2⟩, ?_⟩
  rw [s, s0, s1, s2, sz]
  rfl
set_option maxRecDepth 100000 in
theorem last_ok {H : Type} {enc : TypeId × Value → H} {W : World} {fuel : Nat} {l : List Value} {x : DataW H × List MemPlace}
    (hf : DataW.trod enc Try.prog W 0 (fun _ => true) true fuel 94 l = some x) : ∃ c : La, l = c.cs := by
  obtain ⟨xs, n, _, _, hl, hlen, hfs⟩ := DataW.trod_struct Try.und113 hf
  rw [Try.cells113] at hl
  have hlen : xs.length = 6 := hlen
  have h0 : DataW.trod enc Try.prog W 0 (fun _ => true) true n 3 ((l.drop 0).take (Try.prog.cellsOf 3)) = xs[0]? := hfs 0 _ rfl
  obtain ⟨y0, hy0⟩ : ∃ y, xs[0]? = some y := ⟨_, List.getElem?_eq_getElem (show 0 < xs.length by omega)⟩
  rw [Try.cells3, hy0] at h0
  obtain ⟨n0, e0, _, _⟩ := DataW.trod_int Try.und3 h0
  have h1 : DataW.trod enc Try.prog W 0 (fun _ => true) true n 3 ((l.drop 1).take (Try.prog.cellsOf 3)) = xs[1]? := hfs 1 _ rfl
  obtain ⟨y1, hy1⟩ : ∃ y, xs[1]? = some y := ⟨_, List.getElem?_eq_getElem (show 1 < xs.length by omega)⟩
  rw [Try.cells3, hy1] at h1
  obtain ⟨n1, e1, _, _⟩ := DataW.trod_int Try.und3 h1
  have h2 : DataW.trod enc Try.prog W 0 (fun _ => true) true n 3 ((l.drop 2).take (Try.prog.cellsOf 3)) = xs[2]? := hfs 2 _ rfl
  obtain ⟨y2, hy2⟩ : ∃ y, xs[2]? = some y := ⟨_, List.getElem?_eq_getElem (show 2 < xs.length by omega)⟩
  rw [Try.cells3, hy2] at h2
  obtain ⟨n2, e2, _, _⟩ := DataW.trod_int Try.und3 h2
  have h3 : DataW.trod enc Try.prog W 0 (fun _ => true) true n 92 ((l.drop 3).take (Try.prog.cellsOf 92)) = xs[3]? := hfs 3 _ rfl
  obtain ⟨y3, hy3⟩ : ∃ y, xs[3]? = some y := ⟨_, List.getElem?_eq_getElem (show 3 < xs.length by omega)⟩
  rw [Try.cells111, hy3] at h3
  obtain ⟨n3, e3, _, _⟩ := DataW.trod_int Try.und111 h3
  have h4 : DataW.trod enc Try.prog W 0 (fun _ => true) true n 41 ((l.drop 4).take (Try.prog.cellsOf 41)) = xs[4]? := hfs 4 _ rfl
  obtain ⟨y4, hy4⟩ : ∃ y, xs[4]? = some y := ⟨_, List.getElem?_eq_getElem (show 4 < xs.length by omega)⟩
  rw [Try.cells45, hy4] at h4
  obtain ⟨m4, n4, e4⟩ := file_ok h4
  have h5 : DataW.trod enc Try.prog W 0 (fun _ => true) true n 3 ((l.drop 6).take (Try.prog.cellsOf 3)) = xs[5]? := hfs 5 _ rfl
  obtain ⟨y5, hy5⟩ : ∃ y, xs[5]? = some y := ⟨_, List.getElem?_eq_getElem (show 5 < xs.length by omega)⟩
  rw [Try.cells3, hy5] at h5
  obtain ⟨n5, e5, _, _⟩ := DataW.trod_int Try.und3 h5
  have s : l = l.drop 0 := rfl
  have s0 : l.drop 0 = (l.drop 0).take 1 ++ l.drop 1 := cutL 0 1
  rw [e0] at s0
  have s1 : l.drop 1 = (l.drop 1).take 1 ++ l.drop 2 := cutL 1 1
  rw [e1] at s1
  have s2 : l.drop 2 = (l.drop 2).take 1 ++ l.drop 3 := cutL 2 1
  rw [e2] at s2
  have s3 : l.drop 3 = (l.drop 3).take 1 ++ l.drop 4 := cutL 3 1
  rw [e3] at s3
  have s4 : l.drop 4 = (l.drop 4).take 2 ++ l.drop 6 := cutL 4 2
  rw [e4] at s4
  have s5 : l.drop 6 = (l.drop 6).take 1 ++ l.drop 7 := cutL 6 1
  rw [e5] at s5
  have sz : l.drop 7 = [] := List.drop_of_length_le (by omega)
  refine ⟨⟨n0, n1, n2, n3, m4, n4, n5⟩, ?_⟩
  rw [s, s0, s1, s2, s3, s4, s5, sz]
  rfl
theorem ents_ok {H : Type} {enc : TypeId × Value → H} {W : World} {fuel : Nat} {v : Value} {x : DataW H × List MemPlace}
    (hf : DataW.trod enc Try.prog W 0 (fun _ => true) true fuel 27 [v] = some x) (hs : ∀ n ∈ x.1.weights Try.prog 27, n ≤ reachBytes) :
    ∃ (s : Sl) (xs : List En), v = s.v ∧ RdE W s xs ∧ s.l * 40 ≤ 140737488351232 ∧ s.l ≤ s.k := by
  rcases Go.Deep.open_slice Try.und29 hf with ⟨hcs, _⟩ | ⟨ad, l, cp, m, n, D, PP, hcs, hq, hl, hm, hmm, hx, hel⟩
  · simp at hcs
    exact ⟨slZ, [], hcs, ⟨RowsAt.nil _ _ _, rfl, fun _ => rfl⟩, by show 0 * 40 ≤ _; omega, Nat.le_refl _⟩
  · simp at hcs
    simp only [if_true] at hmm
    subst hmm
    have hb : l * 40 ≤ 140737488351232 := by
      have h1 := hs _ (by rw [hx]; simp only [DataW.weights, Try.und29]; exact List.mem_cons_self ..)
      rw [Try.bytes110] at h1
      simp [reachBytes] at h1
      omega
    rw [Try.cells110] at hel
    have key : ∀ i, i < l → ∃ it : En, W.cells? 0 (ad.add (i * 4)) 4 = some it.cs := by
      intro i hi
      obtain ⟨cs', hc, htr⟩ := hel i (by omega)
      obtain ⟨it, rfl⟩ := ent_ok htr
      exact ⟨it, hc⟩
    obtain ⟨f, hfm⟩ := Go.Deep.choose_lt key
    refine ⟨⟨some ad, l, m⟩, (List.range l).map f, hcs, ⟨?_, by simp, fun e => by cases e⟩, hb, (by show l ≤ m; omega)⟩
    intro i it hit
    have hi : i < l := by have := (List.getElem?_eq_some_iff.1 hit).1; simpa using this
    have e : (f i).cs = it := by simpa [hi] using hit
    have hc := hfm i hi
    have hcs := (World.cells?_some hc).2.2
    obtain ⟨b, off, spot⟩ := ad
    have hspot : spot = none := by
      have h00 := (World.cells?_some (hfm 0 (by omega))).2.2 0 (by omega)
      have h00' : (f 0).cs[0]? = some (.string (f 0).nm) := rfl
      rw [h00'] at h00
      have := World.cell?_spot h00
      simpa [Addr.add] using this
    subst hspot
    refine ⟨b, off, rfl, fun k v hv => ?_⟩
    rw [← e] at hv
    have hk : k < 4 := by have := (List.getElem?_eq_some_iff.1 hv).1; exact this
    have h1 := hcs k hk
    rw [hv, Go.Deep.add_add, addr_add] at h1
    rw [show off + i * 4 + k = off + (i * 4 + k) by omega]
    exact h1
theorem lasts_ok {H : Type} {enc : TypeId × Value → H} {W : World} {fuel : Nat} {v : Value} {x : DataW H × List MemPlace}
    (hf : DataW.trod enc Try.prog W 0 (fun _ => true) true fuel 28 [v] = some x) (hs : ∀ n ∈ x.1.weights Try.prog 28, n ≤ reachBytes) :
    ∃ (s : Sl) (xs : List La), v = s.v ∧ RdL W s xs ∧ s.l * 56 ≤ 140737488351232 ∧ s.l ≤ s.k := by
  rcases Go.Deep.open_slice Try.und30 hf with ⟨hcs, _⟩ | ⟨ad, l, cp, m, n, D, PP, hcs, hq, hl, hm, hmm, hx, hel⟩
  · simp at hcs
    exact ⟨slZ, [], hcs, ⟨RowsAt.nil _ _ _, rfl, fun _ => rfl⟩, by show 0 * 56 ≤ _; omega, Nat.le_refl _⟩
  · simp at hcs
    simp only [if_true] at hmm
    subst hmm
    have hb : l * 56 ≤ 140737488351232 := by
      have h1 := hs _ (by rw [hx]; simp only [DataW.weights, Try.und30]; exact List.mem_cons_self ..)
      rw [Try.bytes113] at h1
      simp [reachBytes] at h1
      omega
    rw [Try.cells113] at hel
    have key : ∀ i, i < l → ∃ it : La, W.cells? 0 (ad.add (i * 7)) 7 = some it.cs := by
      intro i hi
      obtain ⟨cs', hc, htr⟩ := hel i (by omega)
      obtain ⟨it, rfl⟩ := last_ok htr
      exact ⟨it, hc⟩
    obtain ⟨f, hfm⟩ := Go.Deep.choose_lt key
    refine ⟨⟨some ad, l, m⟩, (List.range l).map f, hcs, ⟨?_, by simp, fun e => by cases e⟩, hb, (by show l ≤ m; omega)⟩
    intro i it hit
    have hi : i < l := by have := (List.getElem?_eq_some_iff.1 hit).1; simpa using this
    have e : (f i).cs = it := by simpa [hi] using hit
    have hc := hfm i hi
    have hcs := (World.cells?_some hc).2.2
    obtain ⟨b, off, spot⟩ := ad
    have hspot : spot = none := by
      have h00 := (World.cells?_some (hfm 0 (by omega))).2.2 0 (by omega)
      have h00' : (f 0).cs[0]? = some (.int .i64 (f 0).cl) := rfl
      rw [h00'] at h00
      have := World.cell?_spot h00
      simpa [Addr.add] using this
    subst hspot
    refine ⟨b, off, rfl, fun k v hv => ?_⟩
    rw [← e] at hv
    have hk : k < 7 := by have := (List.getElem?_eq_some_iff.1 hv).1; exact this
    have h1 := hcs k hk
    rw [hv, Go.Deep.add_add, addr_add] at h1
    rw [show off + i * 7 + k = off + (i * 7 + k) by omega]
    exact h1
theorem places_ok {H : Type} {enc : TypeId × Value → H} {W : World} {fuel : Nat} {v : Value} {x : DataW H × List MemPlace}
    (hf : DataW.trod enc Try.prog W 0 (fun _ => true) true fuel 31 [v] = some x) (hs : ∀ n ∈ x.1.weights Try.prog 31, n ≤ reachBytes) :
    ∃ (s : Sl) (xs : List Pl), v = s.v ∧ RdP W s xs ∧ s.l * 128 ≤ 140737488351232 ∧ s.l ≤ s.k := by
  rcases Go.Deep.open_slice Try.und33 hf with ⟨hcs, _⟩ | ⟨ad, l, cp, m, n, D, PP, hcs, hq, hl, hm, hmm, hx, hel⟩
  · simp at hcs
    exact ⟨slZ, [], hcs, ⟨RowsAt.nil _ _ _, rfl, fun _ => rfl⟩, by show 0 * 128 ≤ _; omega, Nat.le_refl _⟩
  · simp at hcs
    simp only [if_true] at hmm
    subst hmm
    have hb : l * 128 ≤ 140737488351232 := by
      have h1 := hs _ (by rw [hx]; simp only [DataW.weights, Try.und33]; exact List.mem_cons_self ..)
      rw [Try.bytes89] at h1
      simp [reachBytes] at h1
      omega
    rw [Try.cells89] at hel
    have key : ∀ i, i < l → ∃ it : Pl, W.cells? 0 (ad.add (i * 15)) 15 = some it.cs := by
      intro i hi
      obtain ⟨cs', hc, htr⟩ := hel i (by omega)
      obtain ⟨it, rfl⟩ := place_ok htr
      exact ⟨it, hc⟩
    obtain ⟨f, hfm⟩ := Go.Deep.choose_lt key
    refine ⟨⟨some ad, l, m⟩, (List.range l).map f, hcs, ⟨?_, by simp, fun e => by cases e⟩, hb, (by show l ≤ m; omega)⟩
    intro i it hit
    have hi : i < l := by have := (List.getElem?_eq_some_iff.1 hit).1; simpa using this
    have e : (f i).cs = it := by simpa [hi] using hit
    have hc := hfm i hi
    have hcs := (World.cells?_some hc).2.2
    obtain ⟨b, off, spot⟩ := ad
    have hspot : spot = none := by
      have h00 := (World.cells?_some (hfm 0 (by omega))).2.2 0 (by omega)
      have h00' : (f 0).cs[0]? = some (.int .i64 (f 0).n) := rfl
      rw [h00'] at h00
      have := World.cell?_spot h00
      simpa [Addr.add] using this
    subst hspot
    refine ⟨b, off, rfl, fun k v hv => ?_⟩
    rw [← e] at hv
    have hk : k < 15 := by have := (List.getElem?_eq_some_iff.1 hv).1; exact this
    have h1 := hcs k hk
    rw [hv, Go.Deep.add_add, addr_add] at h1
    rw [show off + i * 15 + k = off + (i * 15 + k) by omega]
    exact h1
theorem bytes_ok {H : Type} {enc : TypeId × Value → H} {W : World} {fuel : Nat} {v : Value} {x : DataW H × List MemPlace}
    (hf : DataW.trod enc Try.prog W 0 (fun _ => true) true fuel 24 [v] = some x) (hs : ∀ n ∈ x.1.weights Try.prog 24, n ≤ reachBytes) :
    ∃ (s : Sl) (xs : List Int), v = s.v ∧ RdB W s xs ∧ s.l ≤ 140737488351232 ∧ s.l ≤ s.k := by
  rcases Go.Deep.open_slice Try.und26 hf with ⟨hcs, _⟩ | ⟨ad, l, cp, m, n, D, PP, hcs, hq, hl, hm, hmm, hx, hel⟩
  · simp at hcs
    exact ⟨slZ, [], hcs, ⟨Nums.nil _ _ _, rfl, fun _ => rfl⟩, by show 0 ≤ _; omega, Nat.le_refl _⟩
  · simp at hcs
    simp only [if_true] at hmm
    subst hmm
    have hb : l ≤ 140737488351232 := by
      have h1 := hs _ (by rw [hx]; simp only [DataW.weights, Try.und26]; exact List.mem_cons_self ..)
      rw [Try.bytes5] at h1
      simp [reachBytes] at h1
      omega
    rw [Try.cells5] at hel
    have key : ∀ i, i < l → ∃ z : Int, W.cells? 0 (ad.add (i * 1)) 1 = some [.int .u8 z] := by
      intro i hi
      obtain ⟨cs', hc, htr⟩ := hel i (by omega)
      obtain ⟨z, e, _, _⟩ := DataW.trod_int Try.und5 htr
      subst e
      exact ⟨z, hc⟩
    obtain ⟨f, hfm⟩ := Go.Deep.choose_lt key
    refine ⟨⟨some ad, l, m⟩, (List.range l).map f, hcs, ⟨?_, by simp, fun e => by cases e⟩, hb, (by show l ≤ m; omega)⟩
    intro i hi0
    have hi : i < l := by simpa using hi0
    have hc := hfm i hi
    have hcs := (World.cells?_some hc).2.2 0 (by omega)
    obtain ⟨b, off, spot⟩ := ad
    have h00' : [Value.int .u8 (f i)][0]? = some (.int .u8 (f i)) := rfl
    rw [h00'] at hcs
    have hspot : spot = none := by
      have h0 := (World.cells?_some (hfm 0 (by omega))).2.2 0 (by omega)
      have h00 : [Value.int .u8 (f 0)][0]? = some (.int .u8 (f 0)) := rfl
      rw [h00] at h0
      have := World.cell?_spot h0
      simpa [Addr.add] using this
    subst hspot
    refine ⟨b, off, rfl, ?_⟩
    rw [Go.Deep.add_add, addr_add] at hcs
    rw [show off + i = off + (i * 1 + 0) by omega]
    simpa [hi] using hcs
set_option maxRecDepth 100000 in
theorem blk_ok {H : Type} {enc : TypeId × Value → H} {W : World} {fuel : Nat} {l : List Value} {x : DataW H × List MemPlace}
    (hf : DataW.trod enc Try.prog W 0 (fun _ => true) true fuel 26 l = some x) (hs : ∀ n ∈ x.1.weights Try.prog 26, n ≤ reachBytes) :
    ∃ (b : Bl) (bs : List Int), l = b.cs ∧ RdB W b.d bs ∧ b.d.l ≤ 140737488351232 := by
  obtain ⟨xs, n, _, rfl, hl, hlen, hfs⟩ := DataW.trod_struct Try.und28 hf
  rw [Try.cells28] at hl
  have hlen : xs.length = 2 := hlen
  match xs, hlen, hfs, hs with
  | [y0, y1], _, hfs, hs =>
    have h0 : DataW.trod enc Try.prog W 0 (fun _ => true) true n 23 ((l.drop 0).take (Try.prog.cellsOf 23)) = some y0 := hfs 0 _ rfl
    rw [Try.cells25] at h0
    obtain ⟨n0, e0⟩ := stamp_ok h0
    have h1 : DataW.trod enc Try.prog W 0 (fun _ => true) true n 24 ((l.drop 2).take (Try.prog.cellsOf 24)) = some y1 := hfs 1 _ rfl
    rw [Try.cells26] at h1
    have g1 : l.drop 2 = (l.drop 2).take 1 ++ l.drop 3 := cutL 2 1
    obtain ⟨c1, hc1⟩ : ∃ c, (l.drop 2).take 1 = [c] := List.length_eq_one_iff.1 (by rw [List.length_take, List.length_drop]; omega)
    rw [hc1] at h1
    obtain ⟨n1, z1, u1, a1, b1, d1⟩ := bytes_ok h1 (fun w hw => hs w (by
      simp only [DataW.weights, Try.und28]
      exact DataW.weights_mem_each (j := 1) (t := 24) (d := y1.1) (by kernel_rfl) rfl w hw))
    have e1 : (l.drop 2).take 1 = [n1.v] := by rw [hc1, u1]
    have s : l = l.drop 0 := rfl
    have s0 : l.drop 0 = (l.drop 0).take 2 ++ l.drop 2 := cutL 0 2
    rw [e0] at s0
    have s1 : l.drop 2 = (l.drop 2).take 1 ++ l.drop 3 := cutL 2 1
    rw [e1] at s1
    have sz : l.drop 3 = [] := List.drop_of_length_le (by omega)
    refine ⟨⟨n0, n1⟩, z1, ?_, a1, b1⟩
    rw [s, s0, s1, sz]
    rfl
set_option maxRecDepth 100000 in
theorem bkt_ok {H : Type} {enc : TypeId × Value → H} {W : World} {fuel : Nat} {l : List Value} {x : DataW H × List MemPlace}
    (hf : DataW.trod enc Try.prog W 0 (fun _ => true) true fuel 30 l = some x) (hs : ∀ n ∈ x.1.weights Try.prog 30, n ≤ reachBytes) :
    ∃ (b : Bv) (es : List En) (ls : List La), l = b.cs ∧ RdE W b.e es ∧ RdL W b.l ls ∧ b.e.l * 40 ≤ 140737488351232 ∧ b.l.l * 56 ≤ 140737488351232 := by
  obtain ⟨xs, n, _, rfl, hl, hlen, hfs⟩ := DataW.trod_struct Try.und32 hf
  rw [Try.cells32] at hl
  have hlen : xs.length = 3 := hlen
  match xs, hlen, hfs, hs with
  | [y0, y1, y2], _, hfs, hs =>
    have h0 : DataW.trod enc Try.prog W 0 (fun _ => true) true n 3 ((l.drop 0).take (Try.prog.cellsOf 3)) = some y0 := hfs 0 _ rfl
    rw [Try.cells3] at h0
    obtain ⟨n0, e0, _, _⟩ := DataW.trod_int Try.und3 h0
    have h1 : DataW.trod enc Try.prog W 0 (fun _ => true) true n 27 ((l.drop 1).take (Try.prog.cellsOf 27)) = some y1 := hfs 1 _ rfl
    rw [Try.cells29] at h1
    have g1 : l.drop 1 = (l.drop 1).take 1 ++ l.drop 2 := cutL 1 1
    obtain ⟨c1, hc1⟩ : ∃ c, (l.drop 1).take 1 = [c] := List.length_eq_one_iff.1 (by rw [List.length_take, List.length_drop]; omega)
    rw [hc1] at h1
    obtain ⟨n1, z1, u1, a1, b1, d1⟩ := ents_ok h1 (fun w hw => hs w (by
      simp only [DataW.weights, Try.und32]
      exact DataW.weights_mem_each (j := 1) (t := 27) (d := y1.1) (by kernel_rfl) rfl w hw))
    have e1 : (l.drop 1).take 1 = [n1.v] := by rw [hc1, u1]
    have h2 : DataW.trod enc Try.prog W 0 (fun _ => true) true n 28 ((l.drop 2).take (Try.prog.cellsOf 28)) = some y2 := hfs 2 _ rfl
    rw [Try.cells30] at h2
    have g2 : l.drop 2 = (l.drop 2).take 1 ++ l.drop 3 := cutL 2 1
    obtain ⟨c2, hc2⟩ : ∃ c, (l.drop 2).take 1 = [c] := List.length_eq_one_iff.1 (by rw [List.length_take, List.length_drop]; omega)
    rw [hc2] at h2
    obtain ⟨n2, z2, u2, a2, b2, d2⟩ := lasts_ok h2 (fun w hw => hs w (by
      simp only [DataW.weights, Try.und32]
      exact DataW.weights_mem_each (j := 2) (t := 28) (d := y2.1) (by kernel_rfl) rfl w hw))
    have e2 : (l.drop 2).take 1 = [n2.v] := by rw [hc2, u2]
    have s : l = l.drop 0 := rfl
    have s0 : l.drop 0 = (l.drop 0).take 1 ++ l.drop 1 := cutL 0 1
    rw [e0] at s0
    have s1 : l.drop 1 = (l.drop 1).take 1 ++ l.drop 2 := cutL 1 1
    rw [e1] at s1
    have s2 : l.drop 2 = (l.drop 2).take 1 ++ l.drop 3 := cutL 2 1
    rw [e2] at s2
    have sz : l.drop 3 = [] := List.drop_of_length_le (by omega)
    refine ⟨⟨n0, n1, n2⟩, z1, z2, ?_, a1, a2, b1, b2⟩
    rw [s, s0, s1, s2, sz]
    rfl
set_option maxRecDepth 100000 in
theorem held_ok {H : Type} {enc : TypeId × Value → H} {W : World} {fuel : Nat} {l : List Value} {x : DataW H × List MemPlace}
    (hf : DataW.trod enc Try.prog W 0 (fun _ => true) true fuel 33 l = some x) (hs : ∀ n ∈ x.1.weights Try.prog 33, n ≤ reachBytes) :
    ∃ (h : Hd) (bs : List Int) (es : List En) (ls : List La) (ps : List Pl), l = h.cs ∧ HdAt W h bs es ls ps := by
  obtain ⟨xs, n, _, rfl, hl, hlen, hfs⟩ := DataW.trod_struct Try.und35 hf
  rw [Try.cells35] at hl
  have hlen : xs.length = 3 := hlen
  match xs, hlen, hfs, hs with
  | [y0, y1, y2], _, hfs, hs =>
    have h0 : DataW.trod enc Try.prog W 0 (fun _ => true) true n 26 ((l.drop 0).take (Try.prog.cellsOf 26)) = some y0 := hfs 0 _ rfl
    rw [Try.cells28] at h0
    obtain ⟨n0, z0, e0, a0, b0⟩ := blk_ok h0 (fun w hw => hs w (by
      simp only [DataW.weights, Try.und35]
      exact DataW.weights_mem_each (j := 0) (t := 26) (d := y0.1) (by kernel_rfl) rfl w hw))
    have h1 : DataW.trod enc Try.prog W 0 (fun _ => true) true n 30 ((l.drop 3).take (Try.prog.cellsOf 30)) = some y1 := hfs 1 _ rfl
    rw [Try.cells32] at h1
    obtain ⟨n1, z1, zz1, e1, a1, aa1, b1, bb1⟩ := bkt_ok h1 (fun w hw => hs w (by
      simp only [DataW.weights, Try.und35]
      exact DataW.weights_mem_each (j := 1) (t := 30) (d := y1.1) (by kernel_rfl) rfl w hw))
    have h2 : DataW.trod enc Try.prog W 0 (fun _ => true) true n 31 ((l.drop 6).take (Try.prog.cellsOf 31)) = some y2 := hfs 2 _ rfl
    rw [Try.cells33] at h2
    have g2 : l.drop 6 = (l.drop 6).take 1 ++ l.drop 7 := cutL 6 1
    obtain ⟨c2, hc2⟩ : ∃ c, (l.drop 6).take 1 = [c] := List.length_eq_one_iff.1 (by rw [List.length_take, List.length_drop]; omega)
    rw [hc2] at h2
    obtain ⟨n2, z2, u2, a2, b2, d2⟩ := places_ok h2 (fun w hw => hs w (by
      simp only [DataW.weights, Try.und35]
      exact DataW.weights_mem_each (j := 2) (t := 31) (d := y2.1) (by kernel_rfl) rfl w hw))
    have e2 : (l.drop 6).take 1 = [n2.v] := by rw [hc2, u2]
    have s : l = l.drop 0 := rfl
    have s0 : l.drop 0 = (l.drop 0).take 3 ++ l.drop 3 := cutL 0 3
    rw [e0] at s0
    have s1 : l.drop 3 = (l.drop 3).take 3 ++ l.drop 6 := cutL 3 3
    rw [e1] at s1
    have s2 : l.drop 6 = (l.drop 6).take 1 ++ l.drop 7 := cutL 6 1
    rw [e2] at s2
    have sz : l.drop 7 = [] := List.drop_of_length_le (by omega)
    refine ⟨⟨n0, n1, n2⟩, z0, z1, zz1, z2, ?_, ⟨a0, a1, aa1, a2, b0, by show n1.e.l ≤ _; omega, by show n1.l.l ≤ _; omega, by show n2.l ≤ _; omega⟩⟩
    rw [s, s0, s1, s2, sz]
    rfl
set_option maxRecDepth 100000 in
theorem opened_held (H : Type) (enc : TypeId × Value → H) (W : World) (b0 : Nat) (v : Value) (d0 : DataW H) (p0 : List MemPlace) (hv : Value.okWide Try.prog W .any b0 33 v)
    (h0 : DataW.Trod enc Try.prog W 0 (fun _ => true) true 33 v d0 p0) (hs : ∀ n ∈ d0.weights Try.prog 33, n ≤ reachBytes) :
    ∃ (h : Hd) (bs : List Int) (es : List En) (ls : List La) (ps : List Pl), v = .agg (Hd.cells h) ∧ HdAt W h bs es ls ps := by
  obtain ⟨cs, rfl, _⟩ := okWide_struct Try.und35 hv
  obtain ⟨fuel, hf⟩ := h0
  obtain ⟨h, bs, es, ls, ps, e, hh⟩ := held_ok hf hs
  simp only [Value.cells] at e
  obtain ⟨l⟩ := cs
  simp only [] at e
  exact ⟨h, bs, es, ls, ps, by rw [e]; rfl, hh⟩
end Go.Proofs.Ytcgnbpaaalmkoab
