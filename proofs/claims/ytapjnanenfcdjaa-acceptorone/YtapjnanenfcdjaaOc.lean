import Derived.Test.YtapjnanenfcdjaaJ
import Derived.ProofKit
import Derived.OpenShut
import Derived.ShutString
import Derived.ChangeOld
import Derived.SizedLaws
import Derived.Deep.Slices
namespace Go.Proofs.Ytapjnanenfcdjaa
open Go.ChangeShapes Go.WideShapes Go.ChangeAt Go.RowKit
open Go.ChangeMaps (open_string shut_string)
set_option linter.unusedVariables false
set_option linter.unusedSimpArgs false

theorem own : ownKnob Try.prog.godebug = none := by kernel_rfl
theorem laidOut : laidOutB Try.prog = true := by kernel_rfl
/-- A step, an act. -/
structure Sx where
  k : Int
  b : Sp
  c : Cm
structure Ac where
  k : Int
  p : Int
  s : Int
  b : Sp
  l : Bool
def Sx.cs (x : Sx) : List Value := [.int .i64 x.k, .int .i64 x.b.n, .int .i64 x.b.c] ++ (x.c.cs ++ [])
def Ac.cs (x : Ac) : List Value := [.int .i64 x.k, .int .i64 x.p, .int .i64 x.s, .int .i64 x.b.n, .int .i64 x.b.c, .bool x.l]
def Sx.cells (x : Sx) : Array Value := x.cs.toArray
def Ac.cells (x : Ac) : Array Value := x.cs.toArray
instance : Inhabited Sx := ⟨⟨0, sZ, cZ⟩⟩
instance : Inhabited Ac := ⟨⟨0, 0, 0, sZ, false⟩⟩
theorem cutL {α : Type} {l : List α} (a n : Nat) : l.drop a = (l.drop a).take n ++ l.drop (a + n) := by
  rw [← List.drop_drop]; exact (List.take_append_drop _ _).symm
theorem Try.cells3 : Try.prog.cellsOf 3 = 1 := by kernel_rfl
theorem Try.cells4 : Try.prog.cellsOf 4 = 1 := by kernel_rfl
theorem Try.cells9 : Try.prog.cellsOf 9 = 1 := by kernel_rfl
theorem Try.cells23 : Try.prog.cellsOf 23 = 2 := by kernel_rfl
theorem Try.cells25 : Try.prog.cellsOf 25 = 2 := by kernel_rfl
theorem Try.cells27 : Try.prog.cellsOf 27 = 9 := by kernel_rfl
theorem Try.cells29 : Try.prog.cellsOf 29 = 14 := by kernel_rfl
theorem Try.cells38 : Try.prog.cellsOf 38 = 12 := by kernel_rfl
theorem Try.cells71 : Try.prog.cellsOf 71 = 6 := by kernel_rfl
theorem Try.und30 : Try.prog.underlying 30 = some (.slice 38) := by kernel_rfl
theorem Try.und63 : Try.prog.underlying 63 = some (.slice 71) := by kernel_rfl
theorem Try.bytes38 : Try.prog.bytesOf 38 = 104 := by kernel_rfl
theorem Try.bytes71 : Try.prog.bytesOf 71 = 48 := by kernel_rfl
set_option maxRecDepth 100000 in
theorem stamp_ok {H : Type} {enc : TypeId × Value → H} {W : World} {fuel : Nat} {l : List Value} {x : DataW H × List MemPlace}
    (hf : DataW.trod enc Try.prog W 0 (fun _ => true) true fuel 23 l = some x) : ∃ s : Sp, l = [.int .i64 s.n, .int .i64 s.c] := by
  obtain ⟨xs, n, _, _, hl, hlen, hfs⟩ := DataW.trod_struct Try.underlying23 hf
  rw [Try.cells23] at hl
  have hlen : xs.length = 2 := hlen
  have h0 : DataW.trod enc Try.prog W 0 (fun _ => true) true n 3 ((l.drop 0).take (Try.prog.cellsOf 3)) = xs[0]? := hfs 0 _ rfl
  obtain ⟨y0, hy0⟩ : ∃ y, xs[0]? = some y := ⟨_, List.getElem?_eq_getElem (show 0 < xs.length by omega)⟩
  rw [Try.cells3, hy0] at h0
  have h1 : DataW.trod enc Try.prog W 0 (fun _ => true) true n 3 ((l.drop 1).take (Try.prog.cellsOf 3)) = xs[1]? := hfs 1 _ rfl
  obtain ⟨y1, hy1⟩ : ∃ y, xs[1]? = some y := ⟨_, List.getElem?_eq_getElem (show 1 < xs.length by omega)⟩
  rw [Try.cells3, hy1] at h1
  obtain ⟨n0, e0, _, _⟩ := DataW.trod_int Try.und3 h0
  obtain ⟨n1, e1, _, _⟩ := DataW.trod_int Try.und3 h1
  have s : l = l.drop 0 := rfl
  have s0 : l.drop 0 = (l.drop 0).take 1 ++ l.drop 1 := cutL 0 1
  rw [e0] at s0
  have s1 : l.drop 1 = (l.drop 1).take 1 ++ l.drop 2 := cutL 1 1
  rw [e1] at s1
  have sz : l.drop 2 = [] := List.drop_of_length_le (by omega)
  refine ⟨⟨n0, n1⟩, ?_⟩
  rw [s, s0, s1, sz]
  rfl
set_option maxRecDepth 100000 in
theorem file_ok {H : Type} {enc : TypeId × Value → H} {W : World} {fuel : Nat} {l : List Value} {x : DataW H × List MemPlace}
    (hf : DataW.trod enc Try.prog W 0 (fun _ => true) true fuel 25 l = some x) : ∃ a b : Int, l = [.int .i64 a, .int .i64 b] := by
  obtain ⟨xs, n, _, _, hl, hlen, hfs⟩ := DataW.trod_struct Try.underlying25 hf
  rw [Try.cells25] at hl
  have hlen : xs.length = 2 := hlen
  have h0 : DataW.trod enc Try.prog W 0 (fun _ => true) true n 3 ((l.drop 0).take (Try.prog.cellsOf 3)) = xs[0]? := hfs 0 _ rfl
  obtain ⟨y0, hy0⟩ : ∃ y, xs[0]? = some y := ⟨_, List.getElem?_eq_getElem (show 0 < xs.length by omega)⟩
  rw [Try.cells3, hy0] at h0
  have h1 : DataW.trod enc Try.prog W 0 (fun _ => true) true n 3 ((l.drop 1).take (Try.prog.cellsOf 3)) = xs[1]? := hfs 1 _ rfl
  obtain ⟨y1, hy1⟩ : ∃ y, xs[1]? = some y := ⟨_, List.getElem?_eq_getElem (show 1 < xs.length by omega)⟩
  rw [Try.cells3, hy1] at h1
  obtain ⟨n0, e0, _, _⟩ := DataW.trod_int Try.und3 h0
  obtain ⟨n1, e1, _, _⟩ := DataW.trod_int Try.und3 h1
  have s : l = l.drop 0 := rfl
  have s0 : l.drop 0 = (l.drop 0).take 1 ++ l.drop 1 := cutL 0 1
  rw [e0] at s0
  have s1 : l.drop 1 = (l.drop 1).take 1 ++ l.drop 2 := cutL 1 1
  rw [e1] at s1
  have sz : l.drop 2 = [] := List.drop_of_length_le (by omega)
  refine ⟨n0, n1, ?_⟩
  rw [s, s0, s1, sz]
  rfl
set_option maxRecDepth 100000 in
theorem cmd_ok {H : Type} {enc : TypeId × Value → H} {W : World} {fuel : Nat} {l : List Value} {x : DataW H × List MemPlace}
    (hf : DataW.trod enc Try.prog W 0 (fun _ => true) true fuel 27 l = some x) : ∃ c : Cm, l = c.cs := by
  obtain ⟨xs, n, _, _, hl, hlen, hfs⟩ := DataW.trod_struct Try.underlying27 hf
  rw [Try.cells27] at hl
  have hlen : xs.length = 7 := hlen
  have h0 : DataW.trod enc Try.prog W 0 (fun _ => true) true n 3 ((l.drop 0).take (Try.prog.cellsOf 3)) = xs[0]? := hfs 0 _ rfl
  obtain ⟨y0, hy0⟩ : ∃ y, xs[0]? = some y := ⟨_, List.getElem?_eq_getElem (show 0 < xs.length by omega)⟩
  rw [Try.cells3, hy0] at h0
  have h1 : DataW.trod enc Try.prog W 0 (fun _ => true) true n 3 ((l.drop 1).take (Try.prog.cellsOf 3)) = xs[1]? := hfs 1 _ rfl
  obtain ⟨y1, hy1⟩ : ∃ y, xs[1]? = some y := ⟨_, List.getElem?_eq_getElem (show 1 < xs.length by omega)⟩
  rw [Try.cells3, hy1] at h1
  have h2 : DataW.trod enc Try.prog W 0 (fun _ => true) true n 3 ((l.drop 2).take (Try.prog.cellsOf 3)) = xs[2]? := hfs 2 _ rfl
  obtain ⟨y2, hy2⟩ : ∃ y, xs[2]? = some y := ⟨_, List.getElem?_eq_getElem (show 2 < xs.length by omega)⟩
  rw [Try.cells3, hy2] at h2
  have h3 : DataW.trod enc Try.prog W 0 (fun _ => true) true n 9 ((l.drop 3).take (Try.prog.cellsOf 9)) = xs[3]? := hfs 3 _ rfl
  obtain ⟨y3, hy3⟩ : ∃ y, xs[3]? = some y := ⟨_, List.getElem?_eq_getElem (show 3 < xs.length by omega)⟩
  rw [Try.cells9, hy3] at h3
  have h4 : DataW.trod enc Try.prog W 0 (fun _ => true) true n 25 ((l.drop 4).take (Try.prog.cellsOf 25)) = xs[4]? := hfs 4 _ rfl
  obtain ⟨y4, hy4⟩ : ∃ y, xs[4]? = some y := ⟨_, List.getElem?_eq_getElem (show 4 < xs.length by omega)⟩
  rw [Try.cells25, hy4] at h4
  have h5 : DataW.trod enc Try.prog W 0 (fun _ => true) true n 25 ((l.drop 6).take (Try.prog.cellsOf 25)) = xs[5]? := hfs 5 _ rfl
  obtain ⟨y5, hy5⟩ : ∃ y, xs[5]? = some y := ⟨_, List.getElem?_eq_getElem (show 5 < xs.length by omega)⟩
  rw [Try.cells25, hy5] at h5
  have h6 : DataW.trod enc Try.prog W 0 (fun _ => true) true n 3 ((l.drop 8).take (Try.prog.cellsOf 3)) = xs[6]? := hfs 6 _ rfl
  obtain ⟨y6, hy6⟩ : ∃ y, xs[6]? = some y := ⟨_, List.getElem?_eq_getElem (show 6 < xs.length by omega)⟩
  rw [Try.cells3, hy6] at h6
  obtain ⟨n0, e0, _, _⟩ := DataW.trod_int Try.und3 h0
  obtain ⟨n1, e1, _, _⟩ := DataW.trod_int Try.und3 h1
  obtain ⟨n2, e2, _, _⟩ := DataW.trod_int Try.und3 h2
  obtain ⟨n3, e3, _, _⟩ := DataW.trod_string Try.und9 h3
  obtain ⟨m4, n4, e4⟩ := file_ok h4
  obtain ⟨m5, n5, e5⟩ := file_ok h5
  obtain ⟨n6, e6, _, _⟩ := DataW.trod_int Try.und3 h6
  have s : l = l.drop 0 := rfl
  have s0 : l.drop 0 = (l.drop 0).take 1 ++ l.drop 1 := cutL 0 1
  rw [e0] at s0
  have s1 : l.drop 1 = (l.drop 1).take 1 ++ l.drop 2 := cutL 1 1
  rw [e1] at s1
  have s2 : l.drop 2 = (l.drop 2).take 1 ++ l.drop 3 := cutL 2 1
  rw [e2] at s2
  have s3 : l.drop 3 = (l.drop 3).take 1 ++ l.drop 4 := cutL 3 1
  rw [e3] at s3
  have s4 : l.drop 4 = (l.drop 4).take 2 ++ l.drop 6 := cutL 4 2
  rw [e4] at s4
  have s5 : l.drop 6 = (l.drop 6).take 2 ++ l.drop 8 := cutL 6 2
  rw [e5] at s5
  have s6 : l.drop 8 = (l.drop 8).take 1 ++ l.drop 9 := cutL 8 1
  rw [e6] at s6
  have sz : l.drop 9 = [] := List.drop_of_length_le (by omega)
  refine ⟨⟨n0, n1, n2, n3, m4, n4, m5, n5, n6⟩, ?_⟩
  rw [s, s0, s1, s2, s3, s4, s5, s6, sz]
  rfl
set_option maxRecDepth 100000 in
theorem inst_ok {H : Type} {enc : TypeId × Value → H} {W : World} {fuel : Nat} {l : List Value} {x : DataW H × List MemPlace}
    (hf : DataW.trod enc Try.prog W 0 (fun _ => true) true fuel 29 l = some x) : ∃ i : In, l = i.cs := by
  obtain ⟨xs, n, _, _, hl, hlen, hfs⟩ := DataW.trod_struct Try.underlying29 hf
  rw [Try.cells29] at hl
  have hlen : xs.length = 4 := hlen
  have h0 : DataW.trod enc Try.prog W 0 (fun _ => true) true n 23 ((l.drop 0).take (Try.prog.cellsOf 23)) = xs[0]? := hfs 0 _ rfl
  obtain ⟨y0, hy0⟩ : ∃ y, xs[0]? = some y := ⟨_, List.getElem?_eq_getElem (show 0 < xs.length by omega)⟩
  rw [Try.cells23, hy0] at h0
  have h1 : DataW.trod enc Try.prog W 0 (fun _ => true) true n 23 ((l.drop 2).take (Try.prog.cellsOf 23)) = xs[1]? := hfs 1 _ rfl
  obtain ⟨y1, hy1⟩ : ∃ y, xs[1]? = some y := ⟨_, List.getElem?_eq_getElem (show 1 < xs.length by omega)⟩
  rw [Try.cells23, hy1] at h1
  have h2 : DataW.trod enc Try.prog W 0 (fun _ => true) true n 27 ((l.drop 4).take (Try.prog.cellsOf 27)) = xs[2]? := hfs 2 _ rfl
  obtain ⟨y2, hy2⟩ : ∃ y, xs[2]? = some y := ⟨_, List.getElem?_eq_getElem (show 2 < xs.length by omega)⟩
  rw [Try.cells27, hy2] at h2
  have h3 : DataW.trod enc Try.prog W 0 (fun _ => true) true n 4 ((l.drop 13).take (Try.prog.cellsOf 4)) = xs[3]? := hfs 3 _ rfl
  obtain ⟨y3, hy3⟩ : ∃ y, xs[3]? = some y := ⟨_, List.getElem?_eq_getElem (show 3 < xs.length by omega)⟩
  rw [Try.cells4, hy3] at h3
  obtain ⟨n0, e0⟩ := stamp_ok h0
  obtain ⟨n1, e1⟩ := stamp_ok h1
  obtain ⟨n2, e2⟩ := cmd_ok h2
  obtain ⟨n3, e3, _⟩ := DataW.trod_bool Try.und4 h3
  have s : l = l.drop 0 := rfl
  have s0 : l.drop 0 = (l.drop 0).take 2 ++ l.drop 2 := cutL 0 2
  rw [e0] at s0
  have s1 : l.drop 2 = (l.drop 2).take 2 ++ l.drop 4 := cutL 2 2
  rw [e1] at s1
  have s2 : l.drop 4 = (l.drop 4).take 9 ++ l.drop 13 := cutL 4 9
  rw [e2] at s2
  have s3 : l.drop 13 = (l.drop 13).take 1 ++ l.drop 14 := cutL 13 1
  rw [e3] at s3
  have sz : l.drop 14 = [] := List.drop_of_length_le (by omega)
  refine ⟨⟨n0, n1, n2, n3⟩, ?_⟩
  rw [s, s0, s1, s2, s3, sz]
  rfl
set_option maxRecDepth 100000 in
theorem step_ok {H : Type} {enc : TypeId × Value → H} {W : World} {fuel : Nat} {l : List Value} {x : DataW H × List MemPlace}
    (hf : DataW.trod enc Try.prog W 0 (fun _ => true) true fuel 38 l = some x) : ∃ x : Sx, l = x.cs := by
  obtain ⟨xs, n, _, _, hl, hlen, hfs⟩ := DataW.trod_struct Try.underlying38 hf
  rw [Try.cells38] at hl
  have hlen : xs.length = 3 := hlen
  have h0 : DataW.trod enc Try.prog W 0 (fun _ => true) true n 3 ((l.drop 0).take (Try.prog.cellsOf 3)) = xs[0]? := hfs 0 _ rfl
  obtain ⟨y0, hy0⟩ : ∃ y, xs[0]? = some y := ⟨_, List.getElem?_eq_getElem (show 0 < xs.length by omega)⟩
  rw [Try.cells3, hy0] at h0
  have h1 : DataW.trod enc Try.prog W 0 (fun _ => true) true n 23 ((l.drop 1).take (Try.prog.cellsOf 23)) = xs[1]? := hfs 1 _ rfl
  obtain ⟨y1, hy1⟩ : ∃ y, xs[1]? = some y := ⟨_, List.getElem?_eq_getElem (show 1 < xs.length by omega)⟩
  rw [Try.cells23, hy1] at h1
  have h2 : DataW.trod enc Try.prog W 0 (fun _ => true) true n 27 ((l.drop 3).take (Try.prog.cellsOf 27)) = xs[2]? := hfs 2 _ rfl
  obtain ⟨y2, hy2⟩ : ∃ y, xs[2]? = some y := ⟨_, List.getElem?_eq_getElem (show 2 < xs.length by omega)⟩
  rw [Try.cells27, hy2] at h2
  obtain ⟨n0, e0, _, _⟩ := DataW.trod_int Try.und3 h0
  obtain ⟨n1, e1⟩ := stamp_ok h1
  obtain ⟨n2, e2⟩ := cmd_ok h2
  have s : l = l.drop 0 := rfl
  have s0 : l.drop 0 = (l.drop 0).take 1 ++ l.drop 1 := cutL 0 1
  rw [e0] at s0
  have s1 : l.drop 1 = (l.drop 1).take 2 ++ l.drop 3 := cutL 1 2
  rw [e1] at s1
  have s2 : l.drop 3 = (l.drop 3).take 9 ++ l.drop 12 := cutL 3 9
  rw [e2] at s2
  have sz : l.drop 12 = [] := List.drop_of_length_le (by omega)
  refine ⟨⟨n0, n1, n2⟩, ?_⟩
  rw [s, s0, s1, s2, sz]
  rfl
set_option maxRecDepth 100000 in
theorem act_ok {H : Type} {enc : TypeId × Value → H} {W : World} {fuel : Nat} {l : List Value} {x : DataW H × List MemPlace}
    (hf : DataW.trod enc Try.prog W 0 (fun _ => true) true fuel 71 l = some x) : ∃ x : Ac, l = x.cs := by
  obtain ⟨xs, n, _, _, hl, hlen, hfs⟩ := DataW.trod_struct Try.underlying71 hf
  rw [Try.cells71] at hl
  have hlen : xs.length = 5 := hlen
  have h0 : DataW.trod enc Try.prog W 0 (fun _ => true) true n 3 ((l.drop 0).take (Try.prog.cellsOf 3)) = xs[0]? := hfs 0 _ rfl
  obtain ⟨y0, hy0⟩ : ∃ y, xs[0]? = some y := ⟨_, List.getElem?_eq_getElem (show 0 < xs.length by omega)⟩
  rw [Try.cells3, hy0] at h0
  have h1 : DataW.trod enc Try.prog W 0 (fun _ => true) true n 3 ((l.drop 1).take (Try.prog.cellsOf 3)) = xs[1]? := hfs 1 _ rfl
  obtain ⟨y1, hy1⟩ : ∃ y, xs[1]? = some y := ⟨_, List.getElem?_eq_getElem (show 1 < xs.length by omega)⟩
  rw [Try.cells3, hy1] at h1
  have h2 : DataW.trod enc Try.prog W 0 (fun _ => true) true n 3 ((l.drop 2).take (Try.prog.cellsOf 3)) = xs[2]? := hfs 2 _ rfl
  obtain ⟨y2, hy2⟩ : ∃ y, xs[2]? = some y := ⟨_, List.getElem?_eq_getElem (show 2 < xs.length by omega)⟩
  rw [Try.cells3, hy2] at h2
  have h3 : DataW.trod enc Try.prog W 0 (fun _ => true) true n 23 ((l.drop 3).take (Try.prog.cellsOf 23)) = xs[3]? := hfs 3 _ rfl
  obtain ⟨y3, hy3⟩ : ∃ y, xs[3]? = some y := ⟨_, List.getElem?_eq_getElem (show 3 < xs.length by omega)⟩
  rw [Try.cells23, hy3] at h3
  have h4 : DataW.trod enc Try.prog W 0 (fun _ => true) true n 4 ((l.drop 5).take (Try.prog.cellsOf 4)) = xs[4]? := hfs 4 _ rfl
  obtain ⟨y4, hy4⟩ : ∃ y, xs[4]? = some y := ⟨_, List.getElem?_eq_getElem (show 4 < xs.length by omega)⟩
  rw [Try.cells4, hy4] at h4
  obtain ⟨n0, e0, _, _⟩ := DataW.trod_int Try.und3 h0
  obtain ⟨n1, e1, _, _⟩ := DataW.trod_int Try.und3 h1
  obtain ⟨n2, e2, _, _⟩ := DataW.trod_int Try.und3 h2
  obtain ⟨n3, e3⟩ := stamp_ok h3
  obtain ⟨n4, e4, _⟩ := DataW.trod_bool Try.und4 h4
  have s : l = l.drop 0 := rfl
  have s0 : l.drop 0 = (l.drop 0).take 1 ++ l.drop 1 := cutL 0 1
  rw [e0] at s0
  have s1 : l.drop 1 = (l.drop 1).take 1 ++ l.drop 2 := cutL 1 1
  rw [e1] at s1
  have s2 : l.drop 2 = (l.drop 2).take 1 ++ l.drop 3 := cutL 2 1
  rw [e2] at s2
  have s3 : l.drop 3 = (l.drop 3).take 2 ++ l.drop 5 := cutL 3 2
  rw [e3] at s3
  have s4 : l.drop 5 = (l.drop 5).take 1 ++ l.drop 6 := cutL 5 1
  rw [e4] at s4
  have sz : l.drop 6 = [] := List.drop_of_length_le (by omega)
  refine ⟨⟨n0, n1, n2, n3, n4⟩, ?_⟩
  rw [s, s0, s1, s2, s3, s4, sz]
  rfl

theorem Try.und30e : Try.prog.underlying 30 = some (.slice (Try.prog.elem 30)) := by kernel_rfl
theorem Try.und63e : Try.prog.underlying 63 = some (.slice (Try.prog.elem 63)) := by kernel_rfl
theorem Try.size30e : (Try.prog.info? (Try.prog.elem 30)).map (·.size) = some 12 := by kernel_rfl
theorem Try.size63e : (Try.prog.info? (Try.prog.elem 63)).map (·.size) = some 6 := by kernel_rfl
theorem opened_inst (H : Type) (enc : TypeId × Value → H) (W : World) (b0 : Nat) (v : Value) (d0 : DataW H) (p0 : List MemPlace) (hv : Value.okWide Try.prog W .any b0 29 v)
    (h0 : DataW.Trod enc Try.prog W 0 (fun _ => true) true 29 v d0 p0) : ∃ i : In, v = .agg i.cells := by
  obtain ⟨cs, rfl, _⟩ := okWide_struct Try.underlying29 hv
  obtain ⟨fuel, hf⟩ := h0
  obtain ⟨i, e⟩ := inst_ok hf
  simp only [Value.cells] at e
  obtain ⟨l⟩ := cs
  simp only [] at e
  exact ⟨i, by rw [e]; rfl⟩

theorem exec_ixA {o : Oper} {a : Act} {w : World} (t : TypeId) (n : Nat) (hu : Try.prog.underlying t = some (.slice (Try.prog.elem t))) (hs : (Try.prog.info? (Try.prog.elem t)).map (·.size) = some n)
    (x y : Operand) (ho : o.op = .indexAddr t x y) (b off len cap i : Nat) (hx : a.eval x = .slice (some ⟨b, off, none⟩) len cap) (hy : a.eval y = .int .i64 i) (hi : i < len) : (execOp a.eval o).run Try.prog w = .ok (.value (.pointer (some ⟨b, off + i * n, none⟩))) w := by
  cases hq : Try.prog.info? (Try.prog.elem t) with
  | none => rw [hq] at hs; cases hs
  | some inf =>
    rw [hq] at hs
    have hsz : inf.size = n := by simpa using hs
    have hrun : (Instr.indexAt t (.slice (some ⟨b, off, none⟩) len cap) (.int .i64 i)).run Try.prog w = .ok (.pointer (some ⟨b, off + i * n, none⟩)) w := by
      rw [run_indexAt_slice w t _ len cap .i64 i hu, if_pos ⟨by omega, by omega⟩]
      simp [sizeOf, typeInfo, hq, hsz, addr_add]
    simp only [execOp, ho, hx, hy, Sem.run_bind, hrun, Result.andThen_ok, Sem.run_pure]

/-- A row of structs that came in. -/
def RowsAt (n : Nat) (w : World) (a : Option Addr) (xs : List (List Value)) : Prop :=
  ∀ (i : Nat) it, xs[i]? = some it → ∃ b off, a = some ⟨b, off, none⟩ ∧ ∀ (j : Nat) v, it[j]? = some v → w.cell? ⟨b, off + i * n + j, none⟩ = some v
theorem RowsAt.no {n : Nat} {w w' : World} {a : Option Addr} {xs : List (List Value)} (h : RowsAt n w a xs) (hk : Kept No w w') : RowsAt n w' a xs := by
  intro i it hi
  obtain ⟨b, off, e, c⟩ := h i it hi
  exact ⟨b, off, e, fun j v hv => hk.cell (c j v hv) (fun e => e)⟩
theorem opened_steps (H : Type) (enc : TypeId × Value → H) (W : World) (a0 : Option Addr) (len0 cap0 : Nat) (d0 : DataW H) (p0 : List MemPlace)
    (h0 : DataW.Trod enc Try.prog W 0 (fun _ => true) true 30 (.slice a0 len0 cap0) d0 p0)
    {ts : List TypeId} {ds : List (DataW H)} (hsz : (DataW.weightsEach Try.prog ts ds).all (· ≤ reachBytes) = true) {j : Nat} (ht : ts[j]? = some 30) (hd : ds[j]? = some d0) :
    ∃ xs : List Sx, xs.length = len0 ∧ len0 ≤ 140737488351232 ∧ RowsAt 12 W a0 (xs.map Sx.cs) := by
  obtain ⟨fuel, hf⟩ := h0
  rcases Go.Deep.open_slice Try.und30 hf with ⟨hcs, _⟩ | ⟨x, l, c, m, n, D, Pl, hcs, hq, hl, hm, hmm, hx, hel⟩
  · simp [Value.cells] at hcs
    obtain ⟨rfl, rfl, rfl⟩ := hcs
    exact ⟨[], rfl, by omega, fun i x hx => by simp at hx⟩
  · simp [Value.cells] at hcs
    obtain ⟨rfl, rfl, rfl⟩ := hcs
    simp only [if_true] at hmm
    subst hmm
    simp only [Prod.mk.injEq] at hx
    have hb : len0 ≤ 140737488351232 := by
      have := sized_slice hsz (j := j) (t := 30) (e := 38) ht (by rw [hd, hx.1]) Try.und30
      rw [Try.bytes38] at this
      simp [reachBytes] at this
      omega
    rw [Try.cells38] at hel
    have key : ∀ i, i < len0 → ∃ it : Sx, W.cells? 0 (x.add (i * 12)) 12 = some it.cs := by
      intro i hi
      obtain ⟨cs', hc, htr⟩ := hel i (by omega)
      obtain ⟨it, rfl⟩ := step_ok htr
      exact ⟨it, hc⟩
    obtain ⟨f, hfm⟩ := Go.Deep.choose_lt key
    refine ⟨(List.range len0).map f, by simp, hb, ?_⟩
    intro i it hit
    have hi : i < len0 := by have := (List.getElem?_eq_some_iff.1 hit).1; simpa using this
    have e : (f i).cs = it := by simpa [hi] using hit
    have hc := hfm i hi
    have hcs := (World.cells?_some hc).2.2
    obtain ⟨b, off, spot⟩ := x
    have hspot : spot = none := by
      have h00 := (World.cells?_some (hfm 0 (by omega))).2.2 0 (by omega)
      have h00' : (f 0).cs[0]? = some (.int .i64 (f 0).k) := rfl
      rw [h00'] at h00
      have := World.cell?_spot h00
      simpa [Addr.add] using this
    subst hspot
    refine ⟨b, off, rfl, fun k v hv => ?_⟩
    rw [← e] at hv
    have hk : k < 12 := by have := (List.getElem?_eq_some_iff.1 hv).1; exact this
    have h1 := hcs k hk
    rw [hv, Go.Deep.add_add, addr_add] at h1
    rw [show off + i * 12 + k = off + (i * 12 + k) by omega]
    exact h1
theorem opened_acts (H : Type) (enc : TypeId × Value → H) (W : World) (a0 : Option Addr) (len0 cap0 : Nat) (d0 : DataW H) (p0 : List MemPlace)
    (h0 : DataW.Trod enc Try.prog W 0 (fun _ => true) true 63 (.slice a0 len0 cap0) d0 p0)
    {ts : List TypeId} {ds : List (DataW H)} (hsz : (DataW.weightsEach Try.prog ts ds).all (· ≤ reachBytes) = true) {j : Nat} (ht : ts[j]? = some 63) (hd : ds[j]? = some d0) :
    ∃ xs : List Ac, xs.length = len0 ∧ len0 ≤ 140737488351232 ∧ RowsAt 6 W a0 (xs.map Ac.cs) := by
  obtain ⟨fuel, hf⟩ := h0
  rcases Go.Deep.open_slice Try.und63 hf with ⟨hcs, _⟩ | ⟨x, l, c, m, n, D, Pl, hcs, hq, hl, hm, hmm, hx, hel⟩
  · simp [Value.cells] at hcs
    obtain ⟨rfl, rfl, rfl⟩ := hcs
    exact ⟨[], rfl, by omega, fun i x hx => by simp at hx⟩
  · simp [Value.cells] at hcs
    obtain ⟨rfl, rfl, rfl⟩ := hcs
    simp only [if_true] at hmm
    subst hmm
    simp only [Prod.mk.injEq] at hx
    have hb : len0 ≤ 140737488351232 := by
      have := sized_slice hsz (j := j) (t := 63) (e := 71) ht (by rw [hd, hx.1]) Try.und63
      rw [Try.bytes71] at this
      simp [reachBytes] at this
      omega
    rw [Try.cells71] at hel
    have key : ∀ i, i < len0 → ∃ it : Ac, W.cells? 0 (x.add (i * 6)) 6 = some it.cs := by
      intro i hi
      obtain ⟨cs', hc, htr⟩ := hel i (by omega)
      obtain ⟨it, rfl⟩ := act_ok htr
      exact ⟨it, hc⟩
    obtain ⟨f, hfm⟩ := Go.Deep.choose_lt key
    refine ⟨(List.range len0).map f, by simp, hb, ?_⟩
    intro i it hit
    have hi : i < len0 := by have := (List.getElem?_eq_some_iff.1 hit).1; simpa using this
    have e : (f i).cs = it := by simpa [hi] using hit
    have hc := hfm i hi
    have hcs := (World.cells?_some hc).2.2
    obtain ⟨b, off, spot⟩ := x
    have hspot : spot = none := by
      have h00 := (World.cells?_some (hfm 0 (by omega))).2.2 0 (by omega)
      have h00' : (f 0).cs[0]? = some (.int .i64 (f 0).k) := rfl
      rw [h00'] at h00
      have := World.cell?_spot h00
      simpa [Addr.add] using this
    subst hspot
    refine ⟨b, off, rfl, fun k v hv => ?_⟩
    rw [← e] at hv
    have hk : k < 6 := by have := (List.getElem?_eq_some_iff.1 hv).1; exact this
    have h1 := hcs k hk
    rw [hv, Go.Deep.add_add, addr_add] at h1
    rw [show off + i * 6 + k = off + (i * 6 + k) by omega]
    exact h1

end Go.Proofs.Ytapjnanenfcdjaa
