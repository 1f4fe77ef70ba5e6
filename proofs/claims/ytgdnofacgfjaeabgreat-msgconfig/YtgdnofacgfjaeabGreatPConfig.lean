import Derived.Test.YtgdnofacgfjaeabGreatWConfig
import Derived.ProofKit
import Derived.OpenShut
import Derived.ShutString
import Derived.ChangeOld
import Derived.SizedLaws
import Derived.Deep.Slices
namespace Go.Proofs.YtgdnofacgfjaeabGreat
open Go.ChangeShapes Go.WideShapes Go.ChangeAt Go.RowKit
open Go.ChangeMaps (open_string shut_string)
set_option linter.unusedVariables false

theorem own : ownKnob Tryz.prog.godebug = none := by kernel_rfl
theorem laidOut : laidOutB Tryz.prog = true := by kernel_rfl
theorem Tryz.bytes3 : Tryz.prog.bytesOf 3 = 8 := by kernel_rfl
theorem Tryz.cells3 : Tryz.prog.cellsOf 3 = 1 := by kernel_rfl
theorem Tryz.cells4 : Tryz.prog.cellsOf 4 = 1 := by kernel_rfl
theorem Tryz.cells9 : Tryz.prog.cellsOf 9 = 1 := by kernel_rfl
theorem Tryz.cells22 : Tryz.prog.cellsOf 22 = 1 := by kernel_rfl
theorem Tryz.cells24 : Tryz.prog.cellsOf 24 = 6 := by kernel_rfl
theorem Tryz.cells30 : Tryz.prog.cellsOf 30 = 1 := by kernel_rfl
theorem Tryz.cells35 : Tryz.prog.cellsOf 35 = 2 := by kernel_rfl
theorem Tryz.cells43 : Tryz.prog.cellsOf 43 = 2 := by kernel_rfl
theorem Tryz.cells45 : Tryz.prog.cellsOf 45 = 9 := by kernel_rfl
theorem Tryz.cells51 : Tryz.prog.cellsOf 51 = 1 := by kernel_rfl
theorem Tryz.cells52 : Tryz.prog.cellsOf 52 = 1 := by kernel_rfl
theorem Tryz.cells54 : Tryz.prog.cellsOf 54 = 3 := by kernel_rfl
theorem Tryz.cells66 : Tryz.prog.cellsOf 66 = 2 := by kernel_rfl
theorem Tryz.cells68 : Tryz.prog.cellsOf 68 = 4 := by kernel_rfl
theorem Tryz.cells69 : Tryz.prog.cellsOf 69 = 1 := by kernel_rfl
theorem Tryz.cells71 : Tryz.prog.cellsOf 71 = 30 := by kernel_rfl

/-- Numbers in memory that came in, somewhere. -/
theorem ints_sl {H : Type} {enc : TypeId × Value → H} {W : World} {fuel : Nat} {c : Value} {x : DataW H × List MemPlace}
    (hf : DataW.trod enc Tryz.prog W 0 (fun _ => true) true fuel 22 [c] = some x) (hs : ∀ n ∈ x.1.weights Tryz.prog 22, n ≤ reachBytes) :
    ∃ a m cap zs, c = .slice a m cap ∧ zs.length = m ∧ m ≤ 17592186043904 ∧ Nums .i64 W a zs := by
  rcases open_ints Tryz.underlying22 Tryz.underlying3 (by kernel_rfl) hf with ⟨hcs, _⟩ | ⟨y, l, cap, zs, hcs, hq, hl, hm, hz, hx, hcell, hwz⟩
  · simp at hcs
    exact ⟨none, 0, 0, [], hcs, rfl, by omega, Nums.nil _ _ _⟩
  · simp at hcs
    have hz' : zs.length = cap := by simpa using hz
    have hb : l ≤ 17592186043904 := by
      have := hs ((l + (zs.length - l)) * Tryz.prog.bytesOf 3) (by
        rw [hx]; simp only [DataW.weights, Tryz.underlying22]
        refine List.mem_cons.2 (.inl ?_)
        simp only [lits, List.length_map, List.length_take, List.length_drop]
        rw [Nat.min_eq_left (by omega)])
      rw [Tryz.bytes3] at this
      simp only [reachBytes] at this
      omega
    unfold maxLen at hm
    refine ⟨_, _, _, zs.take l, hcs, by simp; omega, hb, ?_⟩
    intro i hi
    simp only [List.length_take] at hi
    obtain ⟨b, off, rfl, hc⟩ := ints_at hcell (by omega)
    refine ⟨b, off, rfl, ?_⟩
    rw [List.getElem?_take, if_pos (by omega), hc i (by omega)]
    simp

theorem Tryz.fields24 : ∃ f0 f1 f2 f3 f4 f5, Tryz.prog.underlying 24 = some (.struct #[f0, f1, f2, f3, f4, f5]) ∧ (f0.type = 22 ∧ f0.offset = 0) ∧ (f1.type = 3 ∧ f1.offset = 1) ∧ (f2.type = 3 ∧ f2.offset = 2) ∧ (f3.type = 3 ∧ f3.offset = 3) ∧ (f4.type = 3 ∧ f4.offset = 4) ∧ (f5.type = 3 ∧ f5.offset = 5) :=
  ⟨_, _, _, _, _, _, Tryz.underlying24, ⟨rfl, rfl⟩, ⟨rfl, rfl⟩, ⟨rfl, rfl⟩, ⟨rfl, rfl⟩, ⟨rfl, rfl⟩, ⟨rfl, rfl⟩⟩

-- A configuration that came in.
set_option maxRecDepth 100000 in
theorem opened_cfg (H : Type) (enc : TypeId × Value → H) (W : World) (b0 : Nat) (v : Value) (d0 : DataW H) (p0 : List MemPlace) (hv : Value.okWide Tryz.prog W .any b0 24 v)
    (h0 : DataW.Trod enc Tryz.prog W 0 (fun _ => true) true 24 v d0 p0)
    {ts : List TypeId} {ds : List (DataW H)} (hsz : (DataW.weightsEach Tryz.prog ts ds).all (· ≤ reachBytes) = true) {j : Nat} (ht : ts[j]? = some 24) (hd : ds[j]? = some d0) :
    ∃ sa sn sc zs f p bu bl ro, v = cfgV (.slice sa sn sc) f p bu bl ro ∧ Cfg W sa sn sc zs := by
  obtain ⟨cs, rfl, _⟩ := okWide_struct Tryz.underlying24 hv
  obtain ⟨fuel, hf⟩ := h0
  have hs : ∀ n ∈ d0.weights Tryz.prog 24, n ≤ reachBytes := fun n hn => by
    have := List.all_eq_true.1 hsz _ (DataW.weights_mem_each ht hd n hn)
    simpa using this
  obtain ⟨f0, f1, f2, f3, f4, f5, hu, ⟨t0, o0⟩, ⟨t1, o1⟩, ⟨t2, o2⟩, ⟨t3, o3⟩, ⟨t4, o4⟩, ⟨t5, o5⟩⟩ := Tryz.fields24
  obtain ⟨xs, n, _, he, hl, hlen, hfs⟩ := DataW.trod_struct hu hf
  rw [Tryz.cells24] at hl
  simp only [Value.cells] at hl hfs
  obtain ⟨l⟩ := cs
  simp only [] at hl hfs
  match l, hl, xs, hlen with
  | [c0, c1, c2, c3, c4, c5], _, [y0, y1, y2, y3, y4, y5], _ =>
    have h0 := hfs 0 f0 rfl
    have h1 := hfs 1 f1 rfl
    have h2 := hfs 2 f2 rfl
    have h3 := hfs 3 f3 rfl
    have h4 := hfs 4 f4 rfl
    have h5 := hfs 5 f5 rfl
    rw [t0, o0, Tryz.cells22] at h0
    rw [t1, o1, Tryz.cells3] at h1
    rw [t2, o2, Tryz.cells3] at h2
    rw [t3, o3, Tryz.cells3] at h3
    rw [t4, o4, Tryz.cells3] at h4
    rw [t5, o5, Tryz.cells3] at h5
    simp only [List.drop_zero, List.take_succ_cons, List.take_zero, List.drop_succ_cons, List.getElem?_cons_zero, List.getElem?_cons_succ] at h0 h1 h2 h3 h4 h5
    obtain ⟨n1, e1, _, w1⟩ := DataW.trod_int Tryz.underlying3 h1
    obtain ⟨n2, e2, _, w2⟩ := DataW.trod_int Tryz.underlying3 h2
    obtain ⟨n3, e3, _, w3⟩ := DataW.trod_int Tryz.underlying3 h3
    obtain ⟨n4, e4, _, w4⟩ := DataW.trod_int Tryz.underlying3 h4
    obtain ⟨n5, e5, _, w5⟩ := DataW.trod_int Tryz.underlying3 h5
    simp only [Prod.mk.injEq] at he
    obtain ⟨a, l, cap, zs, e0, hzl, hle, hnu⟩ := ints_sl h0 (fun w hw => hs w (by
      rw [he.1]
      simp only [DataW.weights, hu]
      exact DataW.weights_mem_each (j := 0) (t := 22) (d := y0.1) (by simp [t0]) rfl w hw))
    simp at e1 e2 e3 e4 e5
    exact ⟨a, l, cap, zs, n1, n2, n3, n4, n5, by rw [e0, e1, e2, e3, e4, e5], hnu, hzl, hle⟩
-- MSG
theorem cutL {α : Type} {l : List α} (a n : Nat) : l.drop a = (l.drop a).take n ++ l.drop (a + n) := by
  rw [← List.drop_drop]; exact (List.take_append_drop _ _).symm
theorem slice_c {H : Type} {enc : TypeId × Value → H} {W : World} {fuel : Nat} {t e : TypeId} {cs : List Value} {x : DataW H × List MemPlace} (ht : Tryz.prog.underlying t = some (.slice e))
    (hf : DataW.trod enc Tryz.prog W 0 (fun _ => true) true fuel t cs = some x) : ∃ a m cap, cs = [.slice a m cap] := by
  rcases Go.Deep.open_slice ht hf with ⟨hcs, _⟩ | ⟨a, l, c, _, _, _, _, hcs, _⟩
  · exact ⟨_, _, _, hcs⟩
  · exact ⟨_, _, _, hcs⟩
set_option maxRecDepth 100000 in
theorem addr_ok {H : Type} {enc : TypeId × Value → H} {W : World} {fuel : Nat} {l : List Value} {x : DataW H × List MemPlace}
    (hf : DataW.trod enc Tryz.prog W 0 (fun _ => true) true fuel 66 l = some x) : ∃ (n0 : Bool) (n1 : Int), l = [.bool n0, .int .i64 n1] := by
  obtain ⟨xs, n, _, _, hl, hlen, hfs⟩ := DataW.trod_struct Tryz.underlying66 hf
  rw [Tryz.cells66] at hl
  have hlen : xs.length = 2 := hlen
  have h0 : DataW.trod enc Tryz.prog W 0 (fun _ => true) true n 4 ((l.drop 0).take (Tryz.prog.cellsOf 4)) = xs[0]? := hfs 0 _ rfl
  obtain ⟨y0, hy0⟩ : ∃ y, xs[0]? = some y := ⟨_, List.getElem?_eq_getElem (show 0 < xs.length by omega)⟩
  rw [Tryz.cells4, hy0] at h0
  have h1 : DataW.trod enc Tryz.prog W 0 (fun _ => true) true n 3 ((l.drop 1).take (Tryz.prog.cellsOf 3)) = xs[1]? := hfs 1 _ rfl
  obtain ⟨y1, hy1⟩ : ∃ y, xs[1]? = some y := ⟨_, List.getElem?_eq_getElem (show 1 < xs.length by omega)⟩
  rw [Tryz.cells3, hy1] at h1
  obtain ⟨n0, e0, _⟩ := DataW.trod_bool Tryz.underlying4 h0
  obtain ⟨n1, e1, _, _⟩ := DataW.trod_int Tryz.underlying3 h1
  have s : l = l.drop 0 := rfl
  have s0 : l.drop 0 = (l.drop 0).take 1 ++ l.drop 1 := cutL 0 1
  rw [e0] at s0
  have s1 : l.drop 1 = (l.drop 1).take 1 ++ l.drop 2 := cutL 1 1
  rw [e1] at s1
  have sz : l.drop 2 = [] := List.drop_of_length_le (by omega)
  refine ⟨n0, n1, ?_⟩
  rw [s, s0, s1, sz]
  rfl
set_option maxRecDepth 100000 in
theorem key_ok {H : Type} {enc : TypeId × Value → H} {W : World} {fuel : Nat} {l : List Value} {x : DataW H × List MemPlace}
    (hf : DataW.trod enc Tryz.prog W 0 (fun _ => true) true fuel 68 l = some x) : ∃ (n0 : Int) (n1 : Int) (n2 : Int) (n3 : Int), l = [.int .i64 n0, .int .i64 n1, .int .i64 n2, .int .i64 n3] := by
  obtain ⟨xs, n, _, _, hl, hlen, hfs⟩ := DataW.trod_struct Tryz.underlying68 hf
  rw [Tryz.cells68] at hl
  have hlen : xs.length = 4 := hlen
  have h0 : DataW.trod enc Tryz.prog W 0 (fun _ => true) true n 3 ((l.drop 0).take (Tryz.prog.cellsOf 3)) = xs[0]? := hfs 0 _ rfl
  obtain ⟨y0, hy0⟩ : ∃ y, xs[0]? = some y := ⟨_, List.getElem?_eq_getElem (show 0 < xs.length by omega)⟩
  rw [Tryz.cells3, hy0] at h0
  have h1 : DataW.trod enc Tryz.prog W 0 (fun _ => true) true n 3 ((l.drop 1).take (Tryz.prog.cellsOf 3)) = xs[1]? := hfs 1 _ rfl
  obtain ⟨y1, hy1⟩ : ∃ y, xs[1]? = some y := ⟨_, List.getElem?_eq_getElem (show 1 < xs.length by omega)⟩
  rw [Tryz.cells3, hy1] at h1
  have h2 : DataW.trod enc Tryz.prog W 0 (fun _ => true) true n 3 ((l.drop 2).take (Tryz.prog.cellsOf 3)) = xs[2]? := hfs 2 _ rfl
  obtain ⟨y2, hy2⟩ : ∃ y, xs[2]? = some y := ⟨_, List.getElem?_eq_getElem (show 2 < xs.length by omega)⟩
  rw [Tryz.cells3, hy2] at h2
  have h3 : DataW.trod enc Tryz.prog W 0 (fun _ => true) true n 3 ((l.drop 3).take (Tryz.prog.cellsOf 3)) = xs[3]? := hfs 3 _ rfl
  obtain ⟨y3, hy3⟩ : ∃ y, xs[3]? = some y := ⟨_, List.getElem?_eq_getElem (show 3 < xs.length by omega)⟩
  rw [Tryz.cells3, hy3] at h3
  obtain ⟨n0, e0, _, _⟩ := DataW.trod_int Tryz.underlying3 h0
  obtain ⟨n1, e1, _, _⟩ := DataW.trod_int Tryz.underlying3 h1
  obtain ⟨n2, e2, _, _⟩ := DataW.trod_int Tryz.underlying3 h2
  obtain ⟨n3, e3, _, _⟩ := DataW.trod_int Tryz.underlying3 h3
  have s : l = l.drop 0 := rfl
  have s0 : l.drop 0 = (l.drop 0).take 1 ++ l.drop 1 := cutL 0 1
  rw [e0] at s0
  have s1 : l.drop 1 = (l.drop 1).take 1 ++ l.drop 2 := cutL 1 1
  rw [e1] at s1
  have s2 : l.drop 2 = (l.drop 2).take 1 ++ l.drop 3 := cutL 2 1
  rw [e2] at s2
  have s3 : l.drop 3 = (l.drop 3).take 1 ++ l.drop 4 := cutL 3 1
  rw [e3] at s3
  have sz : l.drop 4 = [] := List.drop_of_length_le (by omega)
  refine ⟨n0, n1, n2, n3, ?_⟩
  rw [s, s0, s1, s2, s3, sz]
  rfl
set_option maxRecDepth 100000 in
theorem stamp_ok {H : Type} {enc : TypeId × Value → H} {W : World} {fuel : Nat} {l : List Value} {x : DataW H × List MemPlace}
    (hf : DataW.trod enc Tryz.prog W 0 (fun _ => true) true fuel 35 l = some x) : ∃ (n0 : Int) (n1 : Int), l = [.int .i64 n0, .int .i64 n1] := by
  obtain ⟨xs, n, _, _, hl, hlen, hfs⟩ := DataW.trod_struct Tryz.underlying35 hf
  rw [Tryz.cells35] at hl
  have hlen : xs.length = 2 := hlen
  have h0 : DataW.trod enc Tryz.prog W 0 (fun _ => true) true n 3 ((l.drop 0).take (Tryz.prog.cellsOf 3)) = xs[0]? := hfs 0 _ rfl
  obtain ⟨y0, hy0⟩ : ∃ y, xs[0]? = some y := ⟨_, List.getElem?_eq_getElem (show 0 < xs.length by omega)⟩
  rw [Tryz.cells3, hy0] at h0
  have h1 : DataW.trod enc Tryz.prog W 0 (fun _ => true) true n 3 ((l.drop 1).take (Tryz.prog.cellsOf 3)) = xs[1]? := hfs 1 _ rfl
  obtain ⟨y1, hy1⟩ : ∃ y, xs[1]? = some y := ⟨_, List.getElem?_eq_getElem (show 1 < xs.length by omega)⟩
  rw [Tryz.cells3, hy1] at h1
  obtain ⟨n0, e0, _, _⟩ := DataW.trod_int Tryz.underlying3 h0
  obtain ⟨n1, e1, _, _⟩ := DataW.trod_int Tryz.underlying3 h1
  have s : l = l.drop 0 := rfl
  have s0 : l.drop 0 = (l.drop 0).take 1 ++ l.drop 1 := cutL 0 1
  rw [e0] at s0
  have s1 : l.drop 1 = (l.drop 1).take 1 ++ l.drop 2 := cutL 1 1
  rw [e1] at s1
  have sz : l.drop 2 = [] := List.drop_of_length_le (by omega)
  refine ⟨n0, n1, ?_⟩
  rw [s, s0, s1, sz]
  rfl
set_option maxRecDepth 100000 in
theorem file_ok {H : Type} {enc : TypeId × Value → H} {W : World} {fuel : Nat} {l : List Value} {x : DataW H × List MemPlace}
    (hf : DataW.trod enc Tryz.prog W 0 (fun _ => true) true fuel 43 l = some x) : ∃ (n0 : Int) (n1 : Int), l = [.int .i64 n0, .int .i64 n1] := by
  obtain ⟨xs, n, _, _, hl, hlen, hfs⟩ := DataW.trod_struct Tryz.underlying43 hf
  rw [Tryz.cells43] at hl
  have hlen : xs.length = 2 := hlen
  have h0 : DataW.trod enc Tryz.prog W 0 (fun _ => true) true n 3 ((l.drop 0).take (Tryz.prog.cellsOf 3)) = xs[0]? := hfs 0 _ rfl
  obtain ⟨y0, hy0⟩ : ∃ y, xs[0]? = some y := ⟨_, List.getElem?_eq_getElem (show 0 < xs.length by omega)⟩
  rw [Tryz.cells3, hy0] at h0
  have h1 : DataW.trod enc Tryz.prog W 0 (fun _ => true) true n 3 ((l.drop 1).take (Tryz.prog.cellsOf 3)) = xs[1]? := hfs 1 _ rfl
  obtain ⟨y1, hy1⟩ : ∃ y, xs[1]? = some y := ⟨_, List.getElem?_eq_getElem (show 1 < xs.length by omega)⟩
  rw [Tryz.cells3, hy1] at h1
  obtain ⟨n0, e0, _, _⟩ := DataW.trod_int Tryz.underlying3 h0
  obtain ⟨n1, e1, _, _⟩ := DataW.trod_int Tryz.underlying3 h1
  have s : l = l.drop 0 := rfl
  have s0 : l.drop 0 = (l.drop 0).take 1 ++ l.drop 1 := cutL 0 1
  rw [e0] at s0
  have s1 : l.drop 1 = (l.drop 1).take 1 ++ l.drop 2 := cutL 1 1
  rw [e1] at s1
  have sz : l.drop 2 = [] := List.drop_of_length_le (by omega)
  refine ⟨n0, n1, ?_⟩
  rw [s, s0, s1, sz]
  rfl
set_option maxRecDepth 100000 in
theorem cmd_ok {H : Type} {enc : TypeId × Value → H} {W : World} {fuel : Nat} {l : List Value} {x : DataW H × List MemPlace}
    (hf : DataW.trod enc Tryz.prog W 0 (fun _ => true) true fuel 45 l = some x) : ∃ (n0 : Int) (n1 : Int) (n2 : Int) (n3 : ByteArray) (x4_n0 : Int) (x4_n1 : Int) (x5_n0 : Int) (x5_n1 : Int) (n6 : Int), l = [.int .i64 n0, .int .i64 n1, .int .i64 n2, .string n3, .int .i64 x4_n0, .int .i64 x4_n1, .int .i64 x5_n0, .int .i64 x5_n1, .int .i64 n6] := by
  obtain ⟨xs, n, _, _, hl, hlen, hfs⟩ := DataW.trod_struct Tryz.underlying45 hf
  rw [Tryz.cells45] at hl
  have hlen : xs.length = 7 := hlen
  have h0 : DataW.trod enc Tryz.prog W 0 (fun _ => true) true n 3 ((l.drop 0).take (Tryz.prog.cellsOf 3)) = xs[0]? := hfs 0 _ rfl
  obtain ⟨y0, hy0⟩ : ∃ y, xs[0]? = some y := ⟨_, List.getElem?_eq_getElem (show 0 < xs.length by omega)⟩
  rw [Tryz.cells3, hy0] at h0
  have h1 : DataW.trod enc Tryz.prog W 0 (fun _ => true) true n 3 ((l.drop 1).take (Tryz.prog.cellsOf 3)) = xs[1]? := hfs 1 _ rfl
  obtain ⟨y1, hy1⟩ : ∃ y, xs[1]? = some y := ⟨_, List.getElem?_eq_getElem (show 1 < xs.length by omega)⟩
  rw [Tryz.cells3, hy1] at h1
  have h2 : DataW.trod enc Tryz.prog W 0 (fun _ => true) true n 3 ((l.drop 2).take (Tryz.prog.cellsOf 3)) = xs[2]? := hfs 2 _ rfl
  obtain ⟨y2, hy2⟩ : ∃ y, xs[2]? = some y := ⟨_, List.getElem?_eq_getElem (show 2 < xs.length by omega)⟩
  rw [Tryz.cells3, hy2] at h2
  have h3 : DataW.trod enc Tryz.prog W 0 (fun _ => true) true n 9 ((l.drop 3).take (Tryz.prog.cellsOf 9)) = xs[3]? := hfs 3 _ rfl
  obtain ⟨y3, hy3⟩ : ∃ y, xs[3]? = some y := ⟨_, List.getElem?_eq_getElem (show 3 < xs.length by omega)⟩
  rw [Tryz.cells9, hy3] at h3
  have h4 : DataW.trod enc Tryz.prog W 0 (fun _ => true) true n 43 ((l.drop 4).take (Tryz.prog.cellsOf 43)) = xs[4]? := hfs 4 _ rfl
  obtain ⟨y4, hy4⟩ : ∃ y, xs[4]? = some y := ⟨_, List.getElem?_eq_getElem (show 4 < xs.length by omega)⟩
  rw [Tryz.cells43, hy4] at h4
  have h5 : DataW.trod enc Tryz.prog W 0 (fun _ => true) true n 43 ((l.drop 6).take (Tryz.prog.cellsOf 43)) = xs[5]? := hfs 5 _ rfl
  obtain ⟨y5, hy5⟩ : ∃ y, xs[5]? = some y := ⟨_, List.getElem?_eq_getElem (show 5 < xs.length by omega)⟩
  rw [Tryz.cells43, hy5] at h5
  have h6 : DataW.trod enc Tryz.prog W 0 (fun _ => true) true n 3 ((l.drop 8).take (Tryz.prog.cellsOf 3)) = xs[6]? := hfs 6 _ rfl
  obtain ⟨y6, hy6⟩ : ∃ y, xs[6]? = some y := ⟨_, List.getElem?_eq_getElem (show 6 < xs.length by omega)⟩
  rw [Tryz.cells3, hy6] at h6
  obtain ⟨n0, e0, _, _⟩ := DataW.trod_int Tryz.underlying3 h0
  obtain ⟨n1, e1, _, _⟩ := DataW.trod_int Tryz.underlying3 h1
  obtain ⟨n2, e2, _, _⟩ := DataW.trod_int Tryz.underlying3 h2
  obtain ⟨n3, e3, _, _⟩ := DataW.trod_string Tryz.underlying9 h3
  obtain ⟨x4_n0, x4_n1, e4⟩ := file_ok h4
  obtain ⟨x5_n0, x5_n1, e5⟩ := file_ok h5
  obtain ⟨n6, e6, _, _⟩ := DataW.trod_int Tryz.underlying3 h6
  have s : l = l.drop 0 := rfl
  have s0 : l.drop 0 = (l.drop 0).take 1 ++ l.drop 1 := cutL 0 1
  rw [e0] at s0
  have s1 : l.drop 1 = (l.drop 1).take 1 ++ l.drop 2 := cutL 1 1
  rw [e1] at s1
  have s2 : l.drop 2 = (l.drop 2).take 1 ++ l.drop 3 := cutL 2 1
  rw [e2] at s2
  have s3 : l.drop 3 = (l.drop 3).take 1 ++ l.drop 4 := cutL 3 1
  rw [e3] at s3
  have s4 : l.drop 4 = (l.drop 4).take 2 ++ l.drop 6 := cutL 4 2
  rw [e4] at s4
  have s5 : l.drop 6 = (l.drop 6).take 2 ++ l.drop 8 := cutL 6 2
  rw [e5] at s5
  have s6 : l.drop 8 = (l.drop 8).take 1 ++ l.drop 9 := cutL 8 1
  rw [e6] at s6
  have sz : l.drop 9 = [] := List.drop_of_length_le (by omega)
  refine ⟨n0, n1, n2, n3, x4_n0, x4_n1, x5_n0, x5_n1, n6, ?_⟩
  rw [s, s0, s1, s2, s3, s4, s5, s6, sz]
  rfl
set_option maxRecDepth 100000 in
theorem bkt_ok {H : Type} {enc : TypeId × Value → H} {W : World} {fuel : Nat} {l : List Value} {x : DataW H × List MemPlace}
    (hf : DataW.trod enc Tryz.prog W 0 (fun _ => true) true fuel 54 l = some x) : ∃ (n0 : Int) (a1 : Option Addr) (m1 c1 : Nat) (a2 : Option Addr) (m2 c2 : Nat), l = [.int .i64 n0, .slice a1 m1 c1, .slice a2 m2 c2] := by
  obtain ⟨xs, n, _, _, hl, hlen, hfs⟩ := DataW.trod_struct Tryz.underlying54 hf
  rw [Tryz.cells54] at hl
  have hlen : xs.length = 3 := hlen
  have h0 : DataW.trod enc Tryz.prog W 0 (fun _ => true) true n 3 ((l.drop 0).take (Tryz.prog.cellsOf 3)) = xs[0]? := hfs 0 _ rfl
  obtain ⟨y0, hy0⟩ : ∃ y, xs[0]? = some y := ⟨_, List.getElem?_eq_getElem (show 0 < xs.length by omega)⟩
  rw [Tryz.cells3, hy0] at h0
  have h1 : DataW.trod enc Tryz.prog W 0 (fun _ => true) true n 51 ((l.drop 1).take (Tryz.prog.cellsOf 51)) = xs[1]? := hfs 1 _ rfl
  obtain ⟨y1, hy1⟩ : ∃ y, xs[1]? = some y := ⟨_, List.getElem?_eq_getElem (show 1 < xs.length by omega)⟩
  rw [Tryz.cells51, hy1] at h1
  have h2 : DataW.trod enc Tryz.prog W 0 (fun _ => true) true n 52 ((l.drop 2).take (Tryz.prog.cellsOf 52)) = xs[2]? := hfs 2 _ rfl
  obtain ⟨y2, hy2⟩ : ∃ y, xs[2]? = some y := ⟨_, List.getElem?_eq_getElem (show 2 < xs.length by omega)⟩
  rw [Tryz.cells52, hy2] at h2
  obtain ⟨n0, e0, _, _⟩ := DataW.trod_int Tryz.underlying3 h0
  obtain ⟨a1, m1, c1, e1⟩ := slice_c Tryz.underlying51 h1
  obtain ⟨a2, m2, c2, e2⟩ := slice_c Tryz.underlying52 h2
  have s : l = l.drop 0 := rfl
  have s0 : l.drop 0 = (l.drop 0).take 1 ++ l.drop 1 := cutL 0 1
  rw [e0] at s0
  have s1 : l.drop 1 = (l.drop 1).take 1 ++ l.drop 2 := cutL 1 1
  rw [e1] at s1
  have s2 : l.drop 2 = (l.drop 2).take 1 ++ l.drop 3 := cutL 2 1
  rw [e2] at s2
  have sz : l.drop 3 = [] := List.drop_of_length_le (by omega)
  refine ⟨n0, a1, m1, c1, a2, m2, c2, ?_⟩
  rw [s, s0, s1, s2, sz]
  rfl
set_option maxRecDepth 100000 in
theorem msg_ok {H : Type} {enc : TypeId × Value → H} {W : World} {fuel : Nat} {l : List Value} {x : DataW H × List MemPlace}
    (hf : DataW.trod enc Tryz.prog W 0 (fun _ => true) true fuel 71 l = some x) : ∃ (n0 : Int) (x1_n0 : Bool) (x1_n1 : Int) (x2_n0 : Bool) (x2_n1 : Int) (n3 : Int) (n4 : Int) (x5_n0 : Int) (x5_n1 : Int) (x5_n2 : Int) (x5_n3 : Int) (x6_n0 : Int) (x6_n1 : Int) (x7_n0 : Int) (x7_n1 : Int) (a8 : Option Addr) (m8 c8 : Nat) (x9_n0 : Int) (x9_n1 : Int) (x9_n2 : Int) (x9_n3 : ByteArray) (x9_x4_n0 : Int) (x9_x4_n1 : Int) (x9_x5_n0 : Int) (x9_x5_n1 : Int) (x9_n6 : Int) (x10_n0 : Int) (x10_a1 : Option Addr) (x10_m1 x10_c1 : Nat) (x10_a2 : Option Addr) (x10_m2 x10_c2 : Nat) (a11 : Option Addr) (m11 c11 : Nat) (n12 : Bool), l = [.int .i64 n0, .bool x1_n0, .int .i64 x1_n1, .bool x2_n0, .int .i64 x2_n1, .int .i64 n3, .int .i64 n4, .int .i64 x5_n0, .int .i64 x5_n1, .int .i64 x5_n2, .int .i64 x5_n3, .int .i64 x6_n0, .int .i64 x6_n1, .int .i64 x7_n0, .int .i64 x7_n1, .slice a8 m8 c8, .int .i64 x9_n0, .int .i64 x9_n1, .int .i64 x9_n2, .string x9_n3, .int .i64 x9_x4_n0, .int .i64 x9_x4_n1, .int .i64 x9_x5_n0, .int .i64 x9_x5_n1, .int .i64 x9_n6, .int .i64 x10_n0, .slice x10_a1 x10_m1 x10_c1, .slice x10_a2 x10_m2 x10_c2, .slice a11 m11 c11, .bool n12] := by
  obtain ⟨xs, n, _, _, hl, hlen, hfs⟩ := DataW.trod_struct Tryz.underlying71 hf
  rw [Tryz.cells71] at hl
  have hlen : xs.length = 13 := hlen
  have h0 : DataW.trod enc Tryz.prog W 0 (fun _ => true) true n 3 ((l.drop 0).take (Tryz.prog.cellsOf 3)) = xs[0]? := hfs 0 _ rfl
  obtain ⟨y0, hy0⟩ : ∃ y, xs[0]? = some y := ⟨_, List.getElem?_eq_getElem (show 0 < xs.length by omega)⟩
  rw [Tryz.cells3, hy0] at h0
  have h1 : DataW.trod enc Tryz.prog W 0 (fun _ => true) true n 66 ((l.drop 1).take (Tryz.prog.cellsOf 66)) = xs[1]? := hfs 1 _ rfl
  obtain ⟨y1, hy1⟩ : ∃ y, xs[1]? = some y := ⟨_, List.getElem?_eq_getElem (show 1 < xs.length by omega)⟩
  rw [Tryz.cells66, hy1] at h1
  have h2 : DataW.trod enc Tryz.prog W 0 (fun _ => true) true n 66 ((l.drop 3).take (Tryz.prog.cellsOf 66)) = xs[2]? := hfs 2 _ rfl
  obtain ⟨y2, hy2⟩ : ∃ y, xs[2]? = some y := ⟨_, List.getElem?_eq_getElem (show 2 < xs.length by omega)⟩
  rw [Tryz.cells66, hy2] at h2
  have h3 : DataW.trod enc Tryz.prog W 0 (fun _ => true) true n 3 ((l.drop 5).take (Tryz.prog.cellsOf 3)) = xs[3]? := hfs 3 _ rfl
  obtain ⟨y3, hy3⟩ : ∃ y, xs[3]? = some y := ⟨_, List.getElem?_eq_getElem (show 3 < xs.length by omega)⟩
  rw [Tryz.cells3, hy3] at h3
  have h4 : DataW.trod enc Tryz.prog W 0 (fun _ => true) true n 3 ((l.drop 6).take (Tryz.prog.cellsOf 3)) = xs[4]? := hfs 4 _ rfl
  obtain ⟨y4, hy4⟩ : ∃ y, xs[4]? = some y := ⟨_, List.getElem?_eq_getElem (show 4 < xs.length by omega)⟩
  rw [Tryz.cells3, hy4] at h4
  have h5 : DataW.trod enc Tryz.prog W 0 (fun _ => true) true n 68 ((l.drop 7).take (Tryz.prog.cellsOf 68)) = xs[5]? := hfs 5 _ rfl
  obtain ⟨y5, hy5⟩ : ∃ y, xs[5]? = some y := ⟨_, List.getElem?_eq_getElem (show 5 < xs.length by omega)⟩
  rw [Tryz.cells68, hy5] at h5
  have h6 : DataW.trod enc Tryz.prog W 0 (fun _ => true) true n 35 ((l.drop 11).take (Tryz.prog.cellsOf 35)) = xs[6]? := hfs 6 _ rfl
  obtain ⟨y6, hy6⟩ : ∃ y, xs[6]? = some y := ⟨_, List.getElem?_eq_getElem (show 6 < xs.length by omega)⟩
  rw [Tryz.cells35, hy6] at h6
  have h7 : DataW.trod enc Tryz.prog W 0 (fun _ => true) true n 35 ((l.drop 13).take (Tryz.prog.cellsOf 35)) = xs[7]? := hfs 7 _ rfl
  obtain ⟨y7, hy7⟩ : ∃ y, xs[7]? = some y := ⟨_, List.getElem?_eq_getElem (show 7 < xs.length by omega)⟩
  rw [Tryz.cells35, hy7] at h7
  have h8 : DataW.trod enc Tryz.prog W 0 (fun _ => true) true n 30 ((l.drop 15).take (Tryz.prog.cellsOf 30)) = xs[8]? := hfs 8 _ rfl
  obtain ⟨y8, hy8⟩ : ∃ y, xs[8]? = some y := ⟨_, List.getElem?_eq_getElem (show 8 < xs.length by omega)⟩
  rw [Tryz.cells30, hy8] at h8
  have h9 : DataW.trod enc Tryz.prog W 0 (fun _ => true) true n 45 ((l.drop 16).take (Tryz.prog.cellsOf 45)) = xs[9]? := hfs 9 _ rfl
  obtain ⟨y9, hy9⟩ : ∃ y, xs[9]? = some y := ⟨_, List.getElem?_eq_getElem (show 9 < xs.length by omega)⟩
  rw [Tryz.cells45, hy9] at h9
  have h10 : DataW.trod enc Tryz.prog W 0 (fun _ => true) true n 54 ((l.drop 25).take (Tryz.prog.cellsOf 54)) = xs[10]? := hfs 10 _ rfl
  obtain ⟨y10, hy10⟩ : ∃ y, xs[10]? = some y := ⟨_, List.getElem?_eq_getElem (show 10 < xs.length by omega)⟩
  rw [Tryz.cells54, hy10] at h10
  have h11 : DataW.trod enc Tryz.prog W 0 (fun _ => true) true n 69 ((l.drop 28).take (Tryz.prog.cellsOf 69)) = xs[11]? := hfs 11 _ rfl
  obtain ⟨y11, hy11⟩ : ∃ y, xs[11]? = some y := ⟨_, List.getElem?_eq_getElem (show 11 < xs.length by omega)⟩
  rw [Tryz.cells69, hy11] at h11
  have h12 : DataW.trod enc Tryz.prog W 0 (fun _ => true) true n 4 ((l.drop 29).take (Tryz.prog.cellsOf 4)) = xs[12]? := hfs 12 _ rfl
  obtain ⟨y12, hy12⟩ : ∃ y, xs[12]? = some y := ⟨_, List.getElem?_eq_getElem (show 12 < xs.length by omega)⟩
  rw [Tryz.cells4, hy12] at h12
  obtain ⟨n0, e0, _, _⟩ := DataW.trod_int Tryz.underlying3 h0
  obtain ⟨x1_n0, x1_n1, e1⟩ := addr_ok h1
  obtain ⟨x2_n0, x2_n1, e2⟩ := addr_ok h2
  obtain ⟨n3, e3, _, _⟩ := DataW.trod_int Tryz.underlying3 h3
  obtain ⟨n4, e4, _, _⟩ := DataW.trod_int Tryz.underlying3 h4
  obtain ⟨x5_n0, x5_n1, x5_n2, x5_n3, e5⟩ := key_ok h5
  obtain ⟨x6_n0, x6_n1, e6⟩ := stamp_ok h6
  obtain ⟨x7_n0, x7_n1, e7⟩ := stamp_ok h7
  obtain ⟨a8, m8, c8, e8⟩ := slice_c Tryz.underlying30 h8
  obtain ⟨x9_n0, x9_n1, x9_n2, x9_n3, x9_x4_n0, x9_x4_n1, x9_x5_n0, x9_x5_n1, x9_n6, e9⟩ := cmd_ok h9
  obtain ⟨x10_n0, x10_a1, x10_m1, x10_c1, x10_a2, x10_m2, x10_c2, e10⟩ := bkt_ok h10
  obtain ⟨a11, m11, c11, e11⟩ := slice_c Tryz.underlying69 h11
  obtain ⟨n12, e12, _⟩ := DataW.trod_bool Tryz.underlying4 h12
  have s : l = l.drop 0 := rfl
  have s0 : l.drop 0 = (l.drop 0).take 1 ++ l.drop 1 := cutL 0 1
  rw [e0] at s0
  have s1 : l.drop 1 = (l.drop 1).take 2 ++ l.drop 3 := cutL 1 2
  rw [e1] at s1
  have s2 : l.drop 3 = (l.drop 3).take 2 ++ l.drop 5 := cutL 3 2
  rw [e2] at s2
  have s3 : l.drop 5 = (l.drop 5).take 1 ++ l.drop 6 := cutL 5 1
  rw [e3] at s3
  have s4 : l.drop 6 = (l.drop 6).take 1 ++ l.drop 7 := cutL 6 1
  rw [e4] at s4
  have s5 : l.drop 7 = (l.drop 7).take 4 ++ l.drop 11 := cutL 7 4
  rw [e5] at s5
  have s6 : l.drop 11 = (l.drop 11).take 2 ++ l.drop 13 := cutL 11 2
  rw [e6] at s6
  have s7 : l.drop 13 = (l.drop 13).take 2 ++ l.drop 15 := cutL 13 2
  rw [e7] at s7
  have s8 : l.drop 15 = (l.drop 15).take 1 ++ l.drop 16 := cutL 15 1
  rw [e8] at s8
  have s9 : l.drop 16 = (l.drop 16).take 9 ++ l.drop 25 := cutL 16 9
  rw [e9] at s9
  have s10 : l.drop 25 = (l.drop 25).take 3 ++ l.drop 28 := cutL 25 3
  rw [e10] at s10
  have s11 : l.drop 28 = (l.drop 28).take 1 ++ l.drop 29 := cutL 28 1
  rw [e11] at s11
  have s12 : l.drop 29 = (l.drop 29).take 1 ++ l.drop 30 := cutL 29 1
  rw [e12] at s12
  have sz : l.drop 30 = [] := List.drop_of_length_le (by omega)
  refine ⟨n0, x1_n0, x1_n1, x2_n0, x2_n1, n3, n4, x5_n0, x5_n1, x5_n2, x5_n3, x6_n0, x6_n1, x7_n0, x7_n1, a8, m8, c8, x9_n0, x9_n1, x9_n2, x9_n3, x9_x4_n0, x9_x4_n1, x9_x5_n0, x9_x5_n1, x9_n6, x10_n0, x10_a1, x10_m1, x10_c1, x10_a2, x10_m2, x10_c2, a11, m11, c11, n12, ?_⟩
  rw [s, s0, s1, s2, s3, s4, s5, s6, s7, s8, s9, s10, s11, s12, sz]
  rfl
set_option maxRecDepth 100000 in
/-- A message that came in. -/
theorem opened_msg (H : Type) (enc : TypeId × Value → H) (W : World) (b0 : Nat) (v : Value) (d0 : DataW H) (p0 : List MemPlace) (hv : Value.okWide Tryz.prog W .any b0 71 v)
    (h0 : DataW.Trod enc Tryz.prog W 0 (fun _ => true) true 71 v d0 p0) : ∃ m : MsgD, v = .agg m.cells := by
  obtain ⟨cs, rfl, _⟩ := okWide_struct Tryz.underlying71 hv
  obtain ⟨fuel, hf⟩ := h0
  obtain ⟨l⟩ := cs
  obtain ⟨n0, x1_n0, x1_n1, x2_n0, x2_n1, n3, n4, x5_n0, x5_n1, x5_n2, x5_n3, x6_n0, x6_n1, x7_n0, x7_n1, a8, m8, c8, x9_n0, x9_n1, x9_n2, x9_n3, x9_x4_n0, x9_x4_n1, x9_x5_n0, x9_x5_n1, x9_n6, x10_n0, x10_a1, x10_m1, x10_c1, x10_a2, x10_m2, x10_c2, a11, m11, c11, n12, e⟩ := msg_ok (l := l) hf
  subst e
  exact ⟨⟨n0, x1_n0, x1_n1, x2_n0, x2_n1, n3, n4, x5_n0, x5_n1, x5_n2, x5_n3, x6_n0, x6_n1, x7_n0, x7_n1, a8, m8, c8, x9_n0, x9_n1, x9_n2, x9_n3, x9_x4_n0, x9_x4_n1, x9_x5_n0, x9_x5_n1, x9_n6, x10_n0, x10_a1, x10_m1, x10_c1, x10_a2, x10_m2, x10_c2, a11, m11, c11, n12⟩, rfl⟩

namespace msgConfig
set_option maxRecDepth 100000 in
theorem lifted (os : Os) (started : os.Started) (H : Type) (enc : TypeId × Value → H) :
    ReturnsInHanded {} Tryz.checked os 5 .any (Rows.msgConfigSpec.pre6 enc Tryz.prog Tryz.f5 Rows.msgConfigRow.domain false) (Rows.msgConfigSpec.post enc Tryz.prog Tryz.f5 false true false false) := by
  refine returnsInHanded_of_change_sized (C := Tryz.checked) own started (by kernel_rfl) Tryz.func5
    (ChangeSpec.witness6 (enc := enc) (C := Tryz.checked) false ⟨#[], #[.agg #[.slice none 0 0, .int .i64 0, .int .i64 0, .int .i64 0, .int .i64 0, .int .i64 0], .agg mZ.cells, .slice none 0 0], []⟩ 8 (by kernel_rfl) (by kernel_rfl) (by kernel_rfl) (by kernel_rfl)) ?_
  intro W base args ds gs before hval0 hW hcnd hsz0 hlone
  have hval : ∀ (j : Nat) t v, Tryz.f5.params[j]? = some t → args[j]? = some v → Value.okWide Tryz.prog W .any base t v := hval0
  have hsz1 : (DataW.weightsEach Tryz.prog (Tryz.f5.params.toList ++ Rows.msgConfigSpec.plain.varTypes Tryz.prog) (ds ++ gs)).all (· ≤ reachBytes) = true := hsz0
  have hW' := hW
  obtain ⟨p, q, hA0, hV, rfl, hfz, hnd⟩ := hW
  have hA : DataW.TrodAll enc Tryz.prog W 0 (fun _ => true) true Tryz.f5.params.toList args.toList ds p := hA0
  rw [Tryz.params5] at hA hval hsz1
  obtain ⟨v0, vs0, d0, ds0, p0, q0, hargs, rfl, rfl, h0, r0⟩ := trodAll_cons hA
  obtain ⟨v1, vs1, d1, ds1, p1, q1, rfl, rfl, rfl, h1, r1⟩ := trodAll_cons r0
  obtain ⟨v2, vs2, d2, ds2, p2, q2, rfl, rfl, rfl, h2, r2⟩ := trodAll_cons r1
  obtain ⟨rfl, rfl, rfl⟩ := trodAll_nil r2
  obtain rfl : args = #[v0, v1, v2] := by cases args; simp_all
  obtain ⟨rfl, rfl⟩ := trodVars_none hV
  obtain ⟨sa, sn, sc, zs, f, p, bu, bl, ro, e0, s0⟩ := opened_cfg H enc W base v0 d0 p0 (hval 0 24 v0 rfl rfl) h0 hsz1 (j := 0) rfl rfl
  obtain ⟨m, e1⟩ := opened_msg H enc W base v1 d1 p1 (hval 1 71 v1 rfl rfl) h1
  obtain ⟨a2, len2, cap2, rfl⟩ := okWide_slice Tryz.underlying30 (hval 2 30 v2 rfl rfl)
  have k0 := h0
  have k1 := h1
  have k2 := h2
  have lt0 : ∀ x ∈ p0, x.block < W.heap.size := by obtain ⟨m, hm⟩ := k0; exact DataW.trod_lt m _ _ _ hm
  have lt1 : ∀ x ∈ p1, x.block < W.heap.size := by obtain ⟨m, hm⟩ := k1; exact DataW.trod_lt m _ _ _ hm
  have lt2 : ∀ x ∈ p2, x.block < W.heap.size := by obtain ⟨m, hm⟩ := k2; exact DataW.trod_lt m _ _ _ hm
  clear hA0 hval0 hsz0
  subst e0 e1
  refine (config_any m sa sn sc zs f p bu bl ro a2 len2 cap2 W s0).mono fun e W' ⟨he, hk⟩ => ?_
  have bel : Below W.heap.size W W' := bel hk
  subst he
  exact ⟨_, rfl, _, _, _, [], _, [], hW', trodAll_mk1 (shut_bool Tryz.underlying4 _), (trodAll_cons_mk (Below.trod laidOut (by kernel_rfl) (of_decide_eq_true (by kernel_rfl)) k0 bel lt0) (trodAll_cons_mk (Below.trod laidOut (by kernel_rfl) (of_decide_eq_true (by kernel_rfl)) k1 bel lt1) (trodAll_cons_mk (Below.trod laidOut (by kernel_rfl) (of_decide_eq_true (by kernel_rfl)) k2 bel lt2) trodAll_mk0))), rfl, bel.frame _, fun h => by cases h⟩

theorem over : Rows.msgConfigRow.holds Tryz.pinned (OpenSpec.ofChange Rows.msgConfigSpec) :=
  OpenClaim.holds_of_wide 5 Tryz.f5 rfl rfl rfl rfl rfl rfl rfl ⟨rfl, rfl, rfl, rfl, rfl⟩ rfl rfl rfl rfl rfl (by kernel_rfl) Tryz.func5 (by kernel_rfl)
    (of_decide_eq_true (by kernel_rfl)) (by unfold Func.isWrapper; first | (rw [if_pos (by decide +kernel)]; kernel_rfl) | (rw [if_neg (by decide +kernel)]; exact ⟨rfl, rfl⟩))
    (fun os started H enc _ => lifted os started H enc)

end msgConfig

theorem msgConfig_holds : Rows.MsgConfigSaid := msgConfig.over

#print axioms msgConfig_holds
end Go.Proofs.YtgdnofacgfjaeabGreat
