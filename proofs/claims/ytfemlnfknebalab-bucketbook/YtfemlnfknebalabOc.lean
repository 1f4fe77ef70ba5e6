import Derived.Test.YtfemlnfknebalabTb
import Derived.ProofKit
import Derived.OpenShut
import Derived.ShutString
import Derived.ChangeOld
import Derived.SizedLaws
import Derived.Deep.Slices
namespace Go.Proofs.Ytfemlnfknebalab
open Go.ChangeShapes Go.WideShapes Go.ChangeAt Go.RowKit
open Go.ChangeMaps (open_string shut_string)
set_option linter.unusedVariables false
set_option linter.unusedSimpArgs false

theorem own : ownKnob Try.prog.godebug = none := by kernel_rfl
theorem laidOut : laidOutB Try.prog = true := by kernel_rfl
theorem cutL {α : Type} {l : List α} (a n : Nat) : l.drop a = (l.drop a).take n ++ l.drop (a + n) := by
  rw [← List.drop_drop]; exact (List.take_append_drop _ _).symm
theorem Try.cells3 : Try.prog.cellsOf 3 = 1 := by kernel_rfl
theorem Try.cells9 : Try.prog.cellsOf 9 = 1 := by kernel_rfl
theorem Try.cells27 : Try.prog.cellsOf 29 = 2 := by kernel_rfl
theorem Try.cells29 : Try.prog.cellsOf 31 = 9 := by kernel_rfl
theorem Try.bytes29 : Try.prog.bytesOf 31 = 80 := by kernel_rfl
set_option maxRecDepth 100000 in
theorem file_ok {H : Type} {enc : TypeId × Value → H} {W : World} {fuel : Nat} {l : List Value} {x : DataW H × List MemPlace}
    (hf : DataW.trod enc Try.prog W 0 (fun _ => true) true fuel 29 l = some x) : ∃ a b : Int, l = [.int .i64 a, .int .i64 b] := by
  obtain ⟨xs, n, _, _, hl, hlen, hfs⟩ := DataW.trod_struct Try.und27 hf
  rw [Try.cells27] at hl
  have hlen : xs.length = 2 := hlen
  have h0 : DataW.trod enc Try.prog W 0 (fun _ => true) true n 3 ((l.drop 0).take (Try.prog.cellsOf 3)) = xs[0]? := hfs 0 _ rfl
  obtain ⟨y0, hy0⟩ : ∃ y, xs[0]? = some y := ⟨_, List.getElem?_eq_getElem (show 0 < xs.length by omega)⟩
  rw [Try.cells3, hy0] at h0
  have h1 : DataW.trod enc Try.prog W 0 (fun _ => true) true n 3 ((l.drop 1).take (Try.prog.cellsOf 3)) = xs[1]? := hfs 1 _ rfl
  obtain ⟨y1, hy1⟩ : ∃ y, xs[1]? = some y := ⟨_, List.getElem?_eq_getElem (show 1 < xs.length by omega)⟩
  rw [Try.cells3, hy1] at h1
  obtain ⟨n0, e0, _, _⟩ := DataW.trod_int Try.und3 h0
  obtain ⟨n1, e1, _, _⟩ := DataW.trod_int Try.und3 h1
  have s : l = l.drop 0 := rfl
  have s0 : l.drop 0 = (l.drop 0).take 1 ++ l.drop 1 := cutL 0 1
  rw [e0] at s0
  have s1 : l.drop 1 = (l.drop 1).take 1 ++ l.drop 2 := cutL 1 1
  rw [e1] at s1
  have sz : l.drop 2 = [] := List.drop_of_length_le (by omega)
  refine ⟨n0, n1, ?_⟩
  rw [s, s0, s1, sz]
  rfl
set_option maxRecDepth 100000 in
theorem cmd_ok {H : Type} {enc : TypeId × Value → H} {W : World} {fuel : Nat} {l : List Value} {x : DataW H × List MemPlace}
    (hf : DataW.trod enc Try.prog W 0 (fun _ => true) true fuel 31 l = some x) : ∃ c : Cm, l = c.cs := by
  obtain ⟨xs, n, _, _, hl, hlen, hfs⟩ := DataW.trod_struct Try.und29 hf
  rw [Try.cells29] at hl
  have hlen : xs.length = 7 := hlen
  have h0 : DataW.trod enc Try.prog W 0 (fun _ => true) true n 3 ((l.drop 0).take (Try.prog.cellsOf 3)) = xs[0]? := hfs 0 _ rfl
  obtain ⟨y0, hy0⟩ : ∃ y, xs[0]? = some y := ⟨_, List.getElem?_eq_getElem (show 0 < xs.length by omega)⟩
  rw [Try.cells3, hy0] at h0
  have h1 : DataW.trod enc Try.prog W 0 (fun _ => true) true n 3 ((l.drop 1).take (Try.prog.cellsOf 3)) = xs[1]? := hfs 1 _ rfl
  obtain ⟨y1, hy1⟩ : ∃ y, xs[1]? = some y := ⟨_, List.getElem?_eq_getElem (show 1 < xs.length by omega)⟩
  rw [Try.cells3, hy1] at h1
  have h2 : DataW.trod enc Try.prog W 0 (fun _ => true) true n 3 ((l.drop 2).take (Try.prog.cellsOf 3)) = xs[2]? := hfs 2 _ rfl
  obtain ⟨y2, hy2⟩ : ∃ y, xs[2]? = some y := ⟨_, List.getElem?_eq_getElem (show 2 < xs.length by omega)⟩
  rw [Try.cells3, hy2] at h2
  have h3 : DataW.trod enc Try.prog W 0 (fun _ => true) true n 9 ((l.drop 3).take (Try.prog.cellsOf 9)) = xs[3]? := hfs 3 _ rfl
  obtain ⟨y3, hy3⟩ : ∃ y, xs[3]? = some y := ⟨_, List.getElem?_eq_getElem (show 3 < xs.length by omega)⟩
  rw [Try.cells9, hy3] at h3
  have h4 : DataW.trod enc Try.prog W 0 (fun _ => true) true n 29 ((l.drop 4).take (Try.prog.cellsOf 29)) = xs[4]? := hfs 4 _ rfl
  obtain ⟨y4, hy4⟩ : ∃ y, xs[4]? = some y := ⟨_, List.getElem?_eq_getElem (show 4 < xs.length by omega)⟩
  rw [Try.cells27, hy4] at h4
  have h5 : DataW.trod enc Try.prog W 0 (fun _ => true) true n 29 ((l.drop 6).take (Try.prog.cellsOf 29)) = xs[5]? := hfs 5 _ rfl
  obtain ⟨y5, hy5⟩ : ∃ y, xs[5]? = some y := ⟨_, List.getElem?_eq_getElem (show 5 < xs.length by omega)⟩
  rw [Try.cells27, hy5] at h5
  have h6 : DataW.trod enc Try.prog W 0 (fun _ => true) true n 3 ((l.drop 8).take (Try.prog.cellsOf 3)) = xs[6]? := hfs 6 _ rfl
  obtain ⟨y6, hy6⟩ : ∃ y, xs[6]? = some y := ⟨_, List.getElem?_eq_getElem (show 6 < xs.length by omega)⟩
  rw [Try.cells3, hy6] at h6
  obtain ⟨n0, e0, _, _⟩ := DataW.trod_int Try.und3 h0
  obtain ⟨n1, e1, _, _⟩ := DataW.trod_int Try.und3 h1
  obtain ⟨n2, e2, _, _⟩ := DataW.trod_int Try.und3 h2
  obtain ⟨n3, e3, _, _⟩ := DataW.trod_string Try.und9 h3
  obtain ⟨m4, n4, e4⟩ := file_ok h4
  obtain ⟨m5, n5, e5⟩ := file_ok h5
  obtain ⟨n6, e6, _, _⟩ := DataW.trod_int Try.und3 h6
  have s : l = l.drop 0 := rfl
  have s0 : l.drop 0 = (l.drop 0).take 1 ++ l.drop 1 := cutL 0 1
  rw [e0] at s0
  have s1 : l.drop 1 = (l.drop 1).take 1 ++ l.drop 2 := cutL 1 1
  rw [e1] at s1
  have s2 : l.drop 2 = (l.drop 2).take 1 ++ l.drop 3 := cutL 2 1
  rw [e2] at s2
  have s3 : l.drop 3 = (l.drop 3).take 1 ++ l.drop 4 := cutL 3 1
  rw [e3] at s3
  have s4 : l.drop 4 = (l.drop 4).take 2 ++ l.drop 6 := cutL 4 2
  rw [e4] at s4
  have s5 : l.drop 6 = (l.drop 6).take 2 ++ l.drop 8 := cutL 6 2
  rw [e5] at s5
  have s6 : l.drop 8 = (l.drop 8).take 1 ++ l.drop 9 := cutL 8 1
  rw [e6] at s6
  have sz : l.drop 9 = [] := List.drop_of_length_le (by omega)
  refine ⟨⟨n0, n1, n2, n3, m4, n4, m5, n5, n6⟩, ?_⟩
  rw [s, s0, s1, s2, s3, s4, s5, s6, sz]
  rfl
theorem cmds_ok {H : Type} {enc : TypeId × Value → H} {W : World} {fuel : Nat} {v : Value} {x : DataW H × List MemPlace}
    (hf : DataW.trod enc Try.prog W 0 (fun _ => true) true fuel 22 [v] = some x) (hs : ∀ n ∈ x.1.weights Try.prog 22, n ≤ reachBytes) :
    ∃ a len cap, v = .slice a len cap ∧ ∃ xs : List Cm, xs.length = len ∧ len * 80 ≤ 140737488351232 ∧ (a = none → cap = 0) ∧ len ≤ cap ∧ RowsAt 9 W a (xs.map Cm.cs) := by
  rcases Go.Deep.open_slice Try.und34 hf with ⟨hcs, _⟩ | ⟨ad, l, cp, m, n, D, Pl, hcs, hq, hl, hm, hmm, hx, hel⟩
  · simp at hcs
    exact ⟨none, 0, 0, hcs, [], rfl, by omega, fun _ => rfl, Nat.le_refl _, RowsAt.nil _ _ _⟩
  · simp at hcs
    simp only [if_true] at hmm
    subst hmm
    have hb : l * 80 ≤ 140737488351232 := by
      have h1 := hs _ (by rw [hx]; simp only [DataW.weights, Try.und34]; exact List.mem_cons_self ..)
      rw [Try.bytes29] at h1
      simp [reachBytes] at h1
      omega
    rw [Try.cells29] at hel
    have key : ∀ i, i < l → ∃ it : Cm, W.cells? 0 (ad.add (i * 9)) 9 = some it.cs := by
      intro i hi
      obtain ⟨cs', hc, htr⟩ := hel i (by omega)
      obtain ⟨it, rfl⟩ := cmd_ok htr
      exact ⟨it, hc⟩
    obtain ⟨f, hfm⟩ := Go.Deep.choose_lt key
    refine ⟨some ad, l, m, hcs, (List.range l).map f, by simp, hb, (fun e => by cases e), (by omega), ?_⟩
    intro i it hit
    have hi : i < l := by have := (List.getElem?_eq_some_iff.1 hit).1; simpa using this
    have e : (f i).cs = it := by simpa [hi] using hit
    have hc := hfm i hi
    have hcs := (World.cells?_some hc).2.2
    obtain ⟨b, off, spot⟩ := ad
    have hspot : spot = none := by
      have h00 := (World.cells?_some (hfm 0 (by omega))).2.2 0 (by omega)
      have h00' : (f 0).cs[0]? = some (.int .i64 (f 0).k) := rfl
      rw [h00'] at h00
      have := World.cell?_spot h00
      simpa [Addr.add] using this
    subst hspot
    refine ⟨b, off, rfl, fun k v hv => ?_⟩
    rw [← e] at hv
    have hk : k < 9 := by have := (List.getElem?_eq_some_iff.1 hv).1; exact this
    have h1 := hcs k hk
    rw [hv, Go.Deep.add_add, addr_add] at h1
    rw [show off + i * 9 + k = off + (i * 9 + k) by omega]
    exact h1

end Go.Proofs.Ytfemlnfknebalab
