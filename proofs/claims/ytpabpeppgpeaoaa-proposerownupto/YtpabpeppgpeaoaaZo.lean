import Derived.Test.YtpabpeppgpeaoaaZn
namespace Go.Proofs.Ytpabpeppgpeaoaa
open Go.RowKit Gt
set_option linter.unusedVariables false
set_option linter.unusedSimpArgs false

theorem zero23' : (Try.prog.info? 23).bind (·.zero) = some (.agg kyZ.cells) := by kernel_rfl
theorem store_K {w : World} {g : Nat} {y : Ky} {cur : Array Value} (hb : Box w g 23 cur) (hl : cur.size = 4) : (storeVar 23 ⟨g, 0, none⟩ (.agg y.cells)).run Try.prog w = .ok () (w.setRow g y.cells) :=
  run_storeVar_row w g 23 23 cur y.cells hb Try.size23 (by rw [hl]; rfl) (by simp [Ky.cells, Ky.cs, Value.oneCell'])
theorem slice1_i (z : Int) (w : World) : (Instr.buildSlice 24 1 #[(0, .int .i64 z)]).run Try.prog w = .ok (.slice (some ⟨w.heap.size, 0, none⟩) 1 1) (w.alloc (.cells #[.int .i64 z] 3)) := by kernel_rfl
/-- Messages that were told. -/
def Told (w : World) (base : Nat) (a : Option Addr) (c : Nat) (l : List Ms) : Prop := Own 47 30 w base a c l.length (msL l)
theorem Told.box {w : World} {base : Nat} {a : Option Addr} {c : Nat} {l : List Ms} (h : Told w base a c l) {k : Nat} (hk : At a k) : ∃ cs, Box w k 47 cs := by
  rcases Own.cases h (msL_len l) with ⟨rfl, _⟩ | ⟨g', rfl, _, _, sp, hh, _⟩
  · exact absurd hk At.none
  · obtain ⟨ad, e, rfl⟩ := hk
    cases e
    exact ⟨_, hh⟩
theorem Told.keptI {w w' : World} {base : Nat} {a : Option Addr} {c : Nat} {l : List Ms} {I : Nat → Prop} (h : Told w base a c l) (hk : Kept I w w') (hI : ∀ k, I k → NotM w k) : Told w' base a c l :=
  Own.kept h hk (fun k e f => by obtain ⟨cs, hb⟩ := h.box e; exact hI k f cs hb)
theorem Told.no {w w' : World} {base : Nat} {a : Option Addr} {c : Nat} {l : List Ms} (h : Told w base a c l) (hk : Kept No w w') : Told w' base a c l := Own.no h hk
theorem msL_at : ∀ (l : List Ms) (i j : Nat) (y : Ms) (u : Value), l[i]? = some y → y.cs[j]? = some u → (msL l)[i * 30 + j]? = some u
  | [], i, j, y, u, h, _ => by simp at h
  | z :: l, 0, j, y, u, h, hu => by
    simp at h
    subst h
    have hj := (List.getElem?_eq_some_iff.1 hu).1
    simp only [msL, List.flatMap_cons, Nat.zero_mul, Nat.zero_add]
    rw [List.getElem?_append_left hj]
    exact hu
  | z :: l, i + 1, j, y, u, h, hu => by
    have := msL_at l i j y u (by simpa using h) hu
    have e : (i + 1) * 30 + j = 30 + (i * 30 + j) := by omega
    simp only [msL, List.flatMap_cons]
    rw [e, List.getElem?_append_right (by rw [Ms.len]; omega), Ms.len, Nat.add_sub_cancel_left]
    exact this
theorem Told.row {w : World} {base : Nat} {a : Option Addr} {c : Nat} {l : List Ms} (h : Told w base a c l) (h0 : 0 < l.length) : ∃ g, a = some ⟨g, 0, none⟩ ∧ base ≤ g ∧ ∀ (i : Nat) y, l[i]? = some y → ∀ (j : Nat) u, y.cs[j]? = some u → w.cell? ⟨g, i * 30 + j, none⟩ = some u := by
  rcases Own.cases h (msL_len l) with ⟨_, _, e⟩ | ⟨g', rfl, hb, _, sp, hh, _⟩
  · omega
  · refine ⟨g', rfl, hb, fun i y hy j u hu => ?_⟩
    rw [cell_of_row w g' _ _ 47 (0, 0) hh]
    have := msL_at l i j y u hy hu
    have hl := (List.getElem?_eq_some_iff.1 this).1
    rw [List.getElem?_toArray, List.getElem?_append_left hl]
    exact this
theorem load_row {w : World} {g o : Nat} {t : TypeId} {d : TypeDesc} {sub : List Value} (hc : ∀ (j : Nat) u, sub[j]? = some u → w.cell? ⟨g, o + j, none⟩ = some u)
    (hu : Try.prog.underlying t = some d) (hd : (match d with | .struct _ | .array _ _ => true | _ => false) = true) (hi : (Try.prog.info? t).map (·.size) = some sub.length) :
    (loadVar t ⟨g, o, none⟩).run Try.prog w = .ok (.agg sub.toArray) w :=
  load_at (n := 0) (i := 0) (off := o) (b := g) (it := sub) (fun j v hv => by simpa using hc j v hv) hu hd hi
def nMsg (k : Int) (fi ti op rd : Int) (ky : Ky) (n c : Int) : Ms := ⟨k, false, fi, true, ti, op, rd, ky, ⟨n, c⟩, sZ, slZ, cZ, 0, slZ, slZ, slZ, false⟩
theorem take_N {w : World} {I : Nat → Prop} {p : Nat} {s : PS} (h : Prp w I p s) (k fi ti op rd : Int) (ky : Ky) (n c : Int) :
    Calls Try.prog 28 #[.pointer (some ⟨p, 0, none⟩), .agg (nMsg k fi ti op rd ky n c).cells] w (PrOut w I p (taksS s (nMsg k fi ti op rd ky n c) [] []).1 (taksS s (nMsg k fi ti op rd ky n c) [] []).2) :=
  take_P h _ [] [] (by show 0 * 40 ≤ 140737488355328; decide) (by show 0 * 56 ≤ 140737488355328; decide) ⟨RowsAt.nil _ _ _, rfl, fun _ => rfl⟩ ⟨RowsAt.nil _ _ _, rfl, fun _ => rfl⟩
def kK : Ky := ⟨3, 2, 5, 0⟩
def kX : Cm := ⟨4, 7, 4, ⟨#[]⟩, 0, 0, 0, 0, 0⟩
def k0 : PS := newS 7 4 kK [3] kX 2 10
def k1 : PS := (begS k0).1
def k2 : PS := (taksS k1 (nMsg 13 3 7 4 10 kK 2 7) [] []).1
def k3 : PS := (taksS k2 (nMsg 15 3 7 4 11 kK 2 7) [] []).1
theorem kl1 : ∃ m : Ms, (begS k0).2 = [m] ∧ m.k = 3 := ⟨_, rfl, rfl⟩
theorem kl2 : ∃ m : Ms, (taksS k1 (nMsg 13 3 7 4 10 kK 2 7) [] []).2 = [m] ∧ m.k = 4 ∧ m.c = kX := ⟨_, rfl, rfl, rfl⟩
theorem kl3 : ∃ m : Ms, (taksS k2 (nMsg 15 3 7 4 11 kK 2 7) [] []).2 = [m] ∧ m.k = 5 := ⟨_, rfl, rfl⟩
end Go.Proofs.Ytpabpeppgpeaoaa
