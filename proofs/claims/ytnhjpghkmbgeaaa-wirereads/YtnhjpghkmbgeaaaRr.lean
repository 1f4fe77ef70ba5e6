import Derived.Test.YtnhjpghkmbgeaaaRj
namespace Go.Proofs.Ytnhjpghkmbgeaaa
open Go.RowKit
set_option linter.unusedVariables false

/-- The reference's reader at block g. -/
structure Rr (w : World) (g : Nat) (ba : Option Addr) (bc : Nat) (bs : List Int) (at_ : Nat) (e p : Int) : Prop where
  cell : w.heap[g]? = some (.cells #[.slice ba bs.length bc, .int .i64 (at_ : Int), .int .i64 e, .int .i64 p] 62 (0, 0))
  sl : Sl w ba bs.length bc bs
  le : at_ ≤ bs.length

theorem Rr.lt {w : World} {g : Nat} {ba : Option Addr} {bc : Nat} {bs : List Int} {at_ : Nat} {e p : Int} (h : Rr w g ba bc bs at_ e p) : g < w.heap.size := (Array.getElem?_eq_some_iff.1 h.cell).1
theorem Rr.kept {S : Nat → Prop} {w w' : World} {g : Nat} {ba : Option Addr} {bc : Nat} {bs : List Int} {at_ : Nat} {e p : Int} (h : Rr w g ba bc bs at_ e p) (hk : Kept S w w') (hg : ¬ S g) (hS : 0 < bs.length → ∀ k, At ba k → ¬ S k) : Rr w' g ba bc bs at_ e p :=
  ⟨(hk.block g h.lt hg).trans h.cell, h.sl.kept2 hk hS, h.le⟩
theorem Rr.no {w w' : World} {g : Nat} {ba : Option Addr} {bc : Nat} {bs : List Int} {at_ : Nat} {e p : Int} (h : Rr w g ba bc bs at_ e p) (hk : Kept No w w') : Rr w' g ba bc bs at_ e p := h.kept hk (fun e => e) (fun _ _ _ e => e)
theorem Rr.ne {w : World} {g : Nat} {ba : Option Addr} {bc : Nat} {bs : List Int} {at_ : Nat} {e p : Int} (h : Rr w g ba bc bs at_ e p) (h0 : 0 < bs.length) {k : Nat} (hk : At ba k) : k ≠ g := by
  rintro rfl
  obtain ⟨b, off, rfl, hc⟩ := h.sl.bytes 0 h0
  obtain ⟨ad, e', e2⟩ := hk
  cases e'
  simp only at e2
  subst e2
  rw [cell_of_row w b (off + 0) _ 62 (0, 0) h.cell] at hc
  match off, hc with
  | 0, hc => simp at hc
  | 1, hc => simp at hc
  | 2, hc => simp at hc
  | 3, hc => simp at hc
  | n + 4, hc => simp at hc

set_option maxHeartbeats 400000 in
theorem fail_any (g : Nat) (ba : Option Addr) (bc : Nat) (bs : List Int) (at_ : Nat) (e p c q : Int) (w : World) (h : Rr w g ba bc bs at_ e p) :
    Calls Try.prog 56 #[.pointer (some ⟨g, 0, none⟩), .int .i64 c, .int .i64 q] w fun e' w' => e' = .returned (.tuple #[]) ∧ Rr w' g ba bc bs at_ c q ∧ Kept (Only g) w w' := by
  have HR : Hid (Rr w g ba bc bs at_ e p) := h
  have c2 : w.cell? ⟨g, 2, none⟩ = some (.int .i64 e) := by rw [cell_of_row w g 2 _ 62 (0, 0) h.cell]; rfl
  have c3 : w.cell? ⟨g, 3, none⟩ = some (.int .i64 p) := by rw [cell_of_row w g 3 _ 62 (0, 0) h.cell]; rfl
  have f2 := frozen_of_row w g 2 _ 62 h.cell
  have f3 := frozen_of_row w g 3 _ 62 h.cell
  clear h
  go_enter Try.func56, Try.ntmps56
  go_wp2
  go_end0
  have hK : Kept (Only g) w ((w.setCell ⟨g, 2, none⟩ (.int .i64 c)).setCell ⟨g, 3, none⟩ (.int .i64 q)) :=
    ((Kept.refl (Only g) w).setCell (p := ⟨g, 2, none⟩) (fun _ => (rfl : g = g)) _).setCell (p := ⟨g, 3, none⟩) (fun _ => (rfl : g = g)) _
  refine ⟨rfl, ⟨?_, HR.out.sl.kept2 hK (fun h0 k hk e => HR.out.ne h0 hk e), HR.out.le⟩, hK⟩
  have h1 := heap_setCell_same w g 2 _ 62 (.int .i64 c) HR.out.cell
  have h2 := heap_setCell_same _ g 3 _ 62 (.int .i64 q) h1
  rw [h2]; rfl

/-- The reference's varint. -/
def rvGo (zs : List Int) (s : Bool) : Nat → Nat → Except Int (Nat × Nat)
  | i, 0 => .error 11
  | i, f + 1 => if zs.length ≤ i then .error 10 else
      if (i = 9 ∧ (1 < byt zs i ∨ s = false)) ∨ (byt zs i = 0 ∧ 0 < i) then .error 11 else
      if byt zs i < 128 then .ok (acc zs (i + 1), i + 1) else rvGo zs s (i + 1) f
def rv (zs : List Int) (s : Bool) : Except Int (Nat × Nat) := rvGo zs s 0 10

theorem rv_step (zs : List Int) (s : Bool) (k : Nat) (h : k < 10) : rvGo zs s k (10 - k) = if zs.length ≤ k then .error 10 else
      if (k = 9 ∧ (1 < byt zs k ∨ s = false)) ∨ (byt zs k = 0 ∧ 0 < k) then .error 11 else
      if byt zs k < 128 then .ok (acc zs (k + 1), k + 1) else rvGo zs s (k + 1) (10 - (k + 1)) := by
  rw [show 10 - k = (10 - (k + 1)) + 1 from by omega, rvGo]

theorem rv_true (zs : List Int) : rv zs true = vr zs := by
  suffices H : ∀ f i, i + f = 10 → rvGo zs true i f = vrGo zs i f from H 10 0 rfl
  intro f
  induction f with
  | zero => intro i _; rfl
  | succ f ih =>
    intro i hi
    rw [rvGo, vrGo, ih (i + 1) (by omega)]
    by_cases h1 : zs.length ≤ i
    · rw [if_pos h1, if_pos h1]
    · rw [if_neg h1, if_neg h1]
      by_cases h2 : byt zs i < 128
      · rw [if_pos h2, if_pos h2]
        by_cases h3 : (0 < i ∧ byt zs i = 0) ∨ (i = 9 ∧ 1 < byt zs i)
        · rw [if_pos h3, if_pos (by simp; omega)]
        · rw [if_neg h3, if_neg (by simp; omega)]
      · rw [if_neg h2, if_neg h2]
        by_cases h9 : i = 9
        · subst h9
          have : f = 0 := by omega
          subst this
          rw [if_pos (by simp; omega)]
          rfl
        · rw [if_neg (by simp; omega)]

theorem rv_false (zs : List Int) : rv zs false = nr zs := by
  suffices H : ∀ f i, i + f = 10 → rvGo zs false i f = (match vrGo zs i f with
      | .error c => .error c
      | .ok (u, k) => if 9223372036854775807 < u then .error 11 else .ok (u, k)) from H 10 0 rfl
  intro f
  induction f with
  | zero => intro i _; rfl
  | succ f ih =>
    intro i hi
    rw [rvGo, vrGo, ih (i + 1) (by omega)]
    by_cases h1 : zs.length ≤ i
    · rw [if_pos h1, if_pos h1]
    · rw [if_neg h1, if_neg h1]
      have ha := acc_lt zs i
      by_cases h9 : i = 9
      · subst h9
        have : f = 0 := by omega
        subst this
        rw [if_pos (by simp)]
        by_cases h2 : byt zs 9 < 128
        · rw [if_pos h2]
          by_cases h3 : (0 < 9 ∧ byt zs 9 = 0) ∨ (9 = 9 ∧ 1 < byt zs 9)
          · rw [if_pos h3]
          · rw [if_neg h3]
            have hb : byt zs 9 = 1 := by omega
            simp only
            rw [acc, hb, if_pos (by omega)]
        · rw [if_neg h2]; rfl
      · by_cases h2 : byt zs i < 128
        · rw [if_pos h2, if_pos h2]
          by_cases h3 : (0 < i ∧ byt zs i = 0) ∨ (i = 9 ∧ 1 < byt zs i)
          · rw [if_pos h3, if_pos (by omega)]
          · rw [if_neg h3, if_neg (by omega)]
            simp only
            have h8 : 128 ^ (i + 1) ≤ 128 ^ 9 := Nat.pow_le_pow_right (by decide) (by omega)
            have := acc_lt zs (i + 1)
            rw [if_neg (by omega)]
        · rw [if_neg h2, if_neg h2, if_neg (by omega)]

end Go.Proofs.Ytnhjpghkmbgeaaa
