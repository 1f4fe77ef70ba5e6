import Derived.Test.YtgnfeegnhdbnkaaK
import Derived.WalkSpells
namespace Go.Proofs.Ytgnfeegnhdbnkaa
open Go.RowKit
set_option linter.unusedVariables false
set_option linter.unusedSimpArgs false

def isB (r : Int) : Bool := r == 32 || r == 9
theorem isBlank_any (r : Int) (w : World) : Calls Try.prog 22 #[.int .i32 r] w fun e w' => e = .returned (.bool (isB r)) ∧ w' = w := by
  by_cases h0 : r = 32
  · subst h0
    go_enter Try.func22, Try.ntmps22
    go_wp2
    go_ret
    exact ⟨rfl, rfl⟩
  by_cases h1 : r = 9
  · subst h1
    go_enter Try.func22, Try.ntmps22
    go_wp2
    go_ret
    exact ⟨rfl, rfl⟩
  · have t0 : (r == 32) = false := by simpa using h0
    have t1 : (r == 9) = false := by simpa using h1
    have HE : Hid (isB r = false) := by show isB r = false; unfold isB; rw [t0, t1]; rfl
    clear h0 h1
    go_enter Try.func22, Try.ntmps22
    go_wp2
    go_ret
    exact ⟨ret_bool HE.out.symm, rfl⟩

def hexD (r : Int) : Option Int := if 48 ≤ r ∧ r ≤ 57 then some (r - 48) else if 97 ≤ r ∧ r ≤ 102 then some (r - 87) else none
theorem ret_u8b {x y : Int} {a b : Bool} (h : x = y) (k : a = b) : Ending.returned (.tuple #[.int .u8 x, .bool a]) = .returned (.tuple #[.int .u8 y, .bool b]) := by rw [h, k]
theorem digitOf_any (r : Int) (hr : 0 ≤ r ∧ r ≤ 2147483647) (w : World) : Calls Try.prog 23 #[.int .i32 r] w fun e w' => e = .returned (.tuple #[.int .u8 ((hexD r).getD 0), .bool (hexD r).isSome]) ∧ w' = w := by
  obtain ⟨hr0, hr1⟩ := hr
  by_cases h0 : 48 ≤ r ∧ r ≤ 57
  · have HE : Hid (hexD r = some (r - 48)) := by show _ = _; unfold hexD; rw [if_pos h0]
    obtain ⟨h1, h2⟩ := h0
    rw [HE.out]
    go_enter Try.func23, Try.ntmps23
    go_wp2
    go_ret2
    exact ⟨ret_u8b (by first | omega | simp | (simp; omega)) rfl, rfl⟩
  by_cases h1 : 97 ≤ r ∧ r ≤ 102
  · have HE : Hid (hexD r = some (r - 87)) := by show _ = _; unfold hexD; rw [if_neg h0, if_pos h1]
    obtain ⟨h2, h3⟩ := h1
    have h4 : ¬ r ≤ 57 := by omega
    clear h0
    rw [HE.out]
    go_enter Try.func23, Try.ntmps23
    go_wp2
    go_ret2
    exact ⟨ret_u8b (by first | omega | simp | (simp; omega)) rfl, rfl⟩
  · have HE : Hid (hexD r = none) := by show _ = _; unfold hexD; rw [if_neg h0, if_neg h1]
    rw [HE.out]
    go_enter Try.func23, Try.ntmps23
    by_cases h2 : 48 ≤ r
    · have h3 : ¬ r ≤ 57 := by omega
      by_cases h4 : 97 ≤ r
      · have h5 : ¬ r ≤ 102 := by omega
        clear h0 h1
        go_wp2
        go_ret2
        exact ⟨rfl, rfl⟩
      · clear h0 h1
        go_wp2
        go_ret2
        exact ⟨rfl, rfl⟩
    · have h4 : ¬ 97 ≤ r := by omega
      clear h0 h1
      go_wp2
      go_ret2
      exact ⟨rfl, rfl⟩

def hexI (r : Int) : Int := (hexD r).getD (-1)
theorem hex_any (r : Int) (hr : 0 ≤ r ∧ r ≤ 255) (w : World) : Calls Try.prog 25 #[.int .u8 r] w fun e w' => e = .returned (.int .i64 (hexI r)) ∧ w' = w := by
  obtain ⟨hr0, hr1⟩ := hr
  by_cases h0 : 48 ≤ r ∧ r ≤ 57
  · have HE : Hid (hexI r = r - 48) := by show _ = _; unfold hexI hexD; rw [if_pos h0]; rfl
    obtain ⟨h1, h2⟩ := h0
    rw [HE.out]
    go_enter Try.func25, Try.ntmps25
    go_wp2
    go_ret
    exact ⟨ret_int (by first | omega | simp | (simp; omega)), rfl⟩
  by_cases h1 : 97 ≤ r ∧ r ≤ 102
  · have HE : Hid (hexI r = r - 87) := by show _ = _; unfold hexI hexD; rw [if_neg h0, if_pos h1]; rfl
    obtain ⟨h2, h3⟩ := h1
    have h4 : ¬ r ≤ 57 := by omega
    clear h0
    rw [HE.out]
    go_enter Try.func25, Try.ntmps25
    go_wp2
    go_ret
    exact ⟨ret_int (by first | omega | simp | (simp; omega)), rfl⟩
  · have HE : Hid (hexI r = -1) := by show _ = _; unfold hexI hexD; rw [if_neg h0, if_neg h1]; rfl
    rw [HE.out]
    go_enter Try.func25, Try.ntmps25
    by_cases h2 : 48 ≤ r
    · have h3 : ¬ r ≤ 57 := by omega
      by_cases h4 : 97 ≤ r
      · have h5 : ¬ r ≤ 102 := by omega
        clear h0 h1
        go_wp2
        go_ret
        exact ⟨rfl, rfl⟩
      · clear h0 h1
        go_wp2
        go_ret
        exact ⟨rfl, rfl⟩
    · have h4 : ¬ 97 ≤ r := by omega
      clear h0 h1
      go_wp2
      go_ret
      exact ⟨rfl, rfl⟩
end Go.Proofs.Ytgnfeegnhdbnkaa
