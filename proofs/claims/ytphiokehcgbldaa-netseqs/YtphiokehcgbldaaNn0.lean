import Derived.Test.YtphiokehcgbldaaNm
import Derived.Shelf.SlSortCmp.InsertionK
namespace Go.Proofs.Ytphiokehcgbldaa
open Go.RowKit Go.Sort Go.Shelf Go.Lib
set_option linter.unusedVariables false
set_option linter.unusedSimpArgs false

set_option maxRecDepth 100000 in
set_option maxHeartbeats 8000000 in
theorem isNaN_any (a : Int) (w : World) : Calls Try.prog 48 #[.int .i64 a] w (fun e w' => e = .returned (.bool false) ∧ w' = w) := by
  go_enter Try.func48, Try.ntmps48
  go_wp2
  go_ret
  exact ⟨rfl, rfl⟩
set_option maxRecDepth 100000 in
set_option maxHeartbeats 8000000 in
theorem compare_any (a b : Int) (w : World) : Calls Try.prog 45 #[.int .i64 a, .int .i64 b] w (fun e w' => e = .returned (.int .i64 (Lib.compareInt a b)) ∧ w' = w) := by
  by_cases h1 : a < b
  · go_enter Try.func45, Try.ntmps45
    go_wp2_with (go_at_call 48; refine (isNaN_any _ _).mono ?_; rintro e w' ⟨rfl, rfl⟩)
    go_ret
    exact ⟨by simp [Lib.compareInt, h1], rfl⟩
  · by_cases h2 : b < a
    · have h2' : a > b := h2
      go_enter Try.func45, Try.ntmps45
      go_wp2_with (go_at_call 48; refine (isNaN_any _ _).mono ?_; rintro e w' ⟨rfl, rfl⟩)
      go_ret
      exact ⟨by simp [Lib.compareInt, h1, h2], rfl⟩
    · have h2' : ¬ a > b := h2
      go_enter Try.func45, Try.ntmps45
      go_wp2_with (go_at_call 48; refine (isNaN_any _ _).mono ?_; rintro e w' ⟨rfl, rfl⟩)
      go_ret
      exact ⟨by unfold Lib.compareInt; rw [if_neg (by omega), if_neg (by omega)]; rfl, rfl⟩
def cfP (x y : Pq) : Int := Lib.compareInt x.pl y.pl
set_option maxRecDepth 100000 in
set_option maxHeartbeats 8000000 in
theorem closure44 (L : List Pq) (P : Nm → Nat × Nat × Nat) (x y : Pq) (W : World) : Calls Try.prog 44 #[.agg (stC L P x).toArray, .agg (stC L P y).toArray] W (fun e w' => e = .returned (.int .i64 (cfP x y)) ∧ ∃ q os', w' = grow (W.drewN q) os') := by
  simp only [stC, plV]
  have hcon := fun W' => compare_any (x.pl : Int) (y.pl : Int) W'
  have hcf : cfP x y = Lib.compareInt x.pl y.pl := rfl
  rw [hcf]
  generalize Lib.compareInt x.pl y.pl = r at hcon ⊢
  clear hcf
  go_enter Try.func44, Try.ntmps44
  go_wp2_with (go_at_call 45; refine (hcon _).mono ?_; rintro e w' ⟨rfl, rfl⟩)
  go_ret
  exact ⟨rfl, 0, _, by rw [alloc_eq_grow, alloc_eq_grow, grow_grow]; rfl⟩
end Go.Proofs.Ytphiokehcgbldaa
