import Derived.Test.YtnhjpghkmbgeaaaRz
namespace Go.Proofs.Ytnhjpghkmbgeaaa
open Go.RowKit
set_option linter.unusedVariables false

theorem ref_all (g : Nat) (ba : Option Addr) (bc : Nat) (bs : List Int) (st : RS) (k : Int) (w : World) (h : Rf w g ba bc bs st) (hk : 1 ≤ k ∧ k ≤ 4) :
    Calls Try.prog 35 #[.pointer (some ⟨g, 0, none⟩), .int .i64 k] w (RefPost w g ba bc bs st k) := by
  cases st with
  | bad p c => exact ref_bad g ba bc bs p c k w h
  | ok zs at_ =>
    by_cases h1 : k = 1
    · subst h1; exact ref_1 g ba bc bs zs at_ w h
    by_cases h2 : k = 2
    · subst h2; exact ref_2 g ba bc bs zs at_ w h
    exact ref_3 g ba bc bs zs at_ k w (by simpa using h1) (by simpa using h2) h

set_option maxRecDepth 100000 in
set_option maxHeartbeats 1000000 in
theorem rmore_all (g : Nat) (ba : Option Addr) (bc : Nat) (bs : List Int) (st : RS) (w : World) (h : Rf w g ba bc bs st) :
    Calls Try.prog 39 #[.pointer (some ⟨g, 0, none⟩)] w fun e w' => e = .returned (.bool (moreS st)) ∧ ∃ n, w' = w.drewN n := by
  cases st with
  | bad p c =>
    obtain ⟨h0, at_, hr⟩ := h
    have q0 : (c == 0) = false := by simpa using h0
    have c2 : w.cell? ⟨g, 2, none⟩ = some (.int .i64 c) := by rw [cell_of_row w g 2 _ 62 (0, 0) hr.cell]; rfl
    clear h0 hr
    go_enter Try.func39, Try.ntmps39
    go_wp2
    go_quiet (fail)
    go_wp2
    go_ret
    exact ⟨rfl, _, rfl⟩
  | ok zs at_ =>
    have HM : Hid (moreS (.ok zs at_) = decide (at_ < bs.length)) := by
      rw [Hid, moreS, h.2, List.length_drop, decide_eq_decide]; omega
    have c0 : w.cell? ⟨g, 0, none⟩ = some (.slice ba bs.length bc) := by rw [cell_of_row w g 0 _ 62 (0, 0) h.1.cell]; rfl
    have c1 : w.cell? ⟨g, 1, none⟩ = some (.int .i64 (at_ : Int)) := by rw [cell_of_row w g 1 _ 62 (0, 0) h.1.cell]; rfl
    have c2 : w.cell? ⟨g, 2, none⟩ = some (.int .i64 0) := by rw [cell_of_row w g 2 _ 62 (0, 0) h.1.cell]; rfl
    clear h
    go_enter Try.func39, Try.ntmps39
    go_wp2
    go_quiet (fail)
    go_wp2
    go_ret
    exact ⟨ret_bool HM.out.symm, _, rfl⟩

set_option maxRecDepth 100000 in
set_option maxHeartbeats 1000000 in
theorem rend_all (g : Nat) (ba : Option Addr) (bc : Nat) (bs : List Int) (st : RS) (w : World) (h : Rf w g ba bc bs st) :
    Calls Try.prog 40 #[.pointer (some ⟨g, 0, none⟩)] w fun e w' => e = .returned (.tuple #[]) ∧ Rf w' g ba bc bs (endS st) ∧ Kept (Only g) w w' := by
  have HF : Hid (Rf w g ba bc bs st) := h
  by_cases hm : moreS st = true
  · cases st with
    | bad p c => simp [moreS] at hm
    | ok zs at_ =>
      have HR : Hid (Rr w g ba bc bs at_ 0 0) := h.1
      have HE : Hid (endS (.ok zs at_) = .bad at_ 11) := by
        have : zs ≠ [] := by rintro rfl; simp [moreS] at hm
        simp only [Hid, endS, this, if_false]
      have HM : Hid (moreS (.ok zs at_) = true) := hm
      clear h hm
      go_enter Try.func40, Try.ntmps40
      go_wp2_with fail
      refine (rmore_all g ba bc bs (.ok zs at_) w HF.out).mono ?_
      rintro e w1 ⟨rfl, n, hw⟩
      rw [HM.out]
      have hr1 : Rr w1 g ba bc bs at_ 0 0 := by rw [hw]; exact HR.out.no ((Kept.refl _ _).drewN n)
      have HR1 : Hid _ := hr1
      have HK1 : Hid (Kept No w w1) := by rw [hw]; exact (Kept.refl _ _).drewN n
      have c1 : w1.cell? ⟨g, 1, none⟩ = some (.int .i64 (at_ : Int)) := by rw [cell_of_row w1 g 1 _ 62 (0, 0) hr1.cell]; rfl
      clear hw hr1
      go_wp2_with fail
      refine (fail_any g ba bc bs at_ 0 0 11 at_ w1 HR1.out).mono ?_
      rintro e' w2 ⟨rfl, hr, hk⟩
      have HP : Hid (Rf w2 g ba bc bs (endS (.ok zs at_)) ∧ Kept (Only g) w w2) := by
        rw [HE.out]
        exact ⟨⟨by omega, at_, hr⟩, HK1.out.of_no.then hk⟩
      clear hr hk
      go_wp2
      go_end0
      exact ⟨rfl, HP.out⟩
  · have HE : Hid (endS st = st) := by
      cases st with
      | bad p c => rfl
      | ok zs at_ =>
        have : zs = [] := by
          cases zs with
          | nil => rfl
          | cons z r => simp [moreS] at hm
        simp only [Hid, endS, this, if_true]
    have HM : Hid (moreS st = false) := by simpa [Hid] using hm
    clear h hm
    go_enter Try.func40, Try.ntmps40
    go_wp2_with fail
    refine (rmore_all g ba bc bs st w HF.out).mono ?_
    rintro e w1 ⟨rfl, n, hw⟩
    rw [HM.out]
    have HP : Hid (Rf w1 g ba bc bs (endS st) ∧ Kept (Only g) w w1) := by
      rw [HE.out, hw]
      exact ⟨HF.out.no ((Kept.refl _ _).drewN n), (Kept.refl _ _).drewN n⟩
    clear hw
    go_wp2
    go_end0
    exact ⟨rfl, HP.out⟩

end Go.Proofs.Ytnhjpghkmbgeaaa
