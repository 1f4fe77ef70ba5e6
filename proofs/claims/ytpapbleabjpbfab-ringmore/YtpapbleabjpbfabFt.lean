import Derived.Test.YtpapbleabjpbfabSs
import Derived.Laws.FloatBits
namespace Go.Proofs.Ytpapbleabjpbfab
open Go.RowKit
set_option linter.unusedVariables false

section
open Ieee
theorem fl_nearest (f : Format) (neg : Bool) (mag : Nat) (place : Int) : ∃ s rung, rung ≤ f.infRung ∧ f.nearest neg mag place = f.word s rung := by
  unfold Format.nearest
  split
  · exact ⟨neg, 0, Nat.zero_le _, rfl⟩
  · exact ⟨neg, _, Nat.min_le_right _ _, rfl⟩
theorem fl_write (f : Format) (d : Datum) (h : d.isNaN = false) : ∃ s rung, rung ≤ f.infRung ∧ f.write d = f.word s rung := by
  cases d with
  | number n m p => exact fl_nearest f n m p
  | infinity n => exact ⟨n, _, Nat.le_refl _, rfl⟩
  | nan n t => simp [Datum.isNaN] at h
theorem fl_read (f : Format) (s : Bool) (rung : Nat) (h : rung ≤ f.infRung) : (f.read (f.word s rung)).isNaN = false := by
  have hlt := f.infRung_lt
  have hm : f.word s rung % f.signWeight = rung := by
    unfold Format.word
    cases s
    · simp; exact Nat.mod_eq_of_lt (by omega)
    · simp; exact Nat.mod_eq_of_lt (by omega)
  unfold Format.read
  simp only [hm]
  split
  · rfl
  · split
    · rfl
    · split
      · rfl
      · omega
theorem fl_quotient (digits : Nat) (d : Datum) (s : Bool) (m : Nat) (i : Int) (hd : d.isNaN = false) (hm : m ≠ 0) : ∃ q, d.quotient digits (.number s m i) = some q ∧ q.isNaN = false := by
  cases d with
  | number n k p =>
    cases hq : Datum.quotient digits (.number n k p) (.number s m i) with
    | none =>
      unfold Datum.quotient at hq
      simp [hm] at hq
    | some q =>
      refine ⟨q, rfl, ?_⟩
      unfold Datum.quotient at hq
      simp only [if_neg hm, Option.some.injEq] at hq
      rw [← hq]; rfl
  | infinity n => exact ⟨_, rfl, rfl⟩
  | nan n t => simp [Datum.isNaN] at hd
theorem fl_order (d : Datum) (h : d.isNaN = false) : d.order d = some .eq := by
  cases d with
  | number n m p => simp [Datum.order]
  | infinity n => simp [Datum.order]
  | nan n t => simp [Datum.isNaN] at h

theorem circle_read : ∃ s m i, FloatKind.f64.format.read 4751297606875873280 = .number s m i ∧ m ≠ 0 := ⟨false, 4503599627370496, -20, by decide +kernel, by decide⟩

/-- A share is a number. -/
theorem shareF_some (n : Int) : ∃ b, shareF n = some b ∧ FloatKind.f64.format.order b b = some .eq := by
  obtain ⟨s, m, i, hr, hm⟩ := circle_read
  obtain ⟨s0, r0, h0, e0⟩ := fl_nearest FloatKind.f64.format (n < 0) n.natAbs 0
  have hx : (FloatKind.f64.format.read (floatOfInt .f64 n)).isNaN = false := by
    show (FloatKind.f64.format.read (FloatKind.f64.format.nearest (n < 0) n.natAbs 0)).isNaN = false
    rw [e0]
    exact fl_read _ _ _ h0
  obtain ⟨q, hq, hn⟩ := fl_quotient (FloatKind.f64.format.fractionBits + 2) _ s m i hx hm
  refine ⟨FloatKind.f64.format.write q, ?_, ?_⟩
  · show ((FloatKind.f64.format.read (floatOfInt .f64 n)).quotient (FloatKind.f64.format.fractionBits + 2) (FloatKind.f64.format.read 4751297606875873280)).map FloatKind.f64.format.write = _
    rw [hr, hq]; rfl
  · obtain ⟨s1, r1, h1, e1⟩ := fl_write FloatKind.f64.format q hn
    show (FloatKind.f64.format.read _).order (FloatKind.f64.format.read _) = _
    rw [e1]
    exact fl_order _ (fl_read _ _ _ h1)

theorem float_same (b : Nat) (h : FloatKind.f64.format.order b b = some .eq) (w : World) : Sem.run Try.prog (binOp .neq 42 (.float .f64 b) (.float .f64 b)) w = .ok (.bool false) w := by
  have : binOp .neq 42 (.float .f64 b) (.float .f64 b) = (pure (.bool (FloatKind.f64.format.order b b != some .eq)) : Sem Value) := by simp [binOp, Op.floatCmp]
  rw [this, h]; rfl
end

end Go.Proofs.Ytpapbleabjpbfab
