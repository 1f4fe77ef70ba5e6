import Derived.Test.YtmhjbkpojndhkabTi
namespace Go.Proofs.Ytmhjbkpojndhkab
open Go.RowKit
set_option linter.unusedVariables false
set_option linter.unusedSimpArgs false

/-- The place of the best of the first k + 1, gone through from the left. -/
def bi (lt : Nat → Nat → Bool) : Nat → Nat
  | 0 => 0
  | k + 1 => if lt (bi lt k) (k + 1) then k + 1 else bi lt k
theorem bi_le (lt : Nat → Nat → Bool) : ∀ k, bi lt k ≤ k
  | 0 => Nat.le_refl _
  | k + 1 => by
    have := bi_le lt k
    unfold bi
    split <;> omega
theorem bi_yes {lt : Nat → Nat → Bool} {k : Nat} (h : lt (bi lt k) (k + 1) = true) : bi lt (k + 1) = k + 1 := if_pos h
theorem bi_no {lt : Nat → Nat → Bool} {k : Nat} (h : lt (bi lt k) (k + 1) = false) : bi lt (k + 1) = bi lt k := by
  show (if lt (bi lt k) (k + 1) then k + 1 else bi lt k) = _
  rw [h]; rfl


end Go.Proofs.Ytmhjbkpojndhkab
