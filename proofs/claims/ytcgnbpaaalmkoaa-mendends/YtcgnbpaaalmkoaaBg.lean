import Derived.Test.YtcgnbpaaalmkoaaBf
namespace Go.Proofs.Ytcgnbpaaalmkoaa
open Go.RowKit
set_option linter.unusedVariables false
set_option linter.unusedSimpArgs false

theorem Box.ne {w : World} {g g' : Nat} {t t' : TypeId} {cs cs' : Array Value} (h : Box w g t cs) (h' : Box w g' t' cs') (ht : t ≠ t') : g ≠ g' := by
  intro e
  subst e
  unfold Box at h h'
  rw [h] at h'
  exact ht (by injection (Option.some.inj h'))
end Go.Proofs.Ytcgnbpaaalmkoaa
