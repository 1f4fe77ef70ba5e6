import Derived.Test.YtcgnbpaaalmkoaaY
namespace Go.Proofs.Ytcgnbpaaalmkoaa
open Go.RowKit
set_option linter.unusedVariables false
set_option linter.unusedSimpArgs false

/-- The reference's edge: how far the row goes on without a gap. -/
def refN (u : Int) (ps : List Pl) (k : Nat) : Prop := k ≤ ps.length ∧ ∀ j, j < k → (pAt ps j).n = u + j + 1 ∧ (pAt ps j).i.d = true
end Go.Proofs.Ytcgnbpaaalmkoaa
