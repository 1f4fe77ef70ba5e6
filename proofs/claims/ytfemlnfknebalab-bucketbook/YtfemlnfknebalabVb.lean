import Derived.Test.YtfemlnfknebalabVa
namespace Go.Proofs.Ytfemlnfknebalab
open Go.RowKit
set_option linter.unusedVariables false
set_option linter.unusedSimpArgs false

theorem act_ll (es : List En) (c : Cm) (room : Int) : (actS es c room).2.l.length ≤ es.length := by
  unfold actS creS
  repeat' split
  all_goals first | exact Nat.le_refl _ | exact Nat.zero_le _ | skip
  unfold chgS
  split <;> exact Nat.zero_le _
end Go.Proofs.Ytfemlnfknebalab
