import Derived.Test.YtgdnofacgfjaeabGreatL
namespace Go.Proofs.YtgdnofacgfjaeabGreat
open Go.RowKit
set_option linter.unusedVariables false

theorem lent_take (zs : List Int) : (lent zs 5).take zs.length = zs := by simp [lent]
theorem lent_mark (zs : List Int) (j : Nat) (h : j < 5) : (lent zs 5)[zs.length + j]?.getD 0 = 169 := by
  rw [lent, List.getElem?_append_right (by omega), List.getElem?_append_left (by simp; omega), List.getElem?_replicate, if_pos (by omega)]
  rfl

theorem Kept.no_drewN (w : World) (n : Nat) : Kept No w (w.drewN n) := (Kept.refl No w).drewN n

end Go.Proofs.YtgdnofacgfjaeabGreat
