import Derived.Test.YtapjnanenfcdjaaQ
namespace Go.Proofs.Ytapjnanenfcdjaa
open Go.RowKit

theorem sA {α : Type} (l : List α) (i : Nat) (x : α) : l.toArray.setIfInBounds i x = (l.set i x).toArray := by simp
theorem s0 {α : Type} (l : List α) (a x : α) : (a :: l).set 0 x = x :: l := rfl
theorem s1 {α : Type} (l : List α) (a x : α) (n : Nat) : (a :: l).set (n + 1) x = a :: l.set n x := rfl

end Go.Proofs.Ytapjnanenfcdjaa
