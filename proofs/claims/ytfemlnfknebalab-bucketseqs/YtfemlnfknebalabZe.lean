import Derived.Test.YtfemlnfknebalabZd
namespace Go.Proofs.Ytfemlnfknebalab
open Go.RowKit
set_option linter.unusedVariables false
set_option linter.unusedSimpArgs false
theorem rd_nil (w : World) : RdE w ⟨none, 0, 0⟩ [] := ⟨RowsAt.nil _ _ _, rfl, fun _ => rfl⟩
theorem rd_one {w : World} {g : Nat} {e : En} (h : Box w g 34 e.cells) : RdE w ⟨some ⟨g, 0, none⟩, 1, 1⟩ [e] := by
  refine ⟨fun i it hit => ?_, rfl, fun e => by cases e⟩
  cases i with
  | succ i => simp at hit
  | zero =>
    have e1 : e.cs = it := by simpa using hit
    subst e1
    refine ⟨g, 0, rfl, fun j v hv => ?_⟩
    rw [Nat.zero_mul, Nat.zero_add, h.cell]
    show e.cs.toArray[j]? = _
    rw [List.getElem?_toArray]
    exact hv
theorem set_same (es : List En) (k : Nat) : es.set k (eAt es k) = es := by
  by_cases h : k < es.length
  · have h1 := eAt_some h
    rw [List.getElem?_eq_getElem h] at h1
    rw [← Option.some.inj h1, List.set_getElem_self]
  · rw [List.set_eq_of_length_le (by omega)]
theorem mul40 {t : Nat} (h : t ≤ 3518437208883) : t * 40 ≤ 140737488355328 := by omega
end Go.Proofs.Ytfemlnfknebalab
