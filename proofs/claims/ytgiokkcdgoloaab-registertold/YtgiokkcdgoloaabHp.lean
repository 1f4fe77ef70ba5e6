import Derived.Test.YtgiokkcdgoloaabHn
namespace Go.Proofs.Ytgiokkcdgoloaab
open Go.RowKit
set_option linter.unusedVariables false
set_option linter.unusedSimpArgs false

theorem Try.und24 : Try.prog.underlying 24 = some (.slice 22) := by kernel_rfl
theorem Try.info22' : (Try.prog.info? 22).map (fun i => (i.zero, i.size, i.bytes)) = some (some (.slice none 0 0), 1, 24) := by kernel_rfl
theorem msgsC_at (x : MS) (h : Qh) : ∀ (qs : List Qm) (k : Nat) (q : Qm), qs[k]? = some q → (msgsC x h qs)[k * 30 + 15]? = some (.slice q.ba h.l q.bc)
  | [], k, q, e => by simp at e
  | p :: l, 0, q, e => by
    simp only [List.getElem?_cons_zero, Option.some.injEq] at e
    subst e
    rw [msgsC, List.flatMap_cons, List.getElem?_append_left (by simp [msgC])]
    rfl
  | p :: l, k + 1, q, e => by
    rw [msgsC, List.flatMap_cons, List.getElem?_append_right (by simp [msgC]; omega)]
    have e2 : (k + 1) * 30 + 15 - (msgC x h p).length = k * 30 + 15 := by simp [msgC]; omega
    rw [e2]
    exact msgsC_at x h l k q (by simpa using e)
def bkC (h : Qh) (qs : List Qm) : List Value := qs.map (fun q => .slice q.ba h.l q.bc)

end Go.Proofs.Ytgiokkcdgoloaab
