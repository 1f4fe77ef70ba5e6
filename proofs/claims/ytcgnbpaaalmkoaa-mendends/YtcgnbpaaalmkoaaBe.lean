import Derived.Test.YtcgnbpaaalmkoaaBd
namespace Go.Proofs.Ytcgnbpaaalmkoaa
open Go.RowKit
set_option linter.unusedVariables false
set_option linter.unusedSimpArgs false
/-- What is held may be. -/
def MayR (u : Int) (ps : List Pl) (k : Nat) : Prop := ∀ i, i < k → (u < (pAt ps i).n ∧ (pAt ps i).n ≤ 1048576) ∧ (0 < i → (pAt ps (i - 1)).n < (pAt ps i).n) ∧ ((pAt ps i).i.d = true → (pAt ps i).i.p = spZ ∧ (pAt ps i).i.a = spZ ∧ 1 ≤ (pAt ps i).i.c.k)
def MayP (h : Hd) (ps : List Pl) : Prop := (0 ≤ h.k.up ∧ h.k.up ≤ 1048576) ∧ (h.k.up = 0 → h.k.e.l = 0 ∧ h.k.l.l = 0) ∧ MayR h.k.up ps ps.length
end Go.Proofs.Ytcgnbpaaalmkoaa
