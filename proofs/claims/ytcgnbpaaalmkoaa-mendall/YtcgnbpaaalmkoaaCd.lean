import Derived.Test.YtcgnbpaaalmkoaaCc
namespace Go.Proofs.Ytcgnbpaaalmkoaa
open Go.RowKit
set_option linter.unusedVariables false
set_option linter.unusedSimpArgs false

theorem tab_succ {α : Type} (n : Nat) (f : Nat → α) : tab (n + 1) f = tab n f ++ [f n] := by simp [tab, List.range_succ]
theorem OwC.kept {S : Nat → Prop} {w w' : World} {base : Nat} {s : Sl} {es : List Cm} (h : OwC w base s es) (hk : Kept S w w') (hS : ∀ k, At s.a k → ¬ S k) : OwC w' base s es := ⟨h.own.kept hk hS, h.len⟩
theorem OwC.no {w w' : World} {base : Nat} {s : Sl} {es : List Cm} (h : OwC w base s es) (hk : Kept No w w') : OwC w' base s es := h.kept hk (fun _ _ e => e)
end Go.Proofs.Ytcgnbpaaalmkoaa
