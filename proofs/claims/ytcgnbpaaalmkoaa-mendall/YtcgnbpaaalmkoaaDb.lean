import Derived.Test.YtcgnbpaaalmkoaaDa
namespace Go.Proofs.Ytcgnbpaaalmkoaa
open Go.RowKit
set_option linter.unusedVariables false
set_option linter.unusedSimpArgs false

structure OwG (w : World) (base : Nat) (s : Sl) (cs : List Ch) : Prop where
 own : Own 72 24 w base s.a s.k s.l (chL cs)
 len : cs.length = s.l
theorem OwG.kept {S : Nat → Prop} {w w' : World} {base : Nat} {s : Sl} {es : List Ch} (h : OwG w base s es) (hk : Kept S w w') (hS : ∀ k, At s.a k → ¬ S k) : OwG w' base s es := ⟨h.own.kept hk hS, h.len⟩
theorem OwG.no {w w' : World} {base : Nat} {s : Sl} {es : List Ch} (h : OwG w base s es) (hk : Kept No w w') : OwG w' base s es := h.kept hk (fun _ _ e => e)
theorem cell_ch (e : Ch) (j : Nat) (u : Value) (h : e.cs[j]? = some u) : e.cells[j]? = some u := by unfold Ch.cells; rw [List.getElem?_toArray]; exact h
end Go.Proofs.Ytcgnbpaaalmkoaa
