import Derived.Test.YtfemlnfknebalabTb
namespace Go.Proofs.Ytfemlnfknebalab
open Go.RowKit
set_option linter.unusedVariables false
set_option linter.unusedSimpArgs false

theorem Fr.app {w0 w w' : World} {l : List (Nat × TypeId × Array Value)} {t c cap n : Nat} {a : Option Addr} {vs : List Value} (hf : Fr No w0 w l) (ho : Own t c w w0.heap.size a cap n vs) (hk : Kept (At a) w w') (hT : ∀ x ∈ l, x.2.1 ≠ t) : Fr No w0 w' l := by
  refine ⟨hf.kept.trans hk (fun _ e => e.elim) (fun i hi e => by have := ho.base e; omega), fun i k T cs hi => ?_, hf.low, hf.inj⟩
  have hb := hf.box i k T cs hi
  exact hb.kept hk (fun e => ho.notBox hb (Ne.symm (hT _ (List.mem_of_getElem? hi))) e)

end Go.Proofs.Ytfemlnfknebalab
