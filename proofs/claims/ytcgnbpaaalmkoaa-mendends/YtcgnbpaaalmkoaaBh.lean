import Derived.Test.YtcgnbpaaalmkoaaBg
namespace Go.Proofs.Ytcgnbpaaalmkoaa
open Go.RowKit
set_option linter.unusedVariables false
set_option linter.unusedSimpArgs false
theorem Fr.of_no {S : Nat → Prop} {w0 w : World} {l : List (Nat × TypeId × Array Value)} (h : Fr No w0 w l) : Fr S w0 w l := ⟨h.kept.of_no, h.box, h.low, h.inj⟩
end Go.Proofs.Ytcgnbpaaalmkoaa
