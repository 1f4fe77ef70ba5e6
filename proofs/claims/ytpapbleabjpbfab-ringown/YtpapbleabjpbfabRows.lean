/-
  No cell of these rows narrows 'for every input' (looked for: loops, veiled, ifaces, maps, wideKeys, modest, calm, conditions, laid).
  DERIVED. THE GIVEN ROWS OF THIS SEAT. 4 by the template 'for every input the law returns true; each argument reads behind the call as it read before'; 0 by the template 'total and deterministic' (their statements: YtpapbleabjpbfabTotals.lean).
  GIVEN WITH THE SEED: the statements are not yours to turn. If you find one false, say at which input.
  Laid BY PROGRAM, IN A SANDBOX (cutbox-rows.mjs): the forced cells as the released guide's own fill.sh prints them over the translation e82b51b1cd574fe6… (all of the seat's roots in one cut). By AI agents, Wed Nov 11 2026. No macro, syntax, notation, axiom, sorry.
-/
import Derived.Test.YtpapbleabjpbfabChecked
import GoSem.Claim
import GoSem.ClaimJoined
import GoSem.ClaimMapViews
import Derived.JoinedTies
import Derived.KernelRfl
namespace Go.Proofs.Ytpapbleabjpbfab
/- THE CELL 'sum', in the pinned program and in every row, IS THE sha256 OF THE DUMP (.gsa) THAT YtpapbleabjpbfabProg.lean LOADS. Nothing in Lean hashes anything: it is a label: what it is worth is what the hold of that sum in a sandbox is worth. -/
noncomputable def Try.pinned : Pinned := { name := "ytpapbleabjpbfab", sum := "e82b51b1cd574fe673c45f1dd35a50cb9dff6e51ddae408f55b3b8d5361f4878", checked := Try.checked }
namespace Rows
def none {H : Type} : Left H := { results := [], args := [] }

/-- 'cairnlaw2.RingUnlike': WHATEVER THE INPUT: true; the input reads as it did. -/
def ringUnlikeSpec : ChangeSpec := { name := "ringUnlike", fn := fun _ => fun
  | [d1, d2] => { results := [.lit (.bool true)], args := [d1, d2] }
  | _ => none }
def ringUnlikeRow : OpenClaim := { program := "ytpapbleabjpbfab", sum := "e82b51b1cd574fe673c45f1dd35a50cb9dff6e51ddae408f55b3b8d5361f4878", func := "cairn/cairnlaw2.RingUnlike", spec := "ringUnlike", unfollowed := true, recurses := true, apart := false }
def RingUnlikeSaid : Prop := ringUnlikeRow.holds Try.pinned (OpenSpec.ofChange ringUnlikeSpec)

/-- ITS FALSE NEIGHBOUR: 'it returns false'. Refute it at one input. -/
def ringUnlikeWrong : ChangeSpec := { name := "ringUnlike", fn := fun _ => fun
  | [d1, d2] => { results := [.lit (.bool false)], args := [d1, d2] }
  | _ => none }
def RingUnlikeWrongFalsely : Prop := ringUnlikeRow.holds Try.pinned (OpenSpec.ofChange ringUnlikeWrong)

/-- 'cairnlaw2.RingFront': WHATEVER THE INPUT: true; the input reads as it did. -/
def ringFrontSpec : ChangeSpec := { name := "ringFront", fn := fun _ => fun
  | [d1, d2, d3, d4, d5] => { results := [.lit (.bool true)], args := [d1, d2, d3, d4, d5] }
  | _ => none }
def ringFrontRow : OpenClaim := { program := "ytpapbleabjpbfab", sum := "e82b51b1cd574fe673c45f1dd35a50cb9dff6e51ddae408f55b3b8d5361f4878", func := "cairn/cairnlaw2.RingFront", spec := "ringFront", unfollowed := true, recurses := true, apart := false }
def RingFrontSaid : Prop := ringFrontRow.holds Try.pinned (OpenSpec.ofChange ringFrontSpec)

/-- ITS FALSE NEIGHBOUR: 'it returns false'. Refute it at one input. -/
def ringFrontWrong : ChangeSpec := { name := "ringFront", fn := fun _ => fun
  | [d1, d2, d3, d4, d5] => { results := [.lit (.bool false)], args := [d1, d2, d3, d4, d5] }
  | _ => none }
def RingFrontWrongFalsely : Prop := ringFrontRow.holds Try.pinned (OpenSpec.ofChange ringFrontWrong)

/-- 'cairnlaw2.RingMore': WHATEVER THE INPUT: true; the input reads as it did. -/
def ringMoreSpec : ChangeSpec := { name := "ringMore", fn := fun _ => fun
  | [d1, d2, d3, d4] => { results := [.lit (.bool true)], args := [d1, d2, d3, d4] }
  | _ => none }
def ringMoreRow : OpenClaim := { program := "ytpapbleabjpbfab", sum := "e82b51b1cd574fe673c45f1dd35a50cb9dff6e51ddae408f55b3b8d5361f4878", func := "cairn/cairnlaw2.RingMore", spec := "ringMore", unfollowed := true, recurses := true, apart := false }
def RingMoreSaid : Prop := ringMoreRow.holds Try.pinned (OpenSpec.ofChange ringMoreSpec)

/-- ITS FALSE NEIGHBOUR: 'it returns false'. Refute it at one input. -/
def ringMoreWrong : ChangeSpec := { name := "ringMore", fn := fun _ => fun
  | [d1, d2, d3, d4] => { results := [.lit (.bool false)], args := [d1, d2, d3, d4] }
  | _ => none }
def RingMoreWrongFalsely : Prop := ringMoreRow.holds Try.pinned (OpenSpec.ofChange ringMoreWrong)

/-- 'cairnlaw2.RingOwn': WHATEVER THE INPUT: true; the input reads as it did. -/
def ringOwnSpec : ChangeSpec := { name := "ringOwn", fn := fun _ => fun
  | [d1, d2, d3] => { results := [.lit (.bool true)], args := [d1, d2, d3] }
  | _ => none }
def ringOwnRow : OpenClaim := { program := "ytpapbleabjpbfab", sum := "e82b51b1cd574fe673c45f1dd35a50cb9dff6e51ddae408f55b3b8d5361f4878", func := "cairn/cairnlaw2.RingOwn", spec := "ringOwn", unfollowed := true, recurses := true, apart := false }
def RingOwnSaid : Prop := ringOwnRow.holds Try.pinned (OpenSpec.ofChange ringOwnSpec)

/-- ITS FALSE NEIGHBOUR: 'it returns false'. Refute it at one input. -/
def ringOwnWrong : ChangeSpec := { name := "ringOwn", fn := fun _ => fun
  | [d1, d2, d3] => { results := [.lit (.bool false)], args := [d1, d2, d3] }
  | _ => none }
def RingOwnWrongFalsely : Prop := ringOwnRow.holds Try.pinned (OpenSpec.ofChange ringOwnWrong)

/- THE SECOND FORM. 'bulk': how many values and letters a reading holds, each counted each time it is reached (what is shared counts as often as it is met; a slice's spare places count too). A statement '..UptoSaid' is the law's where the arguments, and the package variables that the reading takes, are together of bulk at most 1048576: NARROWER than '..Said'. Prove '..Said' where nothing that the law and all that it calls make is longer than what came in: it says more and counts as full. Else prove '..UptoSaid'. A law counts once. -/
mutual
def uptoBulk {H : Type} : DataW H → Nat
  | .lit (.string bytes) => bytes.length + 1
  | .lit _ => 1
  | .nil => 1
  | .ptr d => uptoBulk d + 1
  | .slice elems spare => uptoBulkAll elems + uptoBulkAll spare + 1
  | .agg parts => uptoBulkAll parts + 1
  | .iface _ d => uptoBulk d + 1
  | .map entries => uptoBulkEntries entries + 1
  | .held _ => 1
def uptoBulkAll {H : Type} : List (DataW H) → Nat
  | [] => 0
  | d :: r => uptoBulk d + uptoBulkAll r
def uptoBulkEntries {H : Type} : List (Lit × DataW H) → Nat
  | [] => 0
  | x :: r => uptoBulkEntry x + uptoBulkEntries r
def uptoBulkEntry {H : Type} : Lit × DataW H → Nat
  | (.string bytes, d) => bytes.length + uptoBulk d + 1
  | (_, d) => uptoBulk d + 1
 end
def uptoSmall : (H : Type) → List (DataW H) → Bool := fun _ ds => decide (uptoBulkAll ds ≤ 1048576)
def OpenSpec.upto (s : _root_.Go.ChangeSpec) : _root_.Go.OpenSpec := { _root_.Go.OpenSpec.ofChange s with cond := some uptoSmall }

/-- 'cairnlaw2.RingUnlike', WHERE WHAT IT READS IS OF BULK AT MOST 1048576: true; the input reads as it did. -/
def ringUnlikeUptoRow : OpenClaim := { program := "ytpapbleabjpbfab", sum := "e82b51b1cd574fe673c45f1dd35a50cb9dff6e51ddae408f55b3b8d5361f4878", func := "cairn/cairnlaw2.RingUnlike", spec := "ringUnlike", unfollowed := true, recurses := true, apart := false, narrowed := true }
def RingUnlikeUptoSaid : Prop := ringUnlikeUptoRow.holds Try.pinned (OpenSpec.upto ringUnlikeSpec)

/-- 'cairnlaw2.RingFront', WHERE WHAT IT READS IS OF BULK AT MOST 1048576: true; the input reads as it did. -/
def ringFrontUptoRow : OpenClaim := { program := "ytpapbleabjpbfab", sum := "e82b51b1cd574fe673c45f1dd35a50cb9dff6e51ddae408f55b3b8d5361f4878", func := "cairn/cairnlaw2.RingFront", spec := "ringFront", unfollowed := true, recurses := true, apart := false, narrowed := true }
def RingFrontUptoSaid : Prop := ringFrontUptoRow.holds Try.pinned (OpenSpec.upto ringFrontSpec)

/-- 'cairnlaw2.RingMore', WHERE WHAT IT READS IS OF BULK AT MOST 1048576: true; the input reads as it did. -/
def ringMoreUptoRow : OpenClaim := { program := "ytpapbleabjpbfab", sum := "e82b51b1cd574fe673c45f1dd35a50cb9dff6e51ddae408f55b3b8d5361f4878", func := "cairn/cairnlaw2.RingMore", spec := "ringMore", unfollowed := true, recurses := true, apart := false, narrowed := true }
def RingMoreUptoSaid : Prop := ringMoreUptoRow.holds Try.pinned (OpenSpec.upto ringMoreSpec)

/-- 'cairnlaw2.RingOwn', WHERE WHAT IT READS IS OF BULK AT MOST 1048576: true; the input reads as it did. -/
def ringOwnUptoRow : OpenClaim := { program := "ytpapbleabjpbfab", sum := "e82b51b1cd574fe673c45f1dd35a50cb9dff6e51ddae408f55b3b8d5361f4878", func := "cairn/cairnlaw2.RingOwn", spec := "ringOwn", unfollowed := true, recurses := true, apart := false, narrowed := true }
def RingOwnUptoSaid : Prop := ringOwnUptoRow.holds Try.pinned (OpenSpec.upto ringOwnSpec)

end Rows
end Go.Proofs.Ytpapbleabjpbfab
