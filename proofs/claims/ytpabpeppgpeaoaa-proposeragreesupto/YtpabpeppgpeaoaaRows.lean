/-
  No cell of these rows narrows 'for every input' (looked for: loops, veiled, ifaces, maps, wideKeys, modest, calm, conditions, laid).
  DERIVED. THE GIVEN ROWS OF THIS SEAT. 5 by the template 'for every input the law returns true; each argument reads behind the call as it read before'; 0 by the template 'total and deterministic' (their statements: YtpabpeppgpeaoaaTotals.lean).
  GIVEN WITH THE SEED: the statements are not yours to turn. If you find one false, say at which input.
  Laid BY PROGRAM, IN A SANDBOX (cutbox-rows.mjs): the forced cells as the released guide's own fill.sh prints them over the translation 922c891001f975f0… (all of the seat's roots in one cut). By AI agents, Wed Nov 11 2026. No macro, syntax, notation, axiom, sorry.
-/
import Derived.Test.YtpabpeppgpeaoaaChecked
import GoSem.Claim
import GoSem.ClaimJoined
import GoSem.ClaimMapViews
import Derived.JoinedTies
import Derived.KernelRfl
namespace Go.Proofs.Ytpabpeppgpeaoaa
/- THE CELL 'sum', in the pinned program and in every row, IS THE sha256 OF THE DUMP (.gsa) THAT YtpabpeppgpeaoaaProg.lean LOADS. Nothing in Lean hashes anything: it is a label: what it is worth is what the hold of that sum in a sandbox is worth. -/
noncomputable def Try.pinned : Pinned := { name := "ytpabpeppgpeaoaa", sum := "922c891001f975f06835b8152e7a1ebf61d29f621cc05b92a0d49901bc24c089", checked := Try.checked }
namespace Rows
def none {H : Type} : Left H := { results := [], args := [] }

/-- 'cairnlaw9.ProposerPlays': WHATEVER THE INPUT: true; the input reads as it did. -/
def proposerPlaysSpec : ChangeSpec := { name := "proposerPlays", fn := fun _ => fun
  | [d1, d2, d3, d4, d5, d6, d7, d8] => { results := [.lit (.bool true)], args := [d1, d2, d3, d4, d5, d6, d7, d8] }
  | _ => none }
def proposerPlaysRow : OpenClaim := { program := "ytpabpeppgpeaoaa", sum := "922c891001f975f06835b8152e7a1ebf61d29f621cc05b92a0d49901bc24c089", func := "cairn/cairnlaw9.ProposerPlays", spec := "proposerPlays", unfollowed := true, recurses := true, apart := false }
def ProposerPlaysSaid : Prop := proposerPlaysRow.holds Try.pinned (OpenSpec.ofChange proposerPlaysSpec)

/-- ITS FALSE NEIGHBOUR: 'it returns false'. Refute it at one input. -/
def proposerPlaysWrong : ChangeSpec := { name := "proposerPlays", fn := fun _ => fun
  | [d1, d2, d3, d4, d5, d6, d7, d8] => { results := [.lit (.bool false)], args := [d1, d2, d3, d4, d5, d6, d7, d8] }
  | _ => none }
def ProposerPlaysWrongFalsely : Prop := proposerPlaysRow.holds Try.pinned (OpenSpec.ofChange proposerPlaysWrong)

/-- 'cairnlaw9.ProposerRounds': WHATEVER THE INPUT: true; the input reads as it did. -/
def proposerRoundsSpec : ChangeSpec := { name := "proposerRounds", fn := fun _ => fun
  | [d1, d2, d3, d4] => { results := [.lit (.bool true)], args := [d1, d2, d3, d4] }
  | _ => none }
def proposerRoundsRow : OpenClaim := { program := "ytpabpeppgpeaoaa", sum := "922c891001f975f06835b8152e7a1ebf61d29f621cc05b92a0d49901bc24c089", func := "cairn/cairnlaw9.ProposerRounds", spec := "proposerRounds", unfollowed := true, recurses := true, apart := false }
def ProposerRoundsSaid : Prop := proposerRoundsRow.holds Try.pinned (OpenSpec.ofChange proposerRoundsSpec)

/-- ITS FALSE NEIGHBOUR: 'it returns false'. Refute it at one input. -/
def proposerRoundsWrong : ChangeSpec := { name := "proposerRounds", fn := fun _ => fun
  | [d1, d2, d3, d4] => { results := [.lit (.bool false)], args := [d1, d2, d3, d4] }
  | _ => none }
def ProposerRoundsWrongFalsely : Prop := proposerRoundsRow.holds Try.pinned (OpenSpec.ofChange proposerRoundsWrong)

/-- 'cairnlaw9.ProposerAgrees': WHATEVER THE INPUT: true; the input reads as it did. -/
def proposerAgreesSpec : ChangeSpec := { name := "proposerAgrees", fn := fun _ => fun
  | [d1, d2, d3] => { results := [.lit (.bool true)], args := [d1, d2, d3] }
  | _ => none }
def proposerAgreesRow : OpenClaim := { program := "ytpabpeppgpeaoaa", sum := "922c891001f975f06835b8152e7a1ebf61d29f621cc05b92a0d49901bc24c089", func := "cairn/cairnlaw9.ProposerAgrees", spec := "proposerAgrees", unfollowed := true, recurses := true, apart := false }
def ProposerAgreesSaid : Prop := proposerAgreesRow.holds Try.pinned (OpenSpec.ofChange proposerAgreesSpec)

/-- ITS FALSE NEIGHBOUR: 'it returns false'. Refute it at one input. -/
def proposerAgreesWrong : ChangeSpec := { name := "proposerAgrees", fn := fun _ => fun
  | [d1, d2, d3] => { results := [.lit (.bool false)], args := [d1, d2, d3] }
  | _ => none }
def ProposerAgreesWrongFalsely : Prop := proposerAgreesRow.holds Try.pinned (OpenSpec.ofChange proposerAgreesWrong)

/-- 'cairnlaw9.ProposerEnds': WHATEVER THE INPUT: true; the input reads as it did. -/
def proposerEndsSpec : ChangeSpec := { name := "proposerEnds", fn := fun _ => fun
  | [d1, d2, d3, d4] => { results := [.lit (.bool true)], args := [d1, d2, d3, d4] }
  | _ => none }
def proposerEndsRow : OpenClaim := { program := "ytpabpeppgpeaoaa", sum := "922c891001f975f06835b8152e7a1ebf61d29f621cc05b92a0d49901bc24c089", func := "cairn/cairnlaw9.ProposerEnds", spec := "proposerEnds", unfollowed := true, recurses := true, apart := false }
def ProposerEndsSaid : Prop := proposerEndsRow.holds Try.pinned (OpenSpec.ofChange proposerEndsSpec)

/-- ITS FALSE NEIGHBOUR: 'it returns false'. Refute it at one input. -/
def proposerEndsWrong : ChangeSpec := { name := "proposerEnds", fn := fun _ => fun
  | [d1, d2, d3, d4] => { results := [.lit (.bool false)], args := [d1, d2, d3, d4] }
  | _ => none }
def ProposerEndsWrongFalsely : Prop := proposerEndsRow.holds Try.pinned (OpenSpec.ofChange proposerEndsWrong)

/-- 'cairnlaw9.ProposerOwn': WHATEVER THE INPUT: true; the input reads as it did. -/
def proposerOwnSpec : ChangeSpec := { name := "proposerOwn", fn := fun _ => fun
  | [d1, d2] => { results := [.lit (.bool true)], args := [d1, d2] }
  | _ => none }
def proposerOwnRow : OpenClaim := { program := "ytpabpeppgpeaoaa", sum := "922c891001f975f06835b8152e7a1ebf61d29f621cc05b92a0d49901bc24c089", func := "cairn/cairnlaw9.ProposerOwn", spec := "proposerOwn", unfollowed := true, recurses := true, apart := false }
def ProposerOwnSaid : Prop := proposerOwnRow.holds Try.pinned (OpenSpec.ofChange proposerOwnSpec)

/-- ITS FALSE NEIGHBOUR: 'it returns false'. Refute it at one input. -/
def proposerOwnWrong : ChangeSpec := { name := "proposerOwn", fn := fun _ => fun
  | [d1, d2] => { results := [.lit (.bool false)], args := [d1, d2] }
  | _ => none }
def ProposerOwnWrongFalsely : Prop := proposerOwnRow.holds Try.pinned (OpenSpec.ofChange proposerOwnWrong)

/- THE SECOND FORM. 'bulk': how many values and letters a reading holds, each counted each time it is reached (what is shared counts as often as it is met; a slice's spare places count too). A statement '..UptoSaid' is the law's where the arguments, and the package variables that the reading takes, are together of bulk at most 1048576: NARROWER than '..Said'. Prove '..Said' where nothing that the law and all that it calls make is longer than what came in: it says more and counts as full. Else prove '..UptoSaid'. A law counts once. -/
mutual
def uptoBulk {H : Type} : DataW H → Nat
  | .lit (.string bytes) => bytes.length + 1
  | .lit _ => 1
  | .nil => 1
  | .ptr d => uptoBulk d + 1
  | .slice elems spare => uptoBulkAll elems + uptoBulkAll spare + 1
  | .agg parts => uptoBulkAll parts + 1
  | .iface _ d => uptoBulk d + 1
  | .map entries => uptoBulkEntries entries + 1
  | .held _ => 1
def uptoBulkAll {H : Type} : List (DataW H) → Nat
  | [] => 0
  | d :: r => uptoBulk d + uptoBulkAll r
def uptoBulkEntries {H : Type} : List (Lit × DataW H) → Nat
  | [] => 0
  | x :: r => uptoBulkEntry x + uptoBulkEntries r
def uptoBulkEntry {H : Type} : Lit × DataW H → Nat
  | (.string bytes, d) => bytes.length + uptoBulk d + 1
  | (_, d) => uptoBulk d + 1
 end
def uptoSmall : (H : Type) → List (DataW H) → Bool := fun _ ds => decide (uptoBulkAll ds ≤ 1048576)
def OpenSpec.upto (s : _root_.Go.ChangeSpec) : _root_.Go.OpenSpec := { _root_.Go.OpenSpec.ofChange s with cond := some uptoSmall }

/-- 'cairnlaw9.ProposerPlays', WHERE WHAT IT READS IS OF BULK AT MOST 1048576: true; the input reads as it did. -/
def proposerPlaysUptoRow : OpenClaim := { program := "ytpabpeppgpeaoaa", sum := "922c891001f975f06835b8152e7a1ebf61d29f621cc05b92a0d49901bc24c089", func := "cairn/cairnlaw9.ProposerPlays", spec := "proposerPlays", unfollowed := true, recurses := true, apart := false, narrowed := true }
def ProposerPlaysUptoSaid : Prop := proposerPlaysUptoRow.holds Try.pinned (OpenSpec.upto proposerPlaysSpec)

/-- 'cairnlaw9.ProposerRounds', WHERE WHAT IT READS IS OF BULK AT MOST 1048576: true; the input reads as it did. -/
def proposerRoundsUptoRow : OpenClaim := { program := "ytpabpeppgpeaoaa", sum := "922c891001f975f06835b8152e7a1ebf61d29f621cc05b92a0d49901bc24c089", func := "cairn/cairnlaw9.ProposerRounds", spec := "proposerRounds", unfollowed := true, recurses := true, apart := false, narrowed := true }
def ProposerRoundsUptoSaid : Prop := proposerRoundsUptoRow.holds Try.pinned (OpenSpec.upto proposerRoundsSpec)

/-- 'cairnlaw9.ProposerAgrees', WHERE WHAT IT READS IS OF BULK AT MOST 1048576: true; the input reads as it did. -/
def proposerAgreesUptoRow : OpenClaim := { program := "ytpabpeppgpeaoaa", sum := "922c891001f975f06835b8152e7a1ebf61d29f621cc05b92a0d49901bc24c089", func := "cairn/cairnlaw9.ProposerAgrees", spec := "proposerAgrees", unfollowed := true, recurses := true, apart := false, narrowed := true }
def ProposerAgreesUptoSaid : Prop := proposerAgreesUptoRow.holds Try.pinned (OpenSpec.upto proposerAgreesSpec)

/-- 'cairnlaw9.ProposerEnds', WHERE WHAT IT READS IS OF BULK AT MOST 1048576: true; the input reads as it did. -/
def proposerEndsUptoRow : OpenClaim := { program := "ytpabpeppgpeaoaa", sum := "922c891001f975f06835b8152e7a1ebf61d29f621cc05b92a0d49901bc24c089", func := "cairn/cairnlaw9.ProposerEnds", spec := "proposerEnds", unfollowed := true, recurses := true, apart := false, narrowed := true }
def ProposerEndsUptoSaid : Prop := proposerEndsUptoRow.holds Try.pinned (OpenSpec.upto proposerEndsSpec)

/-- 'cairnlaw9.ProposerOwn', WHERE WHAT IT READS IS OF BULK AT MOST 1048576: true; the input reads as it did. -/
def proposerOwnUptoRow : OpenClaim := { program := "ytpabpeppgpeaoaa", sum := "922c891001f975f06835b8152e7a1ebf61d29f621cc05b92a0d49901bc24c089", func := "cairn/cairnlaw9.ProposerOwn", spec := "proposerOwn", unfollowed := true, recurses := true, apart := false, narrowed := true }
def ProposerOwnUptoSaid : Prop := proposerOwnUptoRow.holds Try.pinned (OpenSpec.upto proposerOwnSpec)

end Rows
end Go.Proofs.Ytpabpeppgpeaoaa
