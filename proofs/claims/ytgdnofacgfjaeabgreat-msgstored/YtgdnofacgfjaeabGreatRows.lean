/-
  No cell of these rows narrows 'for every input' (looked for: loops, veiled, ifaces, maps, wideKeys, modest, calm, conditions, laid).
  DERIVED. THE GIVEN ROWS OF THIS SEAT. 4 by the template 'for every input the law returns true; each argument reads behind the call as it read before'; 0 by the template 'total and deterministic' (their statements: YtgdnofacgfjaeabGreatTotals.lean).
  GIVEN WITH THE SEED: the statements are not yours to turn. If you find one false, say at which input.
  Laid BY PROGRAM, IN A SANDBOX (cutbox-rows.mjs): the forced cells as the released guide's own fill.sh prints them over the translation 77865b2f0d497451… (all of the seat's roots in one cut). By AI agents, Wed Nov 11 2026. No macro, syntax, notation, axiom, sorry.
-/
import Derived.Test.YtgdnofacgfjaeabGreatChecked
import GoSem.Claim
import GoSem.ClaimJoined
import GoSem.ClaimMapViews
import Derived.JoinedTies
import Derived.KernelRfl
namespace Go.Proofs.YtgdnofacgfjaeabGreat
/- THE CELL 'sum', in the pinned program and in every row, IS THE sha256 OF THE DUMP (.gsa) THAT YtgdnofacgfjaeabGreatProg.lean LOADS. Nothing in Lean hashes anything: it is a label: what it is worth is what the hold of that sum in a sandbox is worth. -/
noncomputable def Tryz.pinned : Pinned := { name := "ytgdnofacgfjaeabgreat", sum := "77865b2f0d4974513704eb0002c5f948677378ed259face1e7d3954ceef7ee55", checked := Tryz.checked }
namespace Rows
def none {H : Type} : Left H := { results := [], args := [] }

/-- 'cairnlaw5.MsgStored': WHATEVER THE INPUT: true; the input reads as it did. -/
def msgStoredSpec : ChangeSpec := { name := "msgStored", fn := fun _ => fun
  | [d1, d2, d3, d4, d5] => { results := [.lit (.bool true)], args := [d1, d2, d3, d4, d5] }
  | _ => none }
def msgStoredRow : OpenClaim := { program := "ytgdnofacgfjaeabgreat", sum := "77865b2f0d4974513704eb0002c5f948677378ed259face1e7d3954ceef7ee55", func := "cairn/cairnlaw5.MsgStored", spec := "msgStored", inPlace := ["internal/bytealg.IndexByteString"], unfollowed := true, recurses := true, apart := false }
def MsgStoredSaid : Prop := msgStoredRow.holds Tryz.pinned (OpenSpec.ofChange msgStoredSpec)

/-- ITS FALSE NEIGHBOUR: 'it returns false'. Refute it at one input. -/
def msgStoredWrong : ChangeSpec := { name := "msgStored", fn := fun _ => fun
  | [d1, d2, d3, d4, d5] => { results := [.lit (.bool false)], args := [d1, d2, d3, d4, d5] }
  | _ => none }
def MsgStoredWrongFalsely : Prop := msgStoredRow.holds Tryz.pinned (OpenSpec.ofChange msgStoredWrong)

/-- 'cairnlaw5.MsgOwn': WHATEVER THE INPUT: true; the input reads as it did. -/
def msgOwnSpec : ChangeSpec := { name := "msgOwn", fn := fun _ => fun
  | [d1, d2, d3, d4] => { results := [.lit (.bool true)], args := [d1, d2, d3, d4] }
  | _ => none }
def msgOwnRow : OpenClaim := { program := "ytgdnofacgfjaeabgreat", sum := "77865b2f0d4974513704eb0002c5f948677378ed259face1e7d3954ceef7ee55", func := "cairn/cairnlaw5.MsgOwn", spec := "msgOwn", inPlace := ["internal/bytealg.IndexByteString"], unfollowed := true, recurses := true, apart := false }
def MsgOwnSaid : Prop := msgOwnRow.holds Tryz.pinned (OpenSpec.ofChange msgOwnSpec)

/-- ITS FALSE NEIGHBOUR: 'it returns false'. Refute it at one input. -/
def msgOwnWrong : ChangeSpec := { name := "msgOwn", fn := fun _ => fun
  | [d1, d2, d3, d4] => { results := [.lit (.bool false)], args := [d1, d2, d3, d4] }
  | _ => none }
def MsgOwnWrongFalsely : Prop := msgOwnRow.holds Tryz.pinned (OpenSpec.ofChange msgOwnWrong)

/-- 'cairnlaw5.MsgConfig': WHATEVER THE INPUT: true; the input reads as it did. -/
def msgConfigSpec : ChangeSpec := { name := "msgConfig", fn := fun _ => fun
  | [d1, d2, d3] => { results := [.lit (.bool true)], args := [d1, d2, d3] }
  | _ => none }
def msgConfigRow : OpenClaim := { program := "ytgdnofacgfjaeabgreat", sum := "77865b2f0d4974513704eb0002c5f948677378ed259face1e7d3954ceef7ee55", func := "cairn/cairnlaw5.MsgConfig", spec := "msgConfig", inPlace := ["internal/bytealg.IndexByteString"], unfollowed := true, recurses := true, apart := false }
def MsgConfigSaid : Prop := msgConfigRow.holds Tryz.pinned (OpenSpec.ofChange msgConfigSpec)

/-- ITS FALSE NEIGHBOUR: 'it returns false'. Refute it at one input. -/
def msgConfigWrong : ChangeSpec := { name := "msgConfig", fn := fun _ => fun
  | [d1, d2, d3] => { results := [.lit (.bool false)], args := [d1, d2, d3] }
  | _ => none }
def MsgConfigWrongFalsely : Prop := msgConfigRow.holds Tryz.pinned (OpenSpec.ofChange msgConfigWrong)

/-- 'cairnlaw5.MsgAgain': WHATEVER THE INPUT: true; the input reads as it did. -/
def msgAgainSpec : ChangeSpec := { name := "msgAgain", fn := fun _ => fun
  | [d1, d2, d3, d4, d5, d6, d7] => { results := [.lit (.bool true)], args := [d1, d2, d3, d4, d5, d6, d7] }
  | _ => none }
def msgAgainRow : OpenClaim := { program := "ytgdnofacgfjaeabgreat", sum := "77865b2f0d4974513704eb0002c5f948677378ed259face1e7d3954ceef7ee55", func := "cairn/cairnlaw5.MsgAgain", spec := "msgAgain", inPlace := ["internal/bytealg.IndexByteString"], unfollowed := true, recurses := true, apart := false }
def MsgAgainSaid : Prop := msgAgainRow.holds Tryz.pinned (OpenSpec.ofChange msgAgainSpec)

/-- ITS FALSE NEIGHBOUR: 'it returns false'. Refute it at one input. -/
def msgAgainWrong : ChangeSpec := { name := "msgAgain", fn := fun _ => fun
  | [d1, d2, d3, d4, d5, d6, d7] => { results := [.lit (.bool false)], args := [d1, d2, d3, d4, d5, d6, d7] }
  | _ => none }
def MsgAgainWrongFalsely : Prop := msgAgainRow.holds Tryz.pinned (OpenSpec.ofChange msgAgainWrong)

/- THE SECOND FORM. 'bulk': how many values and letters a reading holds, each counted each time it is reached (what is shared counts as often as it is met; a slice's spare places count too). A statement '..UptoSaid' is the law's where the arguments, and the package variables that the reading takes, are together of bulk at most 1048576: NARROWER than '..Said'. Prove '..Said' where nothing that the law and all that it calls make is longer than what came in: it says more and counts as full. Else prove '..UptoSaid'. A law counts once. -/
mutual
def uptoBulk {H : Type} : DataW H → Nat
  | .lit (.string bytes) => bytes.length + 1
  | .lit _ => 1
  | .nil => 1
  | .ptr d => uptoBulk d + 1
  | .slice elems spare => uptoBulkAll elems + uptoBulkAll spare + 1
  | .agg parts => uptoBulkAll parts + 1
  | .iface _ d => uptoBulk d + 1
  | .map entries => uptoBulkEntries entries + 1
  | .held _ => 1
def uptoBulkAll {H : Type} : List (DataW H) → Nat
  | [] => 0
  | d :: r => uptoBulk d + uptoBulkAll r
def uptoBulkEntries {H : Type} : List (Lit × DataW H) → Nat
  | [] => 0
  | x :: r => uptoBulkEntry x + uptoBulkEntries r
def uptoBulkEntry {H : Type} : Lit × DataW H → Nat
  | (.string bytes, d) => bytes.length + uptoBulk d + 1
  | (_, d) => uptoBulk d + 1
 end
def uptoSmall : (H : Type) → List (DataW H) → Bool := fun _ ds => decide (uptoBulkAll ds ≤ 1048576)
def OpenSpec.upto (s : _root_.Go.ChangeSpec) : _root_.Go.OpenSpec := { _root_.Go.OpenSpec.ofChange s with cond := some uptoSmall }

/-- 'cairnlaw5.MsgStored', WHERE WHAT IT READS IS OF BULK AT MOST 1048576: true; the input reads as it did. -/
def msgStoredUptoRow : OpenClaim := { program := "ytgdnofacgfjaeabgreat", sum := "77865b2f0d4974513704eb0002c5f948677378ed259face1e7d3954ceef7ee55", func := "cairn/cairnlaw5.MsgStored", spec := "msgStored", inPlace := ["internal/bytealg.IndexByteString"], unfollowed := true, recurses := true, apart := false, narrowed := true }
def MsgStoredUptoSaid : Prop := msgStoredUptoRow.holds Tryz.pinned (OpenSpec.upto msgStoredSpec)

/-- 'cairnlaw5.MsgOwn', WHERE WHAT IT READS IS OF BULK AT MOST 1048576: true; the input reads as it did. -/
def msgOwnUptoRow : OpenClaim := { program := "ytgdnofacgfjaeabgreat", sum := "77865b2f0d4974513704eb0002c5f948677378ed259face1e7d3954ceef7ee55", func := "cairn/cairnlaw5.MsgOwn", spec := "msgOwn", inPlace := ["internal/bytealg.IndexByteString"], unfollowed := true, recurses := true, apart := false, narrowed := true }
def MsgOwnUptoSaid : Prop := msgOwnUptoRow.holds Tryz.pinned (OpenSpec.upto msgOwnSpec)

/-- 'cairnlaw5.MsgConfig', WHERE WHAT IT READS IS OF BULK AT MOST 1048576: true; the input reads as it did. -/
def msgConfigUptoRow : OpenClaim := { program := "ytgdnofacgfjaeabgreat", sum := "77865b2f0d4974513704eb0002c5f948677378ed259face1e7d3954ceef7ee55", func := "cairn/cairnlaw5.MsgConfig", spec := "msgConfig", inPlace := ["internal/bytealg.IndexByteString"], unfollowed := true, recurses := true, apart := false, narrowed := true }
def MsgConfigUptoSaid : Prop := msgConfigUptoRow.holds Tryz.pinned (OpenSpec.upto msgConfigSpec)

/-- 'cairnlaw5.MsgAgain', WHERE WHAT IT READS IS OF BULK AT MOST 1048576: true; the input reads as it did. -/
def msgAgainUptoRow : OpenClaim := { program := "ytgdnofacgfjaeabgreat", sum := "77865b2f0d4974513704eb0002c5f948677378ed259face1e7d3954ceef7ee55", func := "cairn/cairnlaw5.MsgAgain", spec := "msgAgain", inPlace := ["internal/bytealg.IndexByteString"], unfollowed := true, recurses := true, apart := false, narrowed := true }
def MsgAgainUptoSaid : Prop := msgAgainUptoRow.holds Tryz.pinned (OpenSpec.upto msgAgainSpec)

end Rows
end Go.Proofs.YtgdnofacgfjaeabGreat
