/-
  No cell of these rows narrows 'for every input' (looked for: loops, veiled, ifaces, maps, wideKeys, modest, calm, conditions, laid).
  DERIVED. THE GIVEN ROWS OF THIS SEAT. 4 by the template 'for every input the law returns true; each argument reads behind the call as it read before'; 0 by the template 'total and deterministic' (their statements: YtnhjpghkmbgeaabTotals.lean).
  GIVEN WITH THE SEED: the statements are not yours to turn. If you find one false, say at which input.
  Laid BY PROGRAM, IN A SANDBOX (cutbox-rows.mjs): the forced cells as the released guide's own fill.sh prints them over the translation d8441ee89426c501… (all of the seat's roots in one cut). By AI agents, Wed Nov 11 2026. No macro, syntax, notation, axiom, sorry.
-/
import Derived.Test.YtnhjpghkmbgeaabChecked
import GoSem.Claim
import GoSem.ClaimJoined
import GoSem.ClaimMapViews
import Derived.JoinedTies
import Derived.KernelRfl
namespace Go.Proofs.Ytnhjpghkmbgeaab
/- THE CELL 'sum', in the pinned program and in every row, IS THE sha256 OF THE DUMP (.gsa) THAT YtnhjpghkmbgeaabProg.lean LOADS. Nothing in Lean hashes anything: it is a label: what it is worth is what the hold of that sum in a sandbox is worth. -/
noncomputable def Try.pinned : Pinned := { name := "ytnhjpghkmbgeaab", sum := "d8441ee89426c5016a413744ff57c5980097192b0fafdbf9ef70addfba0daa4f", checked := Try.checked }
namespace Rows
def none {H : Type} : Left H := { results := [], args := [] }

/-- 'cairnlaw1.WireTurned': WHATEVER THE INPUT: true; the input reads as it did. -/
def wireTurnedSpec : ChangeSpec := { name := "wireTurned", fn := fun _ => fun
  | [d1, d2, d3] => { results := [.lit (.bool true)], args := [d1, d2, d3] }
  | _ => none }
def wireTurnedRow : OpenClaim := { program := "ytnhjpghkmbgeaab", sum := "d8441ee89426c5016a413744ff57c5980097192b0fafdbf9ef70addfba0daa4f", func := "cairn/cairnlaw1.WireTurned", spec := "wireTurned", apart := false }
def WireTurnedSaid : Prop := wireTurnedRow.holds Try.pinned (OpenSpec.ofChange wireTurnedSpec)

/-- ITS FALSE NEIGHBOUR: 'it returns false'. Refute it at one input. -/
def wireTurnedWrong : ChangeSpec := { name := "wireTurned", fn := fun _ => fun
  | [d1, d2, d3] => { results := [.lit (.bool false)], args := [d1, d2, d3] }
  | _ => none }
def WireTurnedWrongFalsely : Prop := wireTurnedRow.holds Try.pinned (OpenSpec.ofChange wireTurnedWrong)

/-- 'cairnlaw1.WireBig': WHATEVER THE INPUT: true; the input reads as it did. -/
def wireBigSpec : ChangeSpec := { name := "wireBig", fn := fun _ => fun
  | [d1, d2] => { results := [.lit (.bool true)], args := [d1, d2] }
  | _ => none }
def wireBigRow : OpenClaim := { program := "ytnhjpghkmbgeaab", sum := "d8441ee89426c5016a413744ff57c5980097192b0fafdbf9ef70addfba0daa4f", func := "cairn/cairnlaw1.WireBig", spec := "wireBig", apart := false }
def WireBigSaid : Prop := wireBigRow.holds Try.pinned (OpenSpec.ofChange wireBigSpec)

/-- ITS FALSE NEIGHBOUR: 'it returns false'. Refute it at one input. -/
def wireBigWrong : ChangeSpec := { name := "wireBig", fn := fun _ => fun
  | [d1, d2] => { results := [.lit (.bool false)], args := [d1, d2] }
  | _ => none }
def WireBigWrongFalsely : Prop := wireBigRow.holds Try.pinned (OpenSpec.ofChange wireBigWrong)

/-- 'cairnlaw1.WireApart': WHATEVER THE INPUT: true; the input reads as it did. -/
def wireApartSpec : ChangeSpec := { name := "wireApart", fn := fun _ => fun
  | [d1, d2, d3] => { results := [.lit (.bool true)], args := [d1, d2, d3] }
  | _ => none }
def wireApartRow : OpenClaim := { program := "ytnhjpghkmbgeaab", sum := "d8441ee89426c5016a413744ff57c5980097192b0fafdbf9ef70addfba0daa4f", func := "cairn/cairnlaw1.WireApart", spec := "wireApart", unfollowed := true, recurses := true, apart := false }
def WireApartSaid : Prop := wireApartRow.holds Try.pinned (OpenSpec.ofChange wireApartSpec)

/-- ITS FALSE NEIGHBOUR: 'it returns false'. Refute it at one input. -/
def wireApartWrong : ChangeSpec := { name := "wireApart", fn := fun _ => fun
  | [d1, d2, d3] => { results := [.lit (.bool false)], args := [d1, d2, d3] }
  | _ => none }
def WireApartWrongFalsely : Prop := wireApartRow.holds Try.pinned (OpenSpec.ofChange wireApartWrong)

/-- 'cairnlaw1.WireBook': WHATEVER THE INPUT: true; the input reads as it did. -/
def wireBookSpec : ChangeSpec := { name := "wireBook", fn := fun _ => fun
  | [d1, d2] => { results := [.lit (.bool true)], args := [d1, d2] }
  | _ => none }
def wireBookRow : OpenClaim := { program := "ytnhjpghkmbgeaab", sum := "d8441ee89426c5016a413744ff57c5980097192b0fafdbf9ef70addfba0daa4f", func := "cairn/cairnlaw1.WireBook", spec := "wireBook", unfollowed := true, recurses := true, apart := false }
def WireBookSaid : Prop := wireBookRow.holds Try.pinned (OpenSpec.ofChange wireBookSpec)

/-- ITS FALSE NEIGHBOUR: 'it returns false'. Refute it at one input. -/
def wireBookWrong : ChangeSpec := { name := "wireBook", fn := fun _ => fun
  | [d1, d2] => { results := [.lit (.bool false)], args := [d1, d2] }
  | _ => none }
def WireBookWrongFalsely : Prop := wireBookRow.holds Try.pinned (OpenSpec.ofChange wireBookWrong)

/- THE SECOND FORM. 'bulk': how many values and letters a reading holds, each counted each time it is reached (what is shared counts as often as it is met; a slice's spare places count too). A statement '..UptoSaid' is the law's where the arguments, and the package variables that the reading takes, are together of bulk at most 1048576: NARROWER than '..Said'. Prove '..Said' where nothing that the law and all that it calls make is longer than what came in: it says more and counts as full. Else prove '..UptoSaid'. A law counts once. -/
mutual
def uptoBulk {H : Type} : DataW H → Nat
  | .lit (.string bytes) => bytes.length + 1
  | .lit _ => 1
  | .nil => 1
  | .ptr d => uptoBulk d + 1
  | .slice elems spare => uptoBulkAll elems + uptoBulkAll spare + 1
  | .agg parts => uptoBulkAll parts + 1
  | .iface _ d => uptoBulk d + 1
  | .map entries => uptoBulkEntries entries + 1
  | .held _ => 1
def uptoBulkAll {H : Type} : List (DataW H) → Nat
  | [] => 0
  | d :: r => uptoBulk d + uptoBulkAll r
def uptoBulkEntries {H : Type} : List (Lit × DataW H) → Nat
  | [] => 0
  | x :: r => uptoBulkEntry x + uptoBulkEntries r
def uptoBulkEntry {H : Type} : Lit × DataW H → Nat
  | (.string bytes, d) => bytes.length + uptoBulk d + 1
  | (_, d) => uptoBulk d + 1
 end
def uptoSmall : (H : Type) → List (DataW H) → Bool := fun _ ds => decide (uptoBulkAll ds ≤ 1048576)
def OpenSpec.upto (s : _root_.Go.ChangeSpec) : _root_.Go.OpenSpec := { _root_.Go.OpenSpec.ofChange s with cond := some uptoSmall }

/-- 'cairnlaw1.WireTurned', WHERE WHAT IT READS IS OF BULK AT MOST 1048576: true; the input reads as it did. -/
def wireTurnedUptoRow : OpenClaim := { program := "ytnhjpghkmbgeaab", sum := "d8441ee89426c5016a413744ff57c5980097192b0fafdbf9ef70addfba0daa4f", func := "cairn/cairnlaw1.WireTurned", spec := "wireTurned", apart := false, narrowed := true }
def WireTurnedUptoSaid : Prop := wireTurnedUptoRow.holds Try.pinned (OpenSpec.upto wireTurnedSpec)

/-- 'cairnlaw1.WireBig', WHERE WHAT IT READS IS OF BULK AT MOST 1048576: true; the input reads as it did. -/
def wireBigUptoRow : OpenClaim := { program := "ytnhjpghkmbgeaab", sum := "d8441ee89426c5016a413744ff57c5980097192b0fafdbf9ef70addfba0daa4f", func := "cairn/cairnlaw1.WireBig", spec := "wireBig", apart := false, narrowed := true }
def WireBigUptoSaid : Prop := wireBigUptoRow.holds Try.pinned (OpenSpec.upto wireBigSpec)

/-- 'cairnlaw1.WireApart', WHERE WHAT IT READS IS OF BULK AT MOST 1048576: true; the input reads as it did. -/
def wireApartUptoRow : OpenClaim := { program := "ytnhjpghkmbgeaab", sum := "d8441ee89426c5016a413744ff57c5980097192b0fafdbf9ef70addfba0daa4f", func := "cairn/cairnlaw1.WireApart", spec := "wireApart", unfollowed := true, recurses := true, apart := false, narrowed := true }
def WireApartUptoSaid : Prop := wireApartUptoRow.holds Try.pinned (OpenSpec.upto wireApartSpec)

/-- 'cairnlaw1.WireBook', WHERE WHAT IT READS IS OF BULK AT MOST 1048576: true; the input reads as it did. -/
def wireBookUptoRow : OpenClaim := { program := "ytnhjpghkmbgeaab", sum := "d8441ee89426c5016a413744ff57c5980097192b0fafdbf9ef70addfba0daa4f", func := "cairn/cairnlaw1.WireBook", spec := "wireBook", unfollowed := true, recurses := true, apart := false, narrowed := true }
def WireBookUptoSaid : Prop := wireBookUptoRow.holds Try.pinned (OpenSpec.upto wireBookSpec)

end Rows
end Go.Proofs.Ytnhjpghkmbgeaab
