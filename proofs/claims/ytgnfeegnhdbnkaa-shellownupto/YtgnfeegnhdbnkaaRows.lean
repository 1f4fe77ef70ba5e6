/-
  No cell of these rows narrows 'for every input' (looked for: loops, veiled, ifaces, maps, wideKeys, modest, calm, conditions, laid).
  DERIVED. THE GIVEN ROWS OF THIS SEAT. 4 by the template 'for every input the law returns true; each argument reads behind the call as it read before'; 0 by the template 'total and deterministic' (their statements: YtgnfeegnhdbnkaaTotals.lean).
  GIVEN WITH THE SEED: the statements are not yours to turn. If you find one false, say at which input.
  Laid BY PROGRAM, IN A SANDBOX (cutbox-rows.mjs): the forced cells as the released guide's own fill.sh prints them over the translation 4cad61c98cf42935… (all of the seat's roots in one cut). By AI agents, Wed Nov 11 2026. No macro, syntax, notation, axiom, sorry.
-/
import Derived.Test.YtgnfeegnhdbnkaaChecked
import GoSem.Claim
import GoSem.ClaimJoined
import GoSem.ClaimMapViews
import Derived.JoinedTies
import Derived.KernelRfl
namespace Go.Proofs.Ytgnfeegnhdbnkaa
/- THE CELL 'sum', in the pinned program and in every row, IS THE sha256 OF THE DUMP (.gsa) THAT YtgnfeegnhdbnkaaProg.lean LOADS. Nothing in Lean hashes anything: it is a label: what it is worth is what the hold of that sum in a sandbox is worth. -/
noncomputable def Try.pinned : Pinned := { name := "ytgnfeegnhdbnkaa", sum := "4cad61c98cf429353d0ca3d88adc6895cef55b21eef314ea8d7a03cef437acee", checked := Try.checked }
namespace Rows
def none {H : Type} : Left H := { results := [], args := [] }

/-- 'cairnlaw20.ShellWords': WHATEVER THE INPUT: true; the input reads as it did. -/
def shellWordsSpec : ChangeSpec := { name := "shellWords", fn := fun _ => fun
  | [d] => { results := [.lit (.bool true)], args := [d] }
  | _ => none }
def shellWordsRow : OpenClaim := { program := "ytgnfeegnhdbnkaa", sum := "4cad61c98cf429353d0ca3d88adc6895cef55b21eef314ea8d7a03cef437acee", func := "cairn/cairnlaw20.ShellWords", spec := "shellWords", apart := false }
def ShellWordsSaid : Prop := shellWordsRow.holds Try.pinned (OpenSpec.ofChange shellWordsSpec)

/-- ITS FALSE NEIGHBOUR: 'it returns false'. Refute it at one input. -/
def shellWordsWrong : ChangeSpec := { name := "shellWords", fn := fun _ => fun
  | [d] => { results := [.lit (.bool false)], args := [d] }
  | _ => none }
def ShellWordsWrongFalsely : Prop := shellWordsRow.holds Try.pinned (OpenSpec.ofChange shellWordsWrong)

/-- 'cairnlaw20.ShellQuotes': WHATEVER THE INPUT: true; the input reads as it did. -/
def shellQuotesSpec : ChangeSpec := { name := "shellQuotes", fn := fun _ => fun
  | [d] => { results := [.lit (.bool true)], args := [d] }
  | _ => none }
def shellQuotesRow : OpenClaim := { program := "ytgnfeegnhdbnkaa", sum := "4cad61c98cf429353d0ca3d88adc6895cef55b21eef314ea8d7a03cef437acee", func := "cairn/cairnlaw20.ShellQuotes", spec := "shellQuotes", apart := false }
def ShellQuotesSaid : Prop := shellQuotesRow.holds Try.pinned (OpenSpec.ofChange shellQuotesSpec)

/-- ITS FALSE NEIGHBOUR: 'it returns false'. Refute it at one input. -/
def shellQuotesWrong : ChangeSpec := { name := "shellQuotes", fn := fun _ => fun
  | [d] => { results := [.lit (.bool false)], args := [d] }
  | _ => none }
def ShellQuotesWrongFalsely : Prop := shellQuotesRow.holds Try.pinned (OpenSpec.ofChange shellQuotesWrong)

/-- 'cairnlaw20.ShellJoins': WHATEVER THE INPUT: true; the input reads as it did. -/
def shellJoinsSpec : ChangeSpec := { name := "shellJoins", fn := fun _ => fun
  | [d1, d2] => { results := [.lit (.bool true)], args := [d1, d2] }
  | _ => none }
def shellJoinsRow : OpenClaim := { program := "ytgnfeegnhdbnkaa", sum := "4cad61c98cf429353d0ca3d88adc6895cef55b21eef314ea8d7a03cef437acee", func := "cairn/cairnlaw20.ShellJoins", spec := "shellJoins", apart := false }
def ShellJoinsSaid : Prop := shellJoinsRow.holds Try.pinned (OpenSpec.ofChange shellJoinsSpec)

/-- ITS FALSE NEIGHBOUR: 'it returns false'. Refute it at one input. -/
def shellJoinsWrong : ChangeSpec := { name := "shellJoins", fn := fun _ => fun
  | [d1, d2] => { results := [.lit (.bool false)], args := [d1, d2] }
  | _ => none }
def ShellJoinsWrongFalsely : Prop := shellJoinsRow.holds Try.pinned (OpenSpec.ofChange shellJoinsWrong)

/-- 'cairnlaw20.ShellOwn': WHATEVER THE INPUT: true; the input reads as it did. -/
def shellOwnSpec : ChangeSpec := { name := "shellOwn", fn := fun _ => fun
  | [d] => { results := [.lit (.bool true)], args := [d] }
  | _ => none }
def shellOwnRow : OpenClaim := { program := "ytgnfeegnhdbnkaa", sum := "4cad61c98cf429353d0ca3d88adc6895cef55b21eef314ea8d7a03cef437acee", func := "cairn/cairnlaw20.ShellOwn", spec := "shellOwn", recurses := true, apart := false }
def ShellOwnSaid : Prop := shellOwnRow.holds Try.pinned (OpenSpec.ofChange shellOwnSpec)

/-- ITS FALSE NEIGHBOUR: 'it returns false'. Refute it at one input. -/
def shellOwnWrong : ChangeSpec := { name := "shellOwn", fn := fun _ => fun
  | [d] => { results := [.lit (.bool false)], args := [d] }
  | _ => none }
def ShellOwnWrongFalsely : Prop := shellOwnRow.holds Try.pinned (OpenSpec.ofChange shellOwnWrong)

/- THE SECOND FORM. 'bulk': how many values and letters a reading holds, each counted each time it is reached (what is shared counts as often as it is met; a slice's spare places count too). A statement '..UptoSaid' is the law's where the arguments, and the package variables that the reading takes, are together of bulk at most 1048576: NARROWER than '..Said'. Prove '..Said' where nothing that the law and all that it calls make is longer than what came in: it says more and counts as full. Else prove '..UptoSaid'. A law counts once. -/
mutual
def uptoBulk {H : Type} : DataW H → Nat
  | .lit (.string bytes) => bytes.length + 1
  | .lit _ => 1
  | .nil => 1
  | .ptr d => uptoBulk d + 1
  | .slice elems spare => uptoBulkAll elems + uptoBulkAll spare + 1
  | .agg parts => uptoBulkAll parts + 1
  | .iface _ d => uptoBulk d + 1
  | .map entries => uptoBulkEntries entries + 1
  | .held _ => 1
def uptoBulkAll {H : Type} : List (DataW H) → Nat
  | [] => 0
  | d :: r => uptoBulk d + uptoBulkAll r
def uptoBulkEntries {H : Type} : List (Lit × DataW H) → Nat
  | [] => 0
  | x :: r => uptoBulkEntry x + uptoBulkEntries r
def uptoBulkEntry {H : Type} : Lit × DataW H → Nat
  | (.string bytes, d) => bytes.length + uptoBulk d + 1
  | (_, d) => uptoBulk d + 1
 end
def uptoSmall : (H : Type) → List (DataW H) → Bool := fun _ ds => decide (uptoBulkAll ds ≤ 1048576)
def OpenSpec.upto (s : _root_.Go.ChangeSpec) : _root_.Go.OpenSpec := { _root_.Go.OpenSpec.ofChange s with cond := some uptoSmall }

/-- 'cairnlaw20.ShellWords', WHERE WHAT IT READS IS OF BULK AT MOST 1048576: true; the input reads as it did. -/
def shellWordsUptoRow : OpenClaim := { program := "ytgnfeegnhdbnkaa", sum := "4cad61c98cf429353d0ca3d88adc6895cef55b21eef314ea8d7a03cef437acee", func := "cairn/cairnlaw20.ShellWords", spec := "shellWords", apart := false, narrowed := true }
def ShellWordsUptoSaid : Prop := shellWordsUptoRow.holds Try.pinned (OpenSpec.upto shellWordsSpec)

/-- 'cairnlaw20.ShellQuotes', WHERE WHAT IT READS IS OF BULK AT MOST 1048576: true; the input reads as it did. -/
def shellQuotesUptoRow : OpenClaim := { program := "ytgnfeegnhdbnkaa", sum := "4cad61c98cf429353d0ca3d88adc6895cef55b21eef314ea8d7a03cef437acee", func := "cairn/cairnlaw20.ShellQuotes", spec := "shellQuotes", apart := false, narrowed := true }
def ShellQuotesUptoSaid : Prop := shellQuotesUptoRow.holds Try.pinned (OpenSpec.upto shellQuotesSpec)

/-- 'cairnlaw20.ShellJoins', WHERE WHAT IT READS IS OF BULK AT MOST 1048576: true; the input reads as it did. -/
def shellJoinsUptoRow : OpenClaim := { program := "ytgnfeegnhdbnkaa", sum := "4cad61c98cf429353d0ca3d88adc6895cef55b21eef314ea8d7a03cef437acee", func := "cairn/cairnlaw20.ShellJoins", spec := "shellJoins", apart := false, narrowed := true }
def ShellJoinsUptoSaid : Prop := shellJoinsUptoRow.holds Try.pinned (OpenSpec.upto shellJoinsSpec)

/-- 'cairnlaw20.ShellOwn', WHERE WHAT IT READS IS OF BULK AT MOST 1048576: true; the input reads as it did. -/
def shellOwnUptoRow : OpenClaim := { program := "ytgnfeegnhdbnkaa", sum := "4cad61c98cf429353d0ca3d88adc6895cef55b21eef314ea8d7a03cef437acee", func := "cairn/cairnlaw20.ShellOwn", spec := "shellOwn", recurses := true, apart := false, narrowed := true }
def ShellOwnUptoSaid : Prop := shellOwnUptoRow.holds Try.pinned (OpenSpec.upto shellOwnSpec)

end Rows
end Go.Proofs.Ytgnfeegnhdbnkaa
