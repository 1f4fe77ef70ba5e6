/-
  No cell of these rows narrows 'for every input' (looked for: loops, veiled, ifaces, maps, wideKeys, modest, calm, conditions, laid).
  DERIVED. THE GIVEN ROWS OF THIS SEAT. 6 by the template 'for every input the law returns true; each argument reads behind the call as it read before'; 0 by the template 'total and deterministic' (their statements: YtgiokkcdgoloaaaTotals.lean).
  GIVEN WITH THE SEED: the statements are not yours to turn. If you find one false, say at which input.
  Laid BY PROGRAM, IN A SANDBOX (cutbox-rows.mjs): the forced cells as the released guide's own fill.sh prints them over the translation 8cd3f4ee1e3e0097… (all of the seat's roots in one cut). By AI agents, Wed Nov 11 2026. No macro, syntax, notation, axiom, sorry.
-/
import Derived.Test.YtgiokkcdgoloaaaChecked
import GoSem.Claim
import GoSem.ClaimJoined
import GoSem.ClaimMapViews
import Derived.JoinedTies
import Derived.KernelRfl
namespace Go.Proofs.Ytgiokkcdgoloaaa
/- THE CELL 'sum', in the pinned program and in every row, IS THE sha256 OF THE DUMP (.gsa) THAT YtgiokkcdgoloaaaProg.lean LOADS. Nothing in Lean hashes anything: it is a label: what it is worth is what the hold of that sum in a sandbox is worth. -/
noncomputable def Try.pinned : Pinned := { name := "ytgiokkcdgoloaaa", sum := "8cd3f4ee1e3e00975299b0b305d647562ce23788f2c44a1314b5d7894e10e412", checked := Try.checked }
namespace Rows
def none {H : Type} : Left H := { results := [], args := [] }

/-- 'cairnlaw7.RegisterPlays': WHATEVER THE INPUT: true; the input reads as it did. -/
def registerPlaysSpec : ChangeSpec := { name := "registerPlays", fn := fun _ => fun
  | [d1, d2] => { results := [.lit (.bool true)], args := [d1, d2] }
  | _ => none }
def registerPlaysRow : OpenClaim := { program := "ytgiokkcdgoloaaa", sum := "8cd3f4ee1e3e00975299b0b305d647562ce23788f2c44a1314b5d7894e10e412", func := "cairn/cairnlaw7.RegisterPlays", spec := "registerPlays", unfollowed := true, recurses := true, apart := false }
def RegisterPlaysSaid : Prop := registerPlaysRow.holds Try.pinned (OpenSpec.ofChange registerPlaysSpec)

/-- ITS FALSE NEIGHBOUR: 'it returns false'. Refute it at one input. -/
def registerPlaysWrong : ChangeSpec := { name := "registerPlays", fn := fun _ => fun
  | [d1, d2] => { results := [.lit (.bool false)], args := [d1, d2] }
  | _ => none }
def RegisterPlaysWrongFalsely : Prop := registerPlaysRow.holds Try.pinned (OpenSpec.ofChange registerPlaysWrong)

/-- 'cairnlaw7.RegisterNewer': WHATEVER THE INPUT: true; the input reads as it did. -/
def registerNewerSpec : ChangeSpec := { name := "registerNewer", fn := fun _ => fun
  | [d1, d2] => { results := [.lit (.bool true)], args := [d1, d2] }
  | _ => none }
def registerNewerRow : OpenClaim := { program := "ytgiokkcdgoloaaa", sum := "8cd3f4ee1e3e00975299b0b305d647562ce23788f2c44a1314b5d7894e10e412", func := "cairn/cairnlaw7.RegisterNewer", spec := "registerNewer", unfollowed := true, recurses := true, apart := false }
def RegisterNewerSaid : Prop := registerNewerRow.holds Try.pinned (OpenSpec.ofChange registerNewerSpec)

/-- ITS FALSE NEIGHBOUR: 'it returns false'. Refute it at one input. -/
def registerNewerWrong : ChangeSpec := { name := "registerNewer", fn := fun _ => fun
  | [d1, d2] => { results := [.lit (.bool false)], args := [d1, d2] }
  | _ => none }
def RegisterNewerWrongFalsely : Prop := registerNewerRow.holds Try.pinned (OpenSpec.ofChange registerNewerWrong)

/-- 'cairnlaw7.RegisterAtomic': WHATEVER THE INPUT: true; the input reads as it did. -/
def registerAtomicSpec : ChangeSpec := { name := "registerAtomic", fn := fun _ => fun
  | [d1, d2] => { results := [.lit (.bool true)], args := [d1, d2] }
  | _ => none }
def registerAtomicRow : OpenClaim := { program := "ytgiokkcdgoloaaa", sum := "8cd3f4ee1e3e00975299b0b305d647562ce23788f2c44a1314b5d7894e10e412", func := "cairn/cairnlaw7.RegisterAtomic", spec := "registerAtomic", unfollowed := true, recurses := true, apart := false }
def RegisterAtomicSaid : Prop := registerAtomicRow.holds Try.pinned (OpenSpec.ofChange registerAtomicSpec)

/-- ITS FALSE NEIGHBOUR: 'it returns false'. Refute it at one input. -/
def registerAtomicWrong : ChangeSpec := { name := "registerAtomic", fn := fun _ => fun
  | [d1, d2] => { results := [.lit (.bool false)], args := [d1, d2] }
  | _ => none }
def RegisterAtomicWrongFalsely : Prop := registerAtomicRow.holds Try.pinned (OpenSpec.ofChange registerAtomicWrong)

/-- 'cairnlaw7.RegisterAlive': WHATEVER THE INPUT: true; the input reads as it did. -/
def registerAliveSpec : ChangeSpec := { name := "registerAlive", fn := fun _ => fun
  | [d1, d2, d3, d4] => { results := [.lit (.bool true)], args := [d1, d2, d3, d4] }
  | _ => none }
def registerAliveRow : OpenClaim := { program := "ytgiokkcdgoloaaa", sum := "8cd3f4ee1e3e00975299b0b305d647562ce23788f2c44a1314b5d7894e10e412", func := "cairn/cairnlaw7.RegisterAlive", spec := "registerAlive", unfollowed := true, recurses := true, apart := false }
def RegisterAliveSaid : Prop := registerAliveRow.holds Try.pinned (OpenSpec.ofChange registerAliveSpec)

/-- ITS FALSE NEIGHBOUR: 'it returns false'. Refute it at one input. -/
def registerAliveWrong : ChangeSpec := { name := "registerAlive", fn := fun _ => fun
  | [d1, d2, d3, d4] => { results := [.lit (.bool false)], args := [d1, d2, d3, d4] }
  | _ => none }
def RegisterAliveWrongFalsely : Prop := registerAliveRow.holds Try.pinned (OpenSpec.ofChange registerAliveWrong)

/-- 'cairnlaw7.RegisterBook': WHATEVER THE INPUT: true; the input reads as it did. -/
def registerBookSpec : ChangeSpec := { name := "registerBook", fn := fun _ => fun
  | [d1, d2] => { results := [.lit (.bool true)], args := [d1, d2] }
  | _ => none }
def registerBookRow : OpenClaim := { program := "ytgiokkcdgoloaaa", sum := "8cd3f4ee1e3e00975299b0b305d647562ce23788f2c44a1314b5d7894e10e412", func := "cairn/cairnlaw7.RegisterBook", spec := "registerBook", unfollowed := true, recurses := true, apart := false }
def RegisterBookSaid : Prop := registerBookRow.holds Try.pinned (OpenSpec.ofChange registerBookSpec)

/-- ITS FALSE NEIGHBOUR: 'it returns false'. Refute it at one input. -/
def registerBookWrong : ChangeSpec := { name := "registerBook", fn := fun _ => fun
  | [d1, d2] => { results := [.lit (.bool false)], args := [d1, d2] }
  | _ => none }
def RegisterBookWrongFalsely : Prop := registerBookRow.holds Try.pinned (OpenSpec.ofChange registerBookWrong)

/-- 'cairnlaw7.RegisterApart': WHATEVER THE INPUT: true; the input reads as it did. -/
def registerApartSpec : ChangeSpec := { name := "registerApart", fn := fun _ => fun
  | [d1, d2, d3, d4, d5] => { results := [.lit (.bool true)], args := [d1, d2, d3, d4, d5] }
  | _ => none }
def registerApartRow : OpenClaim := { program := "ytgiokkcdgoloaaa", sum := "8cd3f4ee1e3e00975299b0b305d647562ce23788f2c44a1314b5d7894e10e412", func := "cairn/cairnlaw7.RegisterApart", spec := "registerApart", unfollowed := true, recurses := true, apart := false }
def RegisterApartSaid : Prop := registerApartRow.holds Try.pinned (OpenSpec.ofChange registerApartSpec)

/-- ITS FALSE NEIGHBOUR: 'it returns false'. Refute it at one input. -/
def registerApartWrong : ChangeSpec := { name := "registerApart", fn := fun _ => fun
  | [d1, d2, d3, d4, d5] => { results := [.lit (.bool false)], args := [d1, d2, d3, d4, d5] }
  | _ => none }
def RegisterApartWrongFalsely : Prop := registerApartRow.holds Try.pinned (OpenSpec.ofChange registerApartWrong)

/- THE SECOND FORM. 'bulk': how many values and letters a reading holds, each counted each time it is reached (what is shared counts as often as it is met; a slice's spare places count too). A statement '..UptoSaid' is the law's where the arguments, and the package variables that the reading takes, are together of bulk at most 1048576: NARROWER than '..Said'. Prove '..Said' where nothing that the law and all that it calls make is longer than what came in: it says more and counts as full. Else prove '..UptoSaid'. A law counts once. -/
mutual
def uptoBulk {H : Type} : DataW H → Nat
  | .lit (.string bytes) => bytes.length + 1
  | .lit _ => 1
  | .nil => 1
  | .ptr d => uptoBulk d + 1
  | .slice elems spare => uptoBulkAll elems + uptoBulkAll spare + 1
  | .agg parts => uptoBulkAll parts + 1
  | .iface _ d => uptoBulk d + 1
  | .map entries => uptoBulkEntries entries + 1
  | .held _ => 1
def uptoBulkAll {H : Type} : List (DataW H) → Nat
  | [] => 0
  | d :: r => uptoBulk d + uptoBulkAll r
def uptoBulkEntries {H : Type} : List (Lit × DataW H) → Nat
  | [] => 0
  | x :: r => uptoBulkEntry x + uptoBulkEntries r
def uptoBulkEntry {H : Type} : Lit × DataW H → Nat
  | (.string bytes, d) => bytes.length + uptoBulk d + 1
  | (_, d) => uptoBulk d + 1
 end
def uptoSmall : (H : Type) → List (DataW H) → Bool := fun _ ds => decide (uptoBulkAll ds ≤ 1048576)
def OpenSpec.upto (s : _root_.Go.ChangeSpec) : _root_.Go.OpenSpec := { _root_.Go.OpenSpec.ofChange s with cond := some uptoSmall }

/-- 'cairnlaw7.RegisterPlays', WHERE WHAT IT READS IS OF BULK AT MOST 1048576: true; the input reads as it did. -/
def registerPlaysUptoRow : OpenClaim := { program := "ytgiokkcdgoloaaa", sum := "8cd3f4ee1e3e00975299b0b305d647562ce23788f2c44a1314b5d7894e10e412", func := "cairn/cairnlaw7.RegisterPlays", spec := "registerPlays", unfollowed := true, recurses := true, apart := false, narrowed := true }
def RegisterPlaysUptoSaid : Prop := registerPlaysUptoRow.holds Try.pinned (OpenSpec.upto registerPlaysSpec)

/-- 'cairnlaw7.RegisterNewer', WHERE WHAT IT READS IS OF BULK AT MOST 1048576: true; the input reads as it did. -/
def registerNewerUptoRow : OpenClaim := { program := "ytgiokkcdgoloaaa", sum := "8cd3f4ee1e3e00975299b0b305d647562ce23788f2c44a1314b5d7894e10e412", func := "cairn/cairnlaw7.RegisterNewer", spec := "registerNewer", unfollowed := true, recurses := true, apart := false, narrowed := true }
def RegisterNewerUptoSaid : Prop := registerNewerUptoRow.holds Try.pinned (OpenSpec.upto registerNewerSpec)

/-- 'cairnlaw7.RegisterAtomic', WHERE WHAT IT READS IS OF BULK AT MOST 1048576: true; the input reads as it did. -/
def registerAtomicUptoRow : OpenClaim := { program := "ytgiokkcdgoloaaa", sum := "8cd3f4ee1e3e00975299b0b305d647562ce23788f2c44a1314b5d7894e10e412", func := "cairn/cairnlaw7.RegisterAtomic", spec := "registerAtomic", unfollowed := true, recurses := true, apart := false, narrowed := true }
def RegisterAtomicUptoSaid : Prop := registerAtomicUptoRow.holds Try.pinned (OpenSpec.upto registerAtomicSpec)

/-- 'cairnlaw7.RegisterAlive', WHERE WHAT IT READS IS OF BULK AT MOST 1048576: true; the input reads as it did. -/
def registerAliveUptoRow : OpenClaim := { program := "ytgiokkcdgoloaaa", sum := "8cd3f4ee1e3e00975299b0b305d647562ce23788f2c44a1314b5d7894e10e412", func := "cairn/cairnlaw7.RegisterAlive", spec := "registerAlive", unfollowed := true, recurses := true, apart := false, narrowed := true }
def RegisterAliveUptoSaid : Prop := registerAliveUptoRow.holds Try.pinned (OpenSpec.upto registerAliveSpec)

/-- 'cairnlaw7.RegisterBook', WHERE WHAT IT READS IS OF BULK AT MOST 1048576: true; the input reads as it did. -/
def registerBookUptoRow : OpenClaim := { program := "ytgiokkcdgoloaaa", sum := "8cd3f4ee1e3e00975299b0b305d647562ce23788f2c44a1314b5d7894e10e412", func := "cairn/cairnlaw7.RegisterBook", spec := "registerBook", unfollowed := true, recurses := true, apart := false, narrowed := true }
def RegisterBookUptoSaid : Prop := registerBookUptoRow.holds Try.pinned (OpenSpec.upto registerBookSpec)

/-- 'cairnlaw7.RegisterApart', WHERE WHAT IT READS IS OF BULK AT MOST 1048576: true; the input reads as it did. -/
def registerApartUptoRow : OpenClaim := { program := "ytgiokkcdgoloaaa", sum := "8cd3f4ee1e3e00975299b0b305d647562ce23788f2c44a1314b5d7894e10e412", func := "cairn/cairnlaw7.RegisterApart", spec := "registerApart", unfollowed := true, recurses := true, apart := false, narrowed := true }
def RegisterApartUptoSaid : Prop := registerApartUptoRow.holds Try.pinned (OpenSpec.upto registerApartSpec)

end Rows
end Go.Proofs.Ytgiokkcdgoloaaa
