import Derived.Test.YtcgnbpaaalmkoabB
import Derived.Laws.Strings
namespace Go.Proofs.Ytcgnbpaaalmkoab
open Go.RowKit
set_option linter.unusedVariables false
set_option linter.unusedSimpArgs false

theorem Fr.ne {S : Nat → Prop} {w0 w : World} {l : List (Nat × TypeId × Array Value)} (h : Fr S w0 w l) (i j : Nat) {g g' : Nat} {T T' : TypeId} {cs cs' : Array Value} (hi : l[i]? = some (g, T, cs)) (hj : l[j]? = some (g', T', cs')) (hne : i ≠ j) : g ≠ g' := by
  rintro rfl
  exact hne (h.inj i j _ _ _ _ _ hi hj)
/-- The search. -/
def bs (p : Nat → Bool) : Nat → Nat → Nat → Nat
  | 0, lo, _ => lo
  | f + 1, lo, hi => if lo < hi then (if p ((lo + hi) / 2) then bs p f ((lo + hi) / 2 + 1) hi else bs p f lo ((lo + hi) / 2)) else lo
/-- A bucket, an answer, what a command makes. -/
structure Bk where
  up : Int
  es : List En
  ls : List La
structure An where
  er : Int
  e : En
  l : List En
def eqF (a b c d : Int) : Bool := a == c && b == d
def eqN (a b : ByteArray) : Bool := a.toList == b.toList
def eqE (a b : En) : Bool := eqN a.nm b.nm && (eqF a.f0 a.f1 b.f0 b.f1 && a.sz == b.sz)
def eqL (a b : La) : Bool := a.cl == b.cl && (a.op == b.op && (a.ins == b.ins && (a.er == b.er && (eqF a.f0 a.f1 b.f0 b.f1 && a.sz == b.sz))))
theorem eqN_iff {a b : ByteArray} : eqN a b = true ↔ a = b := by
  unfold eqN
  rw [ByteArray.toList_eq, ByteArray.toList_eq]
  constructor
  · intro h
    cases a; cases b
    simp at h
    simp [h]
  · rintro rfl; simp
theorem eqE_iff {a b : En} : eqE a b = true ↔ a = b := by
  cases a; cases b
  simp [eqE, eqN_iff, eqF, and_assoc]
theorem eqL_iff {a b : La} : eqL a b = true ↔ a = b := by
  cases a; cases b
  simp [eqL, eqF, and_assoc]
/-- The model's equality. -/
def fld (n : String) (t : TypeId) (o : Nat) (b : Nat) : Field := { name := n, type := t, offset := o, embedded := false, tag := "", pkgPath := "", byteOffset := b }
theorem flds45 : (Try.prog.fieldsOf 41).toList = [fld "Client" 3 0 0, fld "Op" 3 1 8] := by kernel_rfl
theorem flds110 : (Try.prog.fieldsOf 91).toList = [fld "Name" 9 0 0, fld "File" 41 1 16, fld "Size" 3 3 32] := by kernel_rfl
theorem flds113 : (Try.prog.fieldsOf 94).toList = [fld "Client" 3 0 0, fld "Op" 3 1 8, fld "Instance" 3 2 16, fld "Err" 92 3 24, fld "File" 41 4 32, fld "Size" 3 6 48] := by kernel_rfl
theorem eqInt (d : Nat) (a b : Int) (w : World) : (Op.equalIn (d + 1) 3 (.int .i64 a) (.int .i64 b)).run Try.prog w = .ok (a == b) w := run_equalIn_int w d 3 .i64 .i64 a b Try.und3
theorem eqInt111 (d : Nat) (a b : Int) (w : World) : (Op.equalIn (d + 1) 92 (.int .i64 a) (.int .i64 b)).run Try.prog w = .ok (a == b) w := run_equalIn_int w d 92 .i64 .i64 a b Try.und111
theorem eq45 (d : Nat) (n c m e : Int) (w : World) : (Op.equalIn (d + 2) 41 (.agg #[.int .i64 n, .int .i64 c]) (.agg #[.int .i64 m, .int .i64 e])).run Try.prog w = .ok (eqF n c m e) w := by
  have h0 : ∀ (a c : Int) (w : World), (part 3 #[.int .i64 a, .int .i64 c] 0).run Try.prog w = .ok (.int .i64 a) w := fun a c w => by kernel_rfl
  have h1 : ∀ (a c : Int) (w : World), (part 3 #[.int .i64 a, .int .i64 c] 1).run Try.prog w = .ok (.int .i64 c) w := fun a c w => by kernel_rfl
  rw [show d + 2 = (d + 1) + 1 from rfl, run_equalIn_struct w (d + 1) 41 _ _ Try.und45 (by kernel_rfl), flds45]
  unfold eqF
  cases h : n == m <;> cases h' : c == e <;> simp [Op.eqFields, fld, h0, h1, eqInt, h, h', Result.andThen]
theorem eq110 (d : Nat) (a b : En) (w : World) : (Op.equalIn (d + 3) 91 (.agg a.cells) (.agg b.cells)).run Try.prog w = .ok (eqE a b) w := by
  have h0 : ∀ (a : En) (w : World), (part 9 a.cells 0).run Try.prog w = .ok (.string a.nm) w := fun a w => by kernel_rfl
  have h1 : ∀ (a : En) (w : World), (part 41 a.cells 1).run Try.prog w = .ok (.agg #[.int .i64 a.f0, .int .i64 a.f1]) w := fun a w => by kernel_rfl
  have h2 : ∀ (a : En) (w : World), (part 3 a.cells 3).run Try.prog w = .ok (.int .i64 a.sz) w := fun a w => by kernel_rfl
  have hI : ∀ (a b : Int) (w : World), (Op.equalIn (d + 2) 3 (.int .i64 a) (.int .i64 b)).run Try.prog w = .ok (a == b) w := eqInt (d + 1)
  have hS : ∀ (a b : ByteArray) (w : World), (Op.equalIn (d + 2) 9 (.string a) (.string b)).run Try.prog w = .ok (eqN a b) w := fun a b w => run_equalIn_string w (d + 1) 9 a b Try.und9
  have hF : ∀ (n c m e : Int) (w : World), (Op.equalIn (d + 2) 41 (.agg #[.int .i64 n, .int .i64 c]) (.agg #[.int .i64 m, .int .i64 e])).run Try.prog w = .ok (eqF n c m e) w := eq45 d
  rw [show d + 3 = (d + 2) + 1 from rfl, run_equalIn_struct w (d + 2) 91 _ _ Try.und110 (by kernel_rfl), flds110]
  unfold eqE
  generalize e1 : eqN a.nm b.nm = q1
  generalize e2 : eqF a.f0 a.f1 b.f0 b.f1 = q2
  generalize e3 : (a.sz == b.sz) = q3
  cases q1
  · simp [Op.eqFields, fld, h0, hS, e1, Result.andThen]
  cases q2
  · simp [Op.eqFields, fld, h0, h1, hS, hF, e1, e2, Result.andThen]
  cases q3
  · simp [Op.eqFields, fld, h0, h1, h2, hI, hS, hF, e1, e2, e3, Result.andThen]
  · simp [Op.eqFields, fld, h0, h1, h2, hI, hS, hF, e1, e2, e3, Result.andThen]
theorem eq113 (d : Nat) (a b : La) (w : World) : (Op.equalIn (d + 3) 94 (.agg a.cells) (.agg b.cells)).run Try.prog w = .ok (eqL a b) w := by
  have h0 : ∀ (a : La) (w : World), (part 3 a.cells 0).run Try.prog w = .ok (.int .i64 a.cl) w := fun a w => by kernel_rfl
  have h1 : ∀ (a : La) (w : World), (part 3 a.cells 1).run Try.prog w = .ok (.int .i64 a.op) w := fun a w => by kernel_rfl
  have h2 : ∀ (a : La) (w : World), (part 3 a.cells 2).run Try.prog w = .ok (.int .i64 a.ins) w := fun a w => by kernel_rfl
  have h3 : ∀ (a : La) (w : World), (part 92 a.cells 3).run Try.prog w = .ok (.int .i64 a.er) w := fun a w => by kernel_rfl
  have h4 : ∀ (a : La) (w : World), (part 41 a.cells 4).run Try.prog w = .ok (.agg #[.int .i64 a.f0, .int .i64 a.f1]) w := fun a w => by kernel_rfl
  have h5 : ∀ (a : La) (w : World), (part 3 a.cells 6).run Try.prog w = .ok (.int .i64 a.sz) w := fun a w => by kernel_rfl
  have hI : ∀ (a b : Int) (w : World), (Op.equalIn (d + 2) 3 (.int .i64 a) (.int .i64 b)).run Try.prog w = .ok (a == b) w := eqInt (d + 1)
  have hJ : ∀ (a b : Int) (w : World), (Op.equalIn (d + 2) 92 (.int .i64 a) (.int .i64 b)).run Try.prog w = .ok (a == b) w := eqInt111 (d + 1)
  have hF : ∀ (n c m e : Int) (w : World), (Op.equalIn (d + 2) 41 (.agg #[.int .i64 n, .int .i64 c]) (.agg #[.int .i64 m, .int .i64 e])).run Try.prog w = .ok (eqF n c m e) w := eq45 d
  rw [show d + 3 = (d + 2) + 1 from rfl, run_equalIn_struct w (d + 2) 94 _ _ Try.und113 (by kernel_rfl), flds113]
  unfold eqL
  generalize e1 : (a.cl == b.cl) = q1
  generalize e2 : (a.op == b.op) = q2
  generalize e3 : (a.ins == b.ins) = q3
  generalize e4 : (a.er == b.er) = q4
  generalize e5 : eqF a.f0 a.f1 b.f0 b.f1 = q5
  generalize e6 : (a.sz == b.sz) = q6
  cases q1
  · simp [Op.eqFields, fld, h0, hI, e1, Result.andThen]
  cases q2
  · simp [Op.eqFields, fld, h0, h1, hI, e1, e2, Result.andThen]
  cases q3
  · simp [Op.eqFields, fld, h0, h1, h2, hI, e1, e2, e3, Result.andThen]
  cases q4
  · simp [Op.eqFields, fld, h0, h1, h2, h3, hI, hJ, e1, e2, e3, e4, Result.andThen]
  cases q5
  · simp [Op.eqFields, fld, h0, h1, h2, h3, h4, hI, hJ, hF, e1, e2, e3, e4, e5, Result.andThen]
  cases q6
  · simp [Op.eqFields, fld, h0, h1, h2, h3, h4, h5, hI, hJ, hF, e1, e2, e3, e4, e5, e6, Result.andThen]
  · simp [Op.eqFields, fld, h0, h1, h2, h3, h4, h5, hI, hJ, hF, e1, e2, e3, e4, e5, e6, Result.andThen]
theorem b_eql (a b : Int) (w : World) : (binOp .eql 3 (.int .i64 a) (.int .i64 b)).run Try.prog w = .ok (.bool (a == b)) w := by
  kernel_rfl
theorem b_neq (a b : Int) (w : World) : (binOp .neq 3 (.int .i64 a) (.int .i64 b)).run Try.prog w = .ok (.bool (!(a == b))) w := by
  kernel_rfl
theorem eqE_neq (a b : En) (w : World) : (binOp .neq 91 (.agg a.cells) (.agg b.cells)).run Try.prog w = .ok (.bool (!eqE a b)) w := by
  rw [run_neq_struct, eq110 9997]; rfl
theorem eqL_neq (a b : La) (w : World) : (binOp .neq 94 (.agg a.cells) (.agg b.cells)).run Try.prog w = .ok (.bool (!eqL a b)) w := by
  rw [run_neq_struct, eq113 9997]; rfl
theorem eqN_eql (a b : ByteArray) (w : World) : (binOp .eql 9 (.string a) (.string b)).run Try.prog w = .ok (.bool (eqN a b)) w := by
  kernel_rfl
end Go.Proofs.Ytcgnbpaaalmkoab
