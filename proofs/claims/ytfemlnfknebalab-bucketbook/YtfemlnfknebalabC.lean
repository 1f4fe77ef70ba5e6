import Derived.Test.YtfemlnfknebalabB
import Derived.Laws.Strings
namespace Go.Proofs.Ytfemlnfknebalab
open Go.RowKit
set_option linter.unusedVariables false
set_option linter.unusedSimpArgs false

theorem Fr.ne {S : Nat → Prop} {w0 w : World} {l : List (Nat × TypeId × Array Value)} (h : Fr S w0 w l) (i j : Nat) {g g' : Nat} {T T' : TypeId} {cs cs' : Array Value} (hi : l[i]? = some (g, T, cs)) (hj : l[j]? = some (g', T', cs')) (hne : i ≠ j) : g ≠ g' := by
  rintro rfl
  exact hne (h.inj i j _ _ _ _ _ hi hj)
/-- Names and numbers compared. -/
def cmpB (a b : ByteArray) : Int := Lib.compareBytes a.data.toList b.data.toList
def cmpI (x y : Int) : Int := if x < y then -1 else if y < x then 1 else 0
/-- The search. -/
def bs (p : Nat → Bool) : Nat → Nat → Nat → Nat
  | 0, lo, _ => lo
  | f + 1, lo, hi => if lo < hi then (if p ((lo + hi) / 2) then bs p f ((lo + hi) / 2 + 1) hi else bs p f lo ((lo + hi) / 2)) else lo
def srch (p : Nat → Bool) (n : Nat) : Nat := bs p n 0 n
theorem bs_end (p : Nat → Bool) (f lo hi : Nat) (h : ¬ lo < hi) : bs p f lo hi = lo := by cases f <;> simp [bs, h]
theorem bs_yes {p : Nat → Bool} {f lo hi : Nat} (h : lo < hi) (hf : hi - lo ≤ f) (hp : p ((lo + hi) / 2) = true) : ∃ f', hi - ((lo + hi) / 2 + 1) ≤ f' ∧ bs p f lo hi = bs p f' ((lo + hi) / 2 + 1) hi := by
  cases f with
  | zero => omega
  | succ f => exact ⟨f, by omega, by simp [bs, h, hp]⟩
theorem bs_no {p : Nat → Bool} {f lo hi : Nat} (h : lo < hi) (hf : hi - lo ≤ f) (hp : p ((lo + hi) / 2) = false) : ∃ f', (lo + hi) / 2 - lo ≤ f' ∧ bs p f lo hi = bs p f' lo ((lo + hi) / 2) := by
  cases f with
  | zero => omega
  | succ f => exact ⟨f, by omega, by simp [bs, h, hp]⟩
theorem bs_le (p : Nat → Bool) : ∀ (f lo hi : Nat), lo ≤ hi → bs p f lo hi ≤ hi
  | 0, lo, hi, h => h
  | f + 1, lo, hi, h => by
    unfold bs
    split
    · split
      · exact bs_le p f _ _ (by omega)
      · exact Nat.le_trans (bs_le p f _ _ (by omega)) (by omega)
    · exact h
theorem srch_le (p : Nat → Bool) (n : Nat) : srch p n ≤ n := bs_le p n 0 n (by omega)
/-- Where what does not fall behind what does. -/
theorem bs_mono (p : Nat → Bool) : ∀ (f lo hi k : Nat), hi - lo ≤ f → lo ≤ k → k ≤ hi → (∀ i, i < k → p i = true) → (∀ i, k ≤ i → i < hi → p i = false) → bs p f lo hi = k
  | 0, lo, hi, k, hf, h1, h2, _, _ => by simp [bs]; omega
  | f + 1, lo, hi, k, hf, h1, h2, ht, hF => by
    unfold bs
    split
    · rename_i hlt
      by_cases hm : (lo + hi) / 2 < k
      · rw [ht _ hm, if_pos rfl]
        exact bs_mono p f _ _ k (by omega) (by omega) (by omega) ht hF
      · rw [hF _ (by omega) (by omega)]
        exact bs_mono p f _ _ k (by omega) (by omega) (by omega) ht (fun i a b => hF i a (by omega))
    · omega
theorem srch_mono (p : Nat → Bool) (n k : Nat) (h : k ≤ n) (ht : ∀ i, i < k → p i = true) (hf : ∀ i, k ≤ i → i < n → p i = false) : srch p n = k := bs_mono p n 0 n k (by omega) (by omega) h ht hf
def eLt (es : List En) (nm : ByteArray) (i : Nat) : Bool := decide (cmpB (eAt es i).nm nm < 0)
def lLt (ls : List La) (c : Int) (i : Nat) : Bool := decide (cmpI (lAt ls i).cl c < 0)
def eIx (es : List En) (nm : ByteArray) : Nat := srch (eLt es nm) es.length
def lIx (ls : List La) (c : Int) : Nat := srch (lLt ls c) ls.length
def eIs (es : List En) (nm : ByteArray) : Bool := decide (eIx es nm < es.length) && (cmpB (eAt es (eIx es nm)).nm nm == 0)
def lIs (ls : List La) (c : Int) : Bool := decide (lIx ls c < ls.length) && (cmpI (lAt ls (lIx ls c)).cl c == 0)
theorem eIs_lt {es : List En} {nm : ByteArray} (h : eIs es nm = true) : eIx es nm < es.length := by simp [eIs] at h; exact h.1
theorem lIs_lt {es : List La} {nm : Int} (h : lIs es nm = true) : lIx es nm < es.length := by simp [lIs] at h; exact h.1
/-- A bucket, an answer, what a command makes. -/
structure Bk where
  up : Int
  es : List En
  ls : List La
structure An where
  er : Int
  e : En
  l : List En
def bkZ : Bk := ⟨0, [], []⟩
def badC (c : Cm) : Bool := decide (c.k < 1) || decide (7 < c.k) || decide (c.cl < 1) || decide (255 < c.cl) || decide (c.op < 1) || decide (1099511627776 < c.op)
def refS (up : Int) (c : Cm) : Int := if badC c then 105 else if decide (1048576 ≤ up) then 4 else 0
def chgE (e : En) (c : Cm) : En := if c.k == 5 then { e with sz := c.sz } else if c.k == 6 then { e with sz := max e.sz c.sz } else if c.k == 7 then ⟨e.nm, c.g0, c.g1, c.sz⟩ else e
def eqF (a b c d : Int) : Bool := a == c && b == d
def chgS (e : En) (c : Cm) : En × An := if eqF e.f0 e.f1 c.f0 c.f1 then (chgE e c, ⟨0, chgE e c, []⟩) else (e, ⟨104, e, []⟩)
def newE (c : Cm) : En := ⟨c.nm, c.cl, c.op, 0⟩
def insL {α : Type} (l : List α) (i : Nat) (x : α) : List α := l.take i ++ (x :: l.drop i)
def delL {α : Type} (l : List α) (i : Nat) : List α := l.take i ++ l.drop (i + 1)
def creS (es : List En) (c : Cm) (room : Int) : List En × An :=
  if eIs es c.nm then (es, ⟨101, eAt es (eIx es c.nm), []⟩) else if decide (room ≤ (es.length : Int)) then (es, ⟨103, enZ, []⟩) else (insL es (eIx es c.nm) (newE c), ⟨0, newE c, []⟩)
def actS (es : List En) (c : Cm) (room : Int) : List En × An :=
  if c.k == 4 then (es, ⟨0, enZ, es⟩) else if c.k == 1 then creS es c room else
  if eIs es c.nm then
    (if c.k == 3 then (es, ⟨0, eAt es (eIx es c.nm), []⟩) else if c.k == 2 then (delL es (eIx es c.nm), ⟨0, eAt es (eIx es c.nm), []⟩) else
      (es.set (eIx es c.nm) (chgS (eAt es (eIx es c.nm)) c).1, (chgS (eAt es (eIx es c.nm)) c).2))
  else (es, ⟨102, enZ, []⟩)
def keepS (ls : List La) (l : La) : List La := if lIs ls l.cl then ls.set (lIx ls l.cl) l else insL ls (lIx ls l.cl) l
def quest (c : Cm) : Bool := c.k == 3 || c.k == 4
def stepS (b : Bk) (c : Cm) (room : Int) : Bk × An :=
  (⟨b.up + 1, (actS b.es c room).1, if quest c then b.ls else keepS b.ls ⟨c.cl, c.op, b.up + 1, (actS b.es c room).2.er, (actS b.es c room).2.e.f0, (actS b.es c room).2.e.f1, (actS b.es c room).2.e.sz⟩⟩, (actS b.es c room).2)
def eqN (a b : ByteArray) : Bool := a.toList == b.toList
def eqE (a b : En) : Bool := eqN a.nm b.nm && (eqF a.f0 a.f1 b.f0 b.f1 && a.sz == b.sz)
def eqL (a b : La) : Bool := a.cl == b.cl && (a.op == b.op && (a.ins == b.ins && (a.er == b.er && (eqF a.f0 a.f1 b.f0 b.f1 && a.sz == b.sz))))
theorem eqN_iff {a b : ByteArray} : eqN a b = true ↔ a = b := by
  unfold eqN
  rw [ByteArray.toList_eq, ByteArray.toList_eq]
  constructor
  · intro h
    cases a; cases b
    simp at h
    simp [h]
  · rintro rfl; simp
theorem eqE_iff {a b : En} : eqE a b = true ↔ a = b := by
  cases a; cases b
  simp [eqE, eqN_iff, eqF, and_assoc]
theorem eqL_iff {a b : La} : eqL a b = true ↔ a = b := by
  cases a; cases b
  simp [eqL, eqF, and_assoc]
/-- The model's equality. -/
def fld (n : String) (t : TypeId) (o : Nat) (b : Nat) : Field := { name := n, type := t, offset := o, embedded := false, tag := "", pkgPath := "", byteOffset := b }
theorem flds27 : (Try.prog.fieldsOf 29).toList = [fld "Client" 3 0 0, fld "Op" 3 1 8] := by kernel_rfl
theorem flds54 : (Try.prog.fieldsOf 34).toList = [fld "Name" 9 0 0, fld "File" 29 1 16, fld "Size" 3 3 32] := by kernel_rfl
theorem flds64 : (Try.prog.fieldsOf 67).toList = [fld "Client" 3 0 0, fld "Op" 3 1 8, fld "Instance" 3 2 16, fld "Err" 32 3 24, fld "File" 29 4 32, fld "Size" 3 6 48] := by kernel_rfl
theorem eqInt (d : Nat) (a b : Int) (w : World) : (Op.equalIn (d + 1) 3 (.int .i64 a) (.int .i64 b)).run Try.prog w = .ok (a == b) w := run_equalIn_int w d 3 .i64 .i64 a b Try.und3
theorem eqInt46 (d : Nat) (a b : Int) (w : World) : (Op.equalIn (d + 1) 32 (.int .i64 a) (.int .i64 b)).run Try.prog w = .ok (a == b) w := run_equalIn_int w d 32 .i64 .i64 a b Try.und46
theorem eq27 (d : Nat) (n c m e : Int) (w : World) : (Op.equalIn (d + 2) 29 (.agg #[.int .i64 n, .int .i64 c]) (.agg #[.int .i64 m, .int .i64 e])).run Try.prog w = .ok (eqF n c m e) w := by
  have h0 : ∀ (a c : Int) (w : World), (part 3 #[.int .i64 a, .int .i64 c] 0).run Try.prog w = .ok (.int .i64 a) w := fun a c w => by kernel_rfl
  have h1 : ∀ (a c : Int) (w : World), (part 3 #[.int .i64 a, .int .i64 c] 1).run Try.prog w = .ok (.int .i64 c) w := fun a c w => by kernel_rfl
  rw [show d + 2 = (d + 1) + 1 from rfl, run_equalIn_struct w (d + 1) 29 _ _ Try.und27 (by kernel_rfl), flds27]
  unfold eqF
  cases h : n == m <;> cases h' : c == e <;> simp [Op.eqFields, fld, h0, h1, eqInt, h, h', Result.andThen]
theorem eq54 (d : Nat) (a b : En) (w : World) : (Op.equalIn (d + 3) 34 (.agg a.cells) (.agg b.cells)).run Try.prog w = .ok (eqE a b) w := by
  have h0 : ∀ (a : En) (w : World), (part 9 a.cells 0).run Try.prog w = .ok (.string a.nm) w := fun a w => by kernel_rfl
  have h1 : ∀ (a : En) (w : World), (part 29 a.cells 1).run Try.prog w = .ok (.agg #[.int .i64 a.f0, .int .i64 a.f1]) w := fun a w => by kernel_rfl
  have h2 : ∀ (a : En) (w : World), (part 3 a.cells 3).run Try.prog w = .ok (.int .i64 a.sz) w := fun a w => by kernel_rfl
  have hI : ∀ (a b : Int) (w : World), (Op.equalIn (d + 2) 3 (.int .i64 a) (.int .i64 b)).run Try.prog w = .ok (a == b) w := eqInt (d + 1)
  have hS : ∀ (a b : ByteArray) (w : World), (Op.equalIn (d + 2) 9 (.string a) (.string b)).run Try.prog w = .ok (eqN a b) w := fun a b w => run_equalIn_string w (d + 1) 9 a b Try.und9
  have hF : ∀ (n c m e : Int) (w : World), (Op.equalIn (d + 2) 29 (.agg #[.int .i64 n, .int .i64 c]) (.agg #[.int .i64 m, .int .i64 e])).run Try.prog w = .ok (eqF n c m e) w := eq27 d
  rw [show d + 3 = (d + 2) + 1 from rfl, run_equalIn_struct w (d + 2) 34 _ _ Try.und54 (by kernel_rfl), flds54]
  unfold eqE
  generalize e1 : eqN a.nm b.nm = q1
  generalize e2 : eqF a.f0 a.f1 b.f0 b.f1 = q2
  generalize e3 : (a.sz == b.sz) = q3
  cases q1
  · simp [Op.eqFields, fld, h0, hS, e1, Result.andThen]
  cases q2
  · simp [Op.eqFields, fld, h0, h1, hS, hF, e1, e2, Result.andThen]
  cases q3
  · simp [Op.eqFields, fld, h0, h1, h2, hI, hS, hF, e1, e2, e3, Result.andThen]
  · simp [Op.eqFields, fld, h0, h1, h2, hI, hS, hF, e1, e2, e3, Result.andThen]
theorem eq64 (d : Nat) (a b : La) (w : World) : (Op.equalIn (d + 3) 67 (.agg a.cells) (.agg b.cells)).run Try.prog w = .ok (eqL a b) w := by
  have h0 : ∀ (a : La) (w : World), (part 3 a.cells 0).run Try.prog w = .ok (.int .i64 a.cl) w := fun a w => by kernel_rfl
  have h1 : ∀ (a : La) (w : World), (part 3 a.cells 1).run Try.prog w = .ok (.int .i64 a.op) w := fun a w => by kernel_rfl
  have h2 : ∀ (a : La) (w : World), (part 3 a.cells 2).run Try.prog w = .ok (.int .i64 a.ins) w := fun a w => by kernel_rfl
  have h3 : ∀ (a : La) (w : World), (part 32 a.cells 3).run Try.prog w = .ok (.int .i64 a.er) w := fun a w => by kernel_rfl
  have h4 : ∀ (a : La) (w : World), (part 29 a.cells 4).run Try.prog w = .ok (.agg #[.int .i64 a.f0, .int .i64 a.f1]) w := fun a w => by kernel_rfl
  have h5 : ∀ (a : La) (w : World), (part 3 a.cells 6).run Try.prog w = .ok (.int .i64 a.sz) w := fun a w => by kernel_rfl
  have hI : ∀ (a b : Int) (w : World), (Op.equalIn (d + 2) 3 (.int .i64 a) (.int .i64 b)).run Try.prog w = .ok (a == b) w := eqInt (d + 1)
  have hJ : ∀ (a b : Int) (w : World), (Op.equalIn (d + 2) 32 (.int .i64 a) (.int .i64 b)).run Try.prog w = .ok (a == b) w := eqInt46 (d + 1)
  have hF : ∀ (n c m e : Int) (w : World), (Op.equalIn (d + 2) 29 (.agg #[.int .i64 n, .int .i64 c]) (.agg #[.int .i64 m, .int .i64 e])).run Try.prog w = .ok (eqF n c m e) w := eq27 d
  rw [show d + 3 = (d + 2) + 1 from rfl, run_equalIn_struct w (d + 2) 67 _ _ Try.und64 (by kernel_rfl), flds64]
  unfold eqL
  generalize e1 : (a.cl == b.cl) = q1
  generalize e2 : (a.op == b.op) = q2
  generalize e3 : (a.ins == b.ins) = q3
  generalize e4 : (a.er == b.er) = q4
  generalize e5 : eqF a.f0 a.f1 b.f0 b.f1 = q5
  generalize e6 : (a.sz == b.sz) = q6
  cases q1
  · simp [Op.eqFields, fld, h0, hI, e1, Result.andThen]
  cases q2
  · simp [Op.eqFields, fld, h0, h1, hI, e1, e2, Result.andThen]
  cases q3
  · simp [Op.eqFields, fld, h0, h1, h2, hI, e1, e2, e3, Result.andThen]
  cases q4
  · simp [Op.eqFields, fld, h0, h1, h2, h3, hI, hJ, e1, e2, e3, e4, Result.andThen]
  cases q5
  · simp [Op.eqFields, fld, h0, h1, h2, h3, h4, hI, hJ, hF, e1, e2, e3, e4, e5, Result.andThen]
  cases q6
  · simp [Op.eqFields, fld, h0, h1, h2, h3, h4, h5, hI, hJ, hF, e1, e2, e3, e4, e5, e6, Result.andThen]
  · simp [Op.eqFields, fld, h0, h1, h2, h3, h4, h5, hI, hJ, hF, e1, e2, e3, e4, e5, e6, Result.andThen]
theorem b_eql (a b : Int) (w : World) : (binOp .eql 3 (.int .i64 a) (.int .i64 b)).run Try.prog w = .ok (.bool (a == b)) w := by
  kernel_rfl
theorem b_neq (a b : Int) (w : World) : (binOp .neq 3 (.int .i64 a) (.int .i64 b)).run Try.prog w = .ok (.bool (!(a == b))) w := by
  kernel_rfl
theorem b_neq46 (a b : Int) (w : World) : (binOp .neq 32 (.int .i64 a) (.int .i64 b)).run Try.prog w = .ok (.bool (!(a == b))) w := by
  kernel_rfl
theorem eqF_eql (a b c d : Int) (w : World) : (binOp .eql 29 (.agg #[.int .i64 a, .int .i64 b]) (.agg #[.int .i64 c, .int .i64 d])).run Try.prog w = .ok (.bool (eqF a b c d)) w := by
  rw [run_eql_struct, eq27 9998]; rfl
theorem eqF_neq (a b c d : Int) (w : World) : (binOp .neq 29 (.agg #[.int .i64 a, .int .i64 b]) (.agg #[.int .i64 c, .int .i64 d])).run Try.prog w = .ok (.bool (!eqF a b c d)) w := by
  rw [run_neq_struct, eq27 9998]; rfl
theorem eqE_eql (a b : En) (w : World) : (binOp .eql 34 (.agg a.cells) (.agg b.cells)).run Try.prog w = .ok (.bool (eqE a b)) w := by
  rw [run_eql_struct, eq54 9997]; rfl
theorem eqE_neq (a b : En) (w : World) : (binOp .neq 34 (.agg a.cells) (.agg b.cells)).run Try.prog w = .ok (.bool (!eqE a b)) w := by
  rw [run_neq_struct, eq54 9997]; rfl
theorem eqL_neq (a b : La) (w : World) : (binOp .neq 67 (.agg a.cells) (.agg b.cells)).run Try.prog w = .ok (.bool (!eqL a b)) w := by
  rw [run_neq_struct, eq64 9997]; rfl
theorem eqN_neq (a b : ByteArray) (w : World) : (binOp .neq 9 (.string a) (.string b)).run Try.prog w = .ok (.bool (!eqN a b)) w := by
  kernel_rfl

end Go.Proofs.Ytfemlnfknebalab
