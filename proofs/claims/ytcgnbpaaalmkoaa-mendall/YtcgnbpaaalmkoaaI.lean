import Derived.Test.YtcgnbpaaalmkoaaH
namespace Go.Proofs.Ytcgnbpaaalmkoaa
open Go.RowKit
set_option linter.unusedVariables false
set_option linter.unusedSimpArgs false

theorem eqBool (d : Nat) (a b : Bool) (w : World) : (Op.equalIn (d + 1) 4 (.bool a) (.bool b)).run Try.prog w = .ok (a == b) w := run_equalIn_bool w d 4 a b Try.und4
def eqS (a b : Sp) : Bool := (a.n == b.n) && ((a.c == b.c))
theorem flds25 : (Try.prog.fieldsOf 25).toList = [fld "N" 3 0 0, fld "Client" 3 1 8] := by kernel_rfl
theorem eq25 (d : Nat) (a b : Sp) (w : World) : (Op.equalIn (d + 2) 25 (.agg a.cells) (.agg b.cells)).run Try.prog w = .ok (eqS a b) w := by
 have h0 : ∀ (a : Sp) (w : World), (part 3 a.cells 0).run Try.prog w = .ok (.int .i64 a.n) w := fun a w => by kernel_rfl
 have h1 : ∀ (a : Sp) (w : World), (part 3 a.cells 1).run Try.prog w = .ok (.int .i64 a.c) w := fun a w => by kernel_rfl
 have g3 : ∀ (a b : Int) (w : World), (Op.equalIn (d + 1) 3 (.int .i64 a) (.int .i64 b)).run Try.prog w = .ok (a == b) w := eqInt d
 rw [show d + 2 = (d + 1) + 1 from rfl, run_equalIn_struct w (d + 1) 25 _ _ Try.und25 (by kernel_rfl), flds25]
 unfold eqS
 generalize e0 : (a.n == b.n) = q0
 generalize e1 : (a.c == b.c) = q1
 cases q0
 · simp [Op.eqFields, fld, h0, h1, g3, e0, Result.andThen]
 cases q1
 · simp [Op.eqFields, fld, h0, h1, g3, e0, e1, Result.andThen]
 · simp [Op.eqFields, fld, h0, h1, g3, e0, e1, Result.andThen]
theorem eqS_eql (a b : Sp) (w : World) : (binOp .eql 25 (.agg a.cells) (.agg b.cells)).run Try.prog w = .ok (.bool (eqS a b)) w := by
 rw [run_eql_struct, eq25 9998]; rfl
theorem eqS_neq (a b : Sp) (w : World) : (binOp .neq 25 (.agg a.cells) (.agg b.cells)).run Try.prog w = .ok (.bool (!eqS a b)) w := by
 rw [run_neq_struct, eq25 9998]; rfl
theorem eqS_iff {a b : Sp} : eqS a b = true ↔ a = b := by
 obtain ⟨a1, a2⟩ := a
 obtain ⟨b1, b2⟩ := b
 simp [eqS, and_assoc]
theorem eqS_refl (a : Sp) : eqS a a = true := eqS_iff.2 rfl
def eqC (a b : Cm) : Bool := (a.k == b.k) && ((a.cl == b.cl) && ((a.op == b.op) && (eqN a.nm b.nm && (eqF a.f0 a.f1 b.f0 b.f1 && (eqF a.g0 a.g1 b.g0 b.g1 && ((a.sz == b.sz)))))))
theorem flds47 : (Try.prog.fieldsOf 47).toList = [fld "Kind" 3 0 0, fld "Client" 3 1 8, fld "Op" 3 2 16, fld "Name" 9 3 24, fld "File" 45 4 40, fld "New" 45 6 56, fld "Size" 3 8 72] := by kernel_rfl
theorem eq47 (d : Nat) (a b : Cm) (w : World) : (Op.equalIn (d + 3) 47 (.agg a.cells) (.agg b.cells)).run Try.prog w = .ok (eqC a b) w := by
 have h0 : ∀ (a : Cm) (w : World), (part 3 a.cells 0).run Try.prog w = .ok (.int .i64 a.k) w := fun a w => by kernel_rfl
 have h1 : ∀ (a : Cm) (w : World), (part 3 a.cells 1).run Try.prog w = .ok (.int .i64 a.cl) w := fun a w => by kernel_rfl
 have h2 : ∀ (a : Cm) (w : World), (part 3 a.cells 2).run Try.prog w = .ok (.int .i64 a.op) w := fun a w => by kernel_rfl
 have h3 : ∀ (a : Cm) (w : World), (part 9 a.cells 3).run Try.prog w = .ok (.string a.nm) w := fun a w => by kernel_rfl
 have h4 : ∀ (a : Cm) (w : World), (part 45 a.cells 4).run Try.prog w = .ok (.agg #[.int .i64 a.f0, .int .i64 a.f1]) w := fun a w => by kernel_rfl
 have h5 : ∀ (a : Cm) (w : World), (part 45 a.cells 6).run Try.prog w = .ok (.agg #[.int .i64 a.g0, .int .i64 a.g1]) w := fun a w => by kernel_rfl
 have h6 : ∀ (a : Cm) (w : World), (part 3 a.cells 8).run Try.prog w = .ok (.int .i64 a.sz) w := fun a w => by kernel_rfl
 have g3 : ∀ (a b : Int) (w : World), (Op.equalIn (d + 2) 3 (.int .i64 a) (.int .i64 b)).run Try.prog w = .ok (a == b) w := eqInt (d + 1)
 have g9 : ∀ (a b : ByteArray) (w : World), (Op.equalIn (d + 2) 9 (.string a) (.string b)).run Try.prog w = .ok (eqN a b) w := fun a b w => run_equalIn_string w (d + 1) 9 a b Try.und9
 have g45 : ∀ (n c m e : Int) (w : World), (Op.equalIn (d + 2) 45 (.agg #[.int .i64 n, .int .i64 c]) (.agg #[.int .i64 m, .int .i64 e])).run Try.prog w = .ok (eqF n c m e) w := eq45 d
 rw [show d + 3 = (d + 2) + 1 from rfl, run_equalIn_struct w (d + 2) 47 _ _ Try.und47 (by kernel_rfl), flds47]
 unfold eqC
 generalize e0 : (a.k == b.k) = q0
 generalize e1 : (a.cl == b.cl) = q1
 generalize e2 : (a.op == b.op) = q2
 generalize e3 : eqN a.nm b.nm = q3
 generalize e4 : eqF a.f0 a.f1 b.f0 b.f1 = q4
 generalize e5 : eqF a.g0 a.g1 b.g0 b.g1 = q5
 generalize e6 : (a.sz == b.sz) = q6
 cases q0
 · simp [Op.eqFields, fld, h0, h1, h2, h3, h4, h5, h6, g3, g9, g45, e0, Result.andThen]
 cases q1
 · simp [Op.eqFields, fld, h0, h1, h2, h3, h4, h5, h6, g3, g9, g45, e0, e1, Result.andThen]
 cases q2
 · simp [Op.eqFields, fld, h0, h1, h2, h3, h4, h5, h6, g3, g9, g45, e0, e1, e2, Result.andThen]
 cases q3
 · simp [Op.eqFields, fld, h0, h1, h2, h3, h4, h5, h6, g3, g9, g45, e0, e1, e2, e3, Result.andThen]
 cases q4
 · simp [Op.eqFields, fld, h0, h1, h2, h3, h4, h5, h6, g3, g9, g45, e0, e1, e2, e3, e4, Result.andThen]
 cases q5
 · simp [Op.eqFields, fld, h0, h1, h2, h3, h4, h5, h6, g3, g9, g45, e0, e1, e2, e3, e4, e5, Result.andThen]
 cases q6
 · simp [Op.eqFields, fld, h0, h1, h2, h3, h4, h5, h6, g3, g9, g45, e0, e1, e2, e3, e4, e5, e6, Result.andThen]
 · simp [Op.eqFields, fld, h0, h1, h2, h3, h4, h5, h6, g3, g9, g45, e0, e1, e2, e3, e4, e5, e6, Result.andThen]
theorem eqC_eql (a b : Cm) (w : World) : (binOp .eql 47 (.agg a.cells) (.agg b.cells)).run Try.prog w = .ok (.bool (eqC a b)) w := by
 rw [run_eql_struct, eq47 9997]; rfl
theorem eqC_neq (a b : Cm) (w : World) : (binOp .neq 47 (.agg a.cells) (.agg b.cells)).run Try.prog w = .ok (.bool (!eqC a b)) w := by
 rw [run_neq_struct, eq47 9997]; rfl
theorem eqC_iff {a b : Cm} : eqC a b = true ↔ a = b := by
 obtain ⟨a1, a2, a3, a4, a5, a6, a7, a8, a9⟩ := a
 obtain ⟨b1, b2, b3, b4, b5, b6, b7, b8, b9⟩ := b
 simp [eqC, eqN_iff, eqF, and_assoc]
theorem eqC_refl (a : Cm) : eqC a a = true := eqC_iff.2 rfl
def eqI (a b : In) : Bool := eqS a.p b.p && (eqS a.a b.a && (eqC a.c b.c && ((a.d == b.d))))
theorem flds70 : (Try.prog.fieldsOf 70).toList = [fld "Promised" 25 0 0, fld "Accepted" 25 2 16, fld "Command" 47 4 32, fld "Decided" 4 13 112] := by kernel_rfl
theorem eq70 (d : Nat) (a b : In) (w : World) : (Op.equalIn (d + 4) 70 (.agg a.cells) (.agg b.cells)).run Try.prog w = .ok (eqI a b) w := by
 have h0 : ∀ (a : In) (w : World), (part 25 a.cells 0).run Try.prog w = .ok (.agg a.p.cells) w := fun a w => by kernel_rfl
 have h1 : ∀ (a : In) (w : World), (part 25 a.cells 2).run Try.prog w = .ok (.agg a.a.cells) w := fun a w => by kernel_rfl
 have h2 : ∀ (a : In) (w : World), (part 47 a.cells 4).run Try.prog w = .ok (.agg a.c.cells) w := fun a w => by kernel_rfl
 have h3 : ∀ (a : In) (w : World), (part 4 a.cells 13).run Try.prog w = .ok (.bool a.d) w := fun a w => by kernel_rfl
 have g4 : ∀ (a b : Bool) (w : World), (Op.equalIn (d + 3) 4 (.bool a) (.bool b)).run Try.prog w = .ok (a == b) w := eqBool (d + 2)
 have g25 : ∀ (a b : Sp) (w : World), (Op.equalIn (d + 3) 25 (.agg a.cells) (.agg b.cells)).run Try.prog w = .ok (eqS a b) w := eq25 (d + 1)
 have g47 : ∀ (a b : Cm) (w : World), (Op.equalIn (d + 3) 47 (.agg a.cells) (.agg b.cells)).run Try.prog w = .ok (eqC a b) w := eq47 d
 rw [show d + 4 = (d + 3) + 1 from rfl, run_equalIn_struct w (d + 3) 70 _ _ Try.und70 (by kernel_rfl), flds70]
 unfold eqI
 generalize e0 : eqS a.p b.p = q0
 generalize e1 : eqS a.a b.a = q1
 generalize e2 : eqC a.c b.c = q2
 generalize e3 : (a.d == b.d) = q3
 cases q0
 · simp [Op.eqFields, fld, h0, h1, h2, h3, g4, g25, g47, e0, Result.andThen]
 cases q1
 · simp [Op.eqFields, fld, h0, h1, h2, h3, g4, g25, g47, e0, e1, Result.andThen]
 cases q2
 · simp [Op.eqFields, fld, h0, h1, h2, h3, g4, g25, g47, e0, e1, e2, Result.andThen]
 cases q3
 · simp [Op.eqFields, fld, h0, h1, h2, h3, g4, g25, g47, e0, e1, e2, e3, Result.andThen]
 · simp [Op.eqFields, fld, h0, h1, h2, h3, g4, g25, g47, e0, e1, e2, e3, Result.andThen]
theorem eqI_eql (a b : In) (w : World) : (binOp .eql 70 (.agg a.cells) (.agg b.cells)).run Try.prog w = .ok (.bool (eqI a b)) w := by
 rw [run_eql_struct, eq70 9996]; rfl
theorem eqI_neq (a b : In) (w : World) : (binOp .neq 70 (.agg a.cells) (.agg b.cells)).run Try.prog w = .ok (.bool (!eqI a b)) w := by
 rw [run_neq_struct, eq70 9996]; rfl
theorem eqI_iff {a b : In} : eqI a b = true ↔ a = b := by
 obtain ⟨a1, a2, a3, a4⟩ := a
 obtain ⟨b1, b2, b3, b4⟩ := b
 simp [eqI, eqS_iff, eqC_iff, and_assoc]
theorem eqI_refl (a : In) : eqI a a = true := eqI_iff.2 rfl
theorem eqE_refl (a : En) : eqE a a = true := eqE_iff.2 rfl
theorem eqL_refl (a : La) : eqL a a = true := eqL_iff.2 rfl
theorem exec_alloc1 {o : Oper} {a : Act} {w : World} (t : TypeId) (ho : o.op = .alloc t) (v : Value) (hv : v.cells = #[v]) (hz : (Try.prog.info? t).bind (·.zero) = some v) : (execOp a.eval o).run Try.prog w = .ok (.value (.pointer (some ⟨w.heap.size, 0, none⟩))) (w.alloc (.cells #[v] t)) := by
 simp only [execOp, ho, Instr.alloc, Sem.run_bind, zero_of hz, Result.andThen_ok, newVar, newRow, run_newObj_alloc, Sem.run_pure, hv]
theorem exec_box1 {o : Oper} {a : Act} {w : World} (t : TypeId) (x : Operand) (ho : o.op = .box t x) (v : Value) (hx : a.eval x = v) (hv : v.cells = #[v]) : (execOp a.eval o).run Try.prog w = .ok (.value (.pointer (some ⟨w.heap.size, 0, none⟩))) (w.alloc (.cells #[v] t)) := by
 simp only [execOp, ho, hx, Instr.box, Sem.run_bind, Result.andThen_ok, newVar, newRow, run_newObj_alloc, Sem.run_pure, hv]
theorem Fr.front {S : Nat → Prop} {w0 w : World} {l m : List (Nat × TypeId × Array Value)} (h : Fr S w0 w (l ++ m)) : Fr S w0 w l :=
 ⟨h.kept, fun i g T cs hi => h.box i g T cs (List.getElem?_append_left (List.getElem?_eq_some_iff.1 hi).1 ▸ hi), fun i g T cs hi => h.low i g T cs (List.getElem?_append_left (List.getElem?_eq_some_iff.1 hi).1 ▸ hi),
  fun i j g T cs T' cs' hi hj => h.inj i j g T cs T' cs' (List.getElem?_append_left (List.getElem?_eq_some_iff.1 hi).1 ▸ hi) (List.getElem?_append_left (List.getElem?_eq_some_iff.1 hj).1 ▸ hj)⟩

end Go.Proofs.Ytcgnbpaaalmkoaa
