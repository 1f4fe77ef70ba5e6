import Derived.Test.YtcgnbpaaalmkoabH
namespace Go.Proofs.Ytcgnbpaaalmkoab
open Go.RowKit
set_option linter.unusedVariables false
set_option linter.unusedSimpArgs false

theorem eqBool (d : Nat) (a b : Bool) (w : World) : (Op.equalIn (d + 1) 4 (.bool a) (.bool b)).run Try.prog w = .ok (a == b) w := run_equalIn_bool w d 4 a b Try.und4
theorem b_neqB (a b : Bool) (w : World) : (binOp .neq 4 (.bool a) (.bool b)).run Try.prog w = .ok (.bool (!(a == b))) w := by kernel_rfl
def eqK (a b : Ky) : Bool := (a.k == b.k) && ((a.a == b.a) && ((a.b == b.b) && ((a.c == b.c))))
theorem flds23 : (Try.prog.fieldsOf 39).toList = [fld "Kind" 3 0 0, fld "A" 3 1 8, fld "B" 3 2 16, fld "C" 3 3 24] := by kernel_rfl
theorem eq23 (d : Nat) (a b : Ky) (w : World) : (Op.equalIn (d + 2) 39 (.agg a.cells) (.agg b.cells)).run Try.prog w = .ok (eqK a b) w := by
  have h0 : ∀ (a : Ky) (w : World), (part 3 a.cells 0).run Try.prog w = .ok (.int .i64 a.k) w := fun a w => by kernel_rfl
  have h1 : ∀ (a : Ky) (w : World), (part 3 a.cells 1).run Try.prog w = .ok (.int .i64 a.a) w := fun a w => by kernel_rfl
  have h2 : ∀ (a : Ky) (w : World), (part 3 a.cells 2).run Try.prog w = .ok (.int .i64 a.b) w := fun a w => by kernel_rfl
  have h3 : ∀ (a : Ky) (w : World), (part 3 a.cells 3).run Try.prog w = .ok (.int .i64 a.c) w := fun a w => by kernel_rfl
  have g3 : ∀ (a b : Int) (w : World), (Op.equalIn (d + 1) 3 (.int .i64 a) (.int .i64 b)).run Try.prog w = .ok (a == b) w := eqInt d
  rw [show d + 2 = (d + 1) + 1 from rfl, run_equalIn_struct w (d + 1) 39 _ _ Try.und23 (by kernel_rfl), flds23]
  unfold eqK
  generalize e0 : (a.k == b.k) = q0
  generalize e1 : (a.a == b.a) = q1
  generalize e2 : (a.b == b.b) = q2
  generalize e3 : (a.c == b.c) = q3
  cases q0
  · simp [Op.eqFields, fld, h0, h1, h2, h3, g3, e0, Result.andThen]
  cases q1
  · simp [Op.eqFields, fld, h0, h1, h2, h3, g3, e0, e1, Result.andThen]
  cases q2
  · simp [Op.eqFields, fld, h0, h1, h2, h3, g3, e0, e1, e2, Result.andThen]
  cases q3
  · simp [Op.eqFields, fld, h0, h1, h2, h3, g3, e0, e1, e2, e3, Result.andThen]
  · simp [Op.eqFields, fld, h0, h1, h2, h3, g3, e0, e1, e2, e3, Result.andThen]
theorem eqK_neq (a b : Ky) (w : World) : (binOp .neq 39 (.agg a.cells) (.agg b.cells)).run Try.prog w = .ok (.bool (!eqK a b)) w := by
  rw [run_neq_struct, eq23 9998]; rfl
theorem eqK_iff {a b : Ky} : eqK a b = true ↔ a = b := by
  obtain ⟨a1, a2, a3, a4⟩ := a
  obtain ⟨b1, b2, b3, b4⟩ := b
  simp [eqK, and_assoc]
theorem eqK_refl (a : Ky) : eqK a a = true := eqK_iff.2 rfl
def eqS (a b : Sp) : Bool := (a.n == b.n) && ((a.c == b.c))
theorem flds25 : (Try.prog.fieldsOf 23).toList = [fld "N" 3 0 0, fld "Client" 3 1 8] := by kernel_rfl
theorem eq25 (d : Nat) (a b : Sp) (w : World) : (Op.equalIn (d + 2) 23 (.agg a.cells) (.agg b.cells)).run Try.prog w = .ok (eqS a b) w := by
  have h0 : ∀ (a : Sp) (w : World), (part 3 a.cells 0).run Try.prog w = .ok (.int .i64 a.n) w := fun a w => by kernel_rfl
  have h1 : ∀ (a : Sp) (w : World), (part 3 a.cells 1).run Try.prog w = .ok (.int .i64 a.c) w := fun a w => by kernel_rfl
  have g3 : ∀ (a b : Int) (w : World), (Op.equalIn (d + 1) 3 (.int .i64 a) (.int .i64 b)).run Try.prog w = .ok (a == b) w := eqInt d
  rw [show d + 2 = (d + 1) + 1 from rfl, run_equalIn_struct w (d + 1) 23 _ _ Try.und25 (by kernel_rfl), flds25]
  unfold eqS
  generalize e0 : (a.n == b.n) = q0
  generalize e1 : (a.c == b.c) = q1
  cases q0
  · simp [Op.eqFields, fld, h0, h1, g3, e0, Result.andThen]
  cases q1
  · simp [Op.eqFields, fld, h0, h1, g3, e0, e1, Result.andThen]
  · simp [Op.eqFields, fld, h0, h1, g3, e0, e1, Result.andThen]
theorem eqS_eql (a b : Sp) (w : World) : (binOp .eql 23 (.agg a.cells) (.agg b.cells)).run Try.prog w = .ok (.bool (eqS a b)) w := by
  rw [run_eql_struct, eq25 9998]; rfl
theorem eqS_neq (a b : Sp) (w : World) : (binOp .neq 23 (.agg a.cells) (.agg b.cells)).run Try.prog w = .ok (.bool (!eqS a b)) w := by
  rw [run_neq_struct, eq25 9998]; rfl
theorem eqS_iff {a b : Sp} : eqS a b = true ↔ a = b := by
  obtain ⟨a1, a2⟩ := a
  obtain ⟨b1, b2⟩ := b
  simp [eqS, and_assoc]
theorem eqS_refl (a : Sp) : eqS a a = true := eqS_iff.2 rfl
def eqA (a b : Ad) : Bool := (a.cl == b.cl) && ((a.id == b.id))
theorem flds43 : (Try.prog.fieldsOf 37).toList = [fld "Client" 4 0 0, fld "Id" 3 1 8] := by kernel_rfl
theorem eq43 (d : Nat) (a b : Ad) (w : World) : (Op.equalIn (d + 2) 37 (.agg a.cells) (.agg b.cells)).run Try.prog w = .ok (eqA a b) w := by
  have h0 : ∀ (a : Ad) (w : World), (part 4 a.cells 0).run Try.prog w = .ok (.bool a.cl) w := fun a w => by kernel_rfl
  have h1 : ∀ (a : Ad) (w : World), (part 3 a.cells 1).run Try.prog w = .ok (.int .i64 a.id) w := fun a w => by kernel_rfl
  have g3 : ∀ (a b : Int) (w : World), (Op.equalIn (d + 1) 3 (.int .i64 a) (.int .i64 b)).run Try.prog w = .ok (a == b) w := eqInt d
  have g4 : ∀ (a b : Bool) (w : World), (Op.equalIn (d + 1) 4 (.bool a) (.bool b)).run Try.prog w = .ok (a == b) w := eqBool d
  rw [show d + 2 = (d + 1) + 1 from rfl, run_equalIn_struct w (d + 1) 37 _ _ Try.und43 (by kernel_rfl), flds43]
  unfold eqA
  generalize e0 : (a.cl == b.cl) = q0
  generalize e1 : (a.id == b.id) = q1
  cases q0
  · simp [Op.eqFields, fld, h0, h1, g3, g4, e0, Result.andThen]
  cases q1
  · simp [Op.eqFields, fld, h0, h1, g3, g4, e0, e1, Result.andThen]
  · simp [Op.eqFields, fld, h0, h1, g3, g4, e0, e1, Result.andThen]
theorem eqA_neq (a b : Ad) (w : World) : (binOp .neq 37 (.agg a.cells) (.agg b.cells)).run Try.prog w = .ok (.bool (!eqA a b)) w := by
  rw [run_neq_struct, eq43 9998]; rfl
theorem eqA_iff {a b : Ad} : eqA a b = true ↔ a = b := by
  obtain ⟨a1, a2⟩ := a
  obtain ⟨b1, b2⟩ := b
  simp [eqA, and_assoc]
theorem eqA_refl (a : Ad) : eqA a a = true := eqA_iff.2 rfl
def eqC (a b : Cm) : Bool := (a.k == b.k) && ((a.cl == b.cl) && ((a.op == b.op) && (eqN a.nm b.nm && (eqF a.f0 a.f1 b.f0 b.f1 && (eqF a.g0 a.g1 b.g0 b.g1 && ((a.sz == b.sz)))))))
theorem flds47 : (Try.prog.fieldsOf 43).toList = [fld "Kind" 3 0 0, fld "Client" 3 1 8, fld "Op" 3 2 16, fld "Name" 9 3 24, fld "File" 41 4 40, fld "New" 41 6 56, fld "Size" 3 8 72] := by kernel_rfl
theorem eq47 (d : Nat) (a b : Cm) (w : World) : (Op.equalIn (d + 3) 43 (.agg a.cells) (.agg b.cells)).run Try.prog w = .ok (eqC a b) w := by
  have h0 : ∀ (a : Cm) (w : World), (part 3 a.cells 0).run Try.prog w = .ok (.int .i64 a.k) w := fun a w => by kernel_rfl
  have h1 : ∀ (a : Cm) (w : World), (part 3 a.cells 1).run Try.prog w = .ok (.int .i64 a.cl) w := fun a w => by kernel_rfl
  have h2 : ∀ (a : Cm) (w : World), (part 3 a.cells 2).run Try.prog w = .ok (.int .i64 a.op) w := fun a w => by kernel_rfl
  have h3 : ∀ (a : Cm) (w : World), (part 9 a.cells 3).run Try.prog w = .ok (.string a.nm) w := fun a w => by kernel_rfl
  have h4 : ∀ (a : Cm) (w : World), (part 41 a.cells 4).run Try.prog w = .ok (.agg #[.int .i64 a.f0, .int .i64 a.f1]) w := fun a w => by kernel_rfl
  have h5 : ∀ (a : Cm) (w : World), (part 41 a.cells 6).run Try.prog w = .ok (.agg #[.int .i64 a.g0, .int .i64 a.g1]) w := fun a w => by kernel_rfl
  have h6 : ∀ (a : Cm) (w : World), (part 3 a.cells 8).run Try.prog w = .ok (.int .i64 a.sz) w := fun a w => by kernel_rfl
  have g3 : ∀ (a b : Int) (w : World), (Op.equalIn (d + 2) 3 (.int .i64 a) (.int .i64 b)).run Try.prog w = .ok (a == b) w := eqInt (d + 1)
  have g9 : ∀ (a b : ByteArray) (w : World), (Op.equalIn (d + 2) 9 (.string a) (.string b)).run Try.prog w = .ok (eqN a b) w := fun a b w => run_equalIn_string w (d + 1) 9 a b Try.und9
  have g45 : ∀ (n c m e : Int) (w : World), (Op.equalIn (d + 2) 41 (.agg #[.int .i64 n, .int .i64 c]) (.agg #[.int .i64 m, .int .i64 e])).run Try.prog w = .ok (eqF n c m e) w := eq45 d
  rw [show d + 3 = (d + 2) + 1 from rfl, run_equalIn_struct w (d + 2) 43 _ _ Try.und47 (by kernel_rfl), flds47]
  unfold eqC
  generalize e0 : (a.k == b.k) = q0
  generalize e1 : (a.cl == b.cl) = q1
  generalize e2 : (a.op == b.op) = q2
  generalize e3 : eqN a.nm b.nm = q3
  generalize e4 : eqF a.f0 a.f1 b.f0 b.f1 = q4
  generalize e5 : eqF a.g0 a.g1 b.g0 b.g1 = q5
  generalize e6 : (a.sz == b.sz) = q6
  cases q0
  · simp [Op.eqFields, fld, h0, h1, h2, h3, h4, h5, h6, g3, g9, g45, e0, Result.andThen]
  cases q1
  · simp [Op.eqFields, fld, h0, h1, h2, h3, h4, h5, h6, g3, g9, g45, e0, e1, Result.andThen]
  cases q2
  · simp [Op.eqFields, fld, h0, h1, h2, h3, h4, h5, h6, g3, g9, g45, e0, e1, e2, Result.andThen]
  cases q3
  · simp [Op.eqFields, fld, h0, h1, h2, h3, h4, h5, h6, g3, g9, g45, e0, e1, e2, e3, Result.andThen]
  cases q4
  · simp [Op.eqFields, fld, h0, h1, h2, h3, h4, h5, h6, g3, g9, g45, e0, e1, e2, e3, e4, Result.andThen]
  cases q5
  · simp [Op.eqFields, fld, h0, h1, h2, h3, h4, h5, h6, g3, g9, g45, e0, e1, e2, e3, e4, e5, Result.andThen]
  cases q6
  · simp [Op.eqFields, fld, h0, h1, h2, h3, h4, h5, h6, g3, g9, g45, e0, e1, e2, e3, e4, e5, e6, Result.andThen]
  · simp [Op.eqFields, fld, h0, h1, h2, h3, h4, h5, h6, g3, g9, g45, e0, e1, e2, e3, e4, e5, e6, Result.andThen]
theorem eqC_eql (a b : Cm) (w : World) : (binOp .eql 43 (.agg a.cells) (.agg b.cells)).run Try.prog w = .ok (.bool (eqC a b)) w := by
  rw [run_eql_struct, eq47 9997]; rfl
theorem eqC_neq (a b : Cm) (w : World) : (binOp .neq 43 (.agg a.cells) (.agg b.cells)).run Try.prog w = .ok (.bool (!eqC a b)) w := by
  rw [run_neq_struct, eq47 9997]; rfl
theorem eqC_iff {a b : Cm} : eqC a b = true ↔ a = b := by
  obtain ⟨a1, a2, a3, a4, a5, a6, a7, a8, a9⟩ := a
  obtain ⟨b1, b2, b3, b4, b5, b6, b7, b8, b9⟩ := b
  simp [eqC, eqN_iff, eqF, and_assoc]
theorem eqC_refl (a : Cm) : eqC a a = true := eqC_iff.2 rfl
def eqI (a b : In) : Bool := eqS a.p b.p && (eqS a.a b.a && (eqC a.c b.c && ((a.d == b.d))))
theorem flds70 : (Try.prog.fieldsOf 65).toList = [fld "Promised" 23 0 0, fld "Accepted" 23 2 16, fld "Command" 43 4 32, fld "Decided" 4 13 112] := by kernel_rfl
theorem eq70 (d : Nat) (a b : In) (w : World) : (Op.equalIn (d + 4) 65 (.agg a.cells) (.agg b.cells)).run Try.prog w = .ok (eqI a b) w := by
  have h0 : ∀ (a : In) (w : World), (part 23 a.cells 0).run Try.prog w = .ok (.agg a.p.cells) w := fun a w => by kernel_rfl
  have h1 : ∀ (a : In) (w : World), (part 23 a.cells 2).run Try.prog w = .ok (.agg a.a.cells) w := fun a w => by kernel_rfl
  have h2 : ∀ (a : In) (w : World), (part 43 a.cells 4).run Try.prog w = .ok (.agg a.c.cells) w := fun a w => by kernel_rfl
  have h3 : ∀ (a : In) (w : World), (part 4 a.cells 13).run Try.prog w = .ok (.bool a.d) w := fun a w => by kernel_rfl
  have g4 : ∀ (a b : Bool) (w : World), (Op.equalIn (d + 3) 4 (.bool a) (.bool b)).run Try.prog w = .ok (a == b) w := eqBool (d + 2)
  have g25 : ∀ (a b : Sp) (w : World), (Op.equalIn (d + 3) 23 (.agg a.cells) (.agg b.cells)).run Try.prog w = .ok (eqS a b) w := eq25 (d + 1)
  have g47 : ∀ (a b : Cm) (w : World), (Op.equalIn (d + 3) 43 (.agg a.cells) (.agg b.cells)).run Try.prog w = .ok (eqC a b) w := eq47 d
  rw [show d + 4 = (d + 3) + 1 from rfl, run_equalIn_struct w (d + 3) 65 _ _ Try.und70 (by kernel_rfl), flds70]
  unfold eqI
  generalize e0 : eqS a.p b.p = q0
  generalize e1 : eqS a.a b.a = q1
  generalize e2 : eqC a.c b.c = q2
  generalize e3 : (a.d == b.d) = q3
  cases q0
  · simp [Op.eqFields, fld, h0, h1, h2, h3, g4, g25, g47, e0, Result.andThen]
  cases q1
  · simp [Op.eqFields, fld, h0, h1, h2, h3, g4, g25, g47, e0, e1, Result.andThen]
  cases q2
  · simp [Op.eqFields, fld, h0, h1, h2, h3, g4, g25, g47, e0, e1, e2, Result.andThen]
  cases q3
  · simp [Op.eqFields, fld, h0, h1, h2, h3, g4, g25, g47, e0, e1, e2, e3, Result.andThen]
  · simp [Op.eqFields, fld, h0, h1, h2, h3, g4, g25, g47, e0, e1, e2, e3, Result.andThen]
theorem eqI_eql (a b : In) (w : World) : (binOp .eql 65 (.agg a.cells) (.agg b.cells)).run Try.prog w = .ok (.bool (eqI a b)) w := by
  rw [run_eql_struct, eq70 9996]; rfl
theorem eqI_neq (a b : In) (w : World) : (binOp .neq 65 (.agg a.cells) (.agg b.cells)).run Try.prog w = .ok (.bool (!eqI a b)) w := by
  rw [run_neq_struct, eq70 9996]; rfl
theorem eqI_iff {a b : In} : eqI a b = true ↔ a = b := by
  obtain ⟨a1, a2, a3, a4⟩ := a
  obtain ⟨b1, b2, b3, b4⟩ := b
  simp [eqI, eqS_iff, eqC_iff, and_assoc]
theorem eqI_refl (a : In) : eqI a a = true := eqI_iff.2 rfl
def eqP (a b : Pl) : Bool := (a.n == b.n) && (eqI a.i b.i)
theorem flds87 : (Try.prog.fieldsOf 70).toList = [fld "N" 3 0 0, fld "Instance" 65 1 8] := by kernel_rfl
theorem eq87 (d : Nat) (a b : Pl) (w : World) : (Op.equalIn (d + 5) 70 (.agg a.cells) (.agg b.cells)).run Try.prog w = .ok (eqP a b) w := by
  have h0 : ∀ (a : Pl) (w : World), (part 3 a.cells 0).run Try.prog w = .ok (.int .i64 a.n) w := fun a w => by kernel_rfl
  have h1 : ∀ (a : Pl) (w : World), (part 65 a.cells 1).run Try.prog w = .ok (.agg a.i.cells) w := fun a w => by kernel_rfl
  have g3 : ∀ (a b : Int) (w : World), (Op.equalIn (d + 4) 3 (.int .i64 a) (.int .i64 b)).run Try.prog w = .ok (a == b) w := eqInt (d + 3)
  have g70 : ∀ (a b : In) (w : World), (Op.equalIn (d + 4) 65 (.agg a.cells) (.agg b.cells)).run Try.prog w = .ok (eqI a b) w := eq70 d
  rw [show d + 5 = (d + 4) + 1 from rfl, run_equalIn_struct w (d + 4) 70 _ _ Try.und87 (by kernel_rfl), flds87]
  unfold eqP
  generalize e0 : (a.n == b.n) = q0
  generalize e1 : eqI a.i b.i = q1
  cases q0
  · simp [Op.eqFields, fld, h0, h1, g3, g70, e0, Result.andThen]
  cases q1
  · simp [Op.eqFields, fld, h0, h1, g3, g70, e0, e1, Result.andThen]
  · simp [Op.eqFields, fld, h0, h1, g3, g70, e0, e1, Result.andThen]
theorem eqP_neq (a b : Pl) (w : World) : (binOp .neq 70 (.agg a.cells) (.agg b.cells)).run Try.prog w = .ok (.bool (!eqP a b)) w := by
  rw [run_neq_struct, eq87 9995]; rfl
theorem eqP_iff {a b : Pl} : eqP a b = true ↔ a = b := by
  obtain ⟨a1, a2⟩ := a
  obtain ⟨b1, b2⟩ := b
  simp [eqP, eqI_iff, and_assoc]
theorem eqP_refl (a : Pl) : eqP a a = true := eqP_iff.2 rfl
theorem eqE_refl (a : En) : eqE a a = true := eqE_iff.2 rfl
theorem eqL_refl (a : La) : eqL a a = true := eqL_iff.2 rfl
theorem exec_alloc1 {o : Oper} {a : Act} {w : World} (t : TypeId) (ho : o.op = .alloc t) (v : Value) (hv : v.cells = #[v]) (hz : (Try.prog.info? t).bind (·.zero) = some v) : (execOp a.eval o).run Try.prog w = .ok (.value (.pointer (some ⟨w.heap.size, 0, none⟩))) (w.alloc (.cells #[v] t)) := by
  simp only [execOp, ho, Instr.alloc, Sem.run_bind, zero_of hz, Result.andThen_ok, newVar, newRow, run_newObj_alloc, Sem.run_pure, hv]
theorem exec_box1 {o : Oper} {a : Act} {w : World} (t : TypeId) (x : Operand) (ho : o.op = .box t x) (v : Value) (hx : a.eval x = v) (hv : v.cells = #[v]) : (execOp a.eval o).run Try.prog w = .ok (.value (.pointer (some ⟨w.heap.size, 0, none⟩))) (w.alloc (.cells #[v] t)) := by
  simp only [execOp, ho, hx, Instr.box, Sem.run_bind, Result.andThen_ok, newVar, newRow, run_newObj_alloc, Sem.run_pure, hv]
theorem Fr.front {S : Nat → Prop} {w0 w : World} {l m : List (Nat × TypeId × Array Value)} (h : Fr S w0 w (l ++ m)) : Fr S w0 w l :=
  ⟨h.kept, fun i g T cs hi => h.box i g T cs (List.getElem?_append_left (List.getElem?_eq_some_iff.1 hi).1 ▸ hi), fun i g T cs hi => h.low i g T cs (List.getElem?_append_left (List.getElem?_eq_some_iff.1 hi).1 ▸ hi),
    fun i j g T cs T' cs' hi hj => h.inj i j g T cs T' cs' (List.getElem?_append_left (List.getElem?_eq_some_iff.1 hi).1 ▸ hi) (List.getElem?_append_left (List.getElem?_eq_some_iff.1 hj).1 ▸ hj)⟩

end Go.Proofs.Ytcgnbpaaalmkoab
