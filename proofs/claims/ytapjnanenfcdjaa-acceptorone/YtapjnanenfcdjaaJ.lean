import Derived.Test.YtapjnanenfcdjaaI
namespace Go.Proofs.Ytapjnanenfcdjaa
open Go.RowKit
set_option linter.unusedVariables false
set_option linter.unusedSimpArgs false

theorem Try.size25 : (Try.prog.info? 25).map (·.size) = some 2 := by kernel_rfl
theorem load_F {w : World} {g off : Nat} {n c : Int} {T : TypeId} {cs : List Value} (hb : Box w g T cs.toArray) (hp : Part cs off [.int .i64 n, .int .i64 c]) : (loadVar 25 ⟨g, off, none⟩).run Try.prog w = .ok (.agg #[.int .i64 n, .int .i64 c]) w :=
  run_load_part hb hp Try.und25 rfl Try.size25
theorem Cm.partF (c : Cm) : Part c.cs 4 [.int .i64 c.f0, .int .i64 c.f1] := fun j v h => by
  match j, h with
  | 0, h => exact h
  | 1, h => exact h
theorem Cm.partG (c : Cm) : Part c.cs 6 [.int .i64 c.g0, .int .i64 c.g1] := fun j v h => by
  match j, h with
  | 0, h => exact h
  | 1, h => exact h
theorem Cm.cel {w : World} {g : Nat} {c : Cm} (hb : Box w g 27 c.cells) : w.cell? ⟨g, 0, none⟩ = some (.int .i64 c.k) ∧ w.cell? ⟨g, 1, none⟩ = some (.int .i64 c.cl) ∧ w.cell? ⟨g, 2, none⟩ = some (.int .i64 c.op) ∧ w.cell? ⟨g, 3, none⟩ = some (.string c.nm) ∧ w.cell? ⟨g, 8, none⟩ = some (.int .i64 c.sz) :=
  ⟨hb.cell 0, hb.cell 1, hb.cell 2, hb.cell 3, hb.cell 8⟩
theorem load_T {w : World} {ad : Addr} {v : Value} (hc : w.cell? ad = some v) : (loadVar 9 ad).run Try.prog w = .ok v w := load_one hc Try.und9 rfl
theorem guard_F (b : BinOp) (hb : b = .eql ∨ b = .neq) (x y : Operand) (u v : Array Value) (w : World) : (eqGuard b 25 x y (.agg u) (.agg v)).run Try.prog w = .ok () w := by
  rcases hb with rfl | rfl <;> kernel_rfl
theorem eqlF (a b c d : Int) (w : World) : (binOp .eql 25 (.agg #[.int .i64 a, .int .i64 b]) (.agg #[.int .i64 c, .int .i64 d])).run Try.prog w = .ok (.bool (a == c && b == d)) w := by
  rw [run_eql_struct, eq25 9998]; rfl
theorem neqF (a b c d : Int) (w : World) : (binOp .neq 25 (.agg #[.int .i64 a, .int .i64 b]) (.agg #[.int .i64 c, .int .i64 d])).run Try.prog w = .ok (.bool (!(a == c && b == d))) w := by
  rw [run_neq_struct, eq25 9998]; rfl
theorem neqT (a b : ByteArray) (w : World) : (binOp .neq 9 (.string a) (.string b)).run Try.prog w = .ok (.bool (!(a.toList == b.toList))) w := by kernel_rfl
theorem lssN (a b : Int) (w : World) : (binOp .lss 3 (.int .i64 a) (.int .i64 b)).run Try.prog w = .ok (.bool (decide (a < b))) w := by kernel_rfl

/-- May it be a command? -/
def cmdB (c : Cm) : Bool :=
  if !inB c.k 1 7 then false else if !inB c.cl 1 255 then false else if !inB c.op 1 1099511627776 then false
  else if (if c.k == 4 then !(c.nm.toList == (⟨#[]⟩ : ByteArray).toList) else !nameB c.nm) then false
  else if decide (c.k < 5) then (c.f0 == 0 && c.f1 == 0) && ((c.g0 == 0 && c.g1 == 0) && c.sz == 0)
  else if (if c.k == 7 then !fileB c.g0 c.g1 else !(c.g0 == 0 && c.g1 == 0)) then false
  else fileB c.f0 c.f1 && szB c.sz
/-- May it be an instance? -/
def instB (i : In) : Bool :=
  if i.d then noneB i.p && (noneB i.a && cmdB i.c)
  else if (!noneB i.p && !oneB i.p) || lt i.p i.a then false
  else if noneB i.a then eqC i.c cZ else oneB i.a && cmdB i.c

set_option maxRecDepth 100000 in
set_option maxHeartbeats 4000000 in
theorem cmd_any (c : Cm) (wa : Option Addr) (w : World) : Calls Try.prog 10 #[.agg c.cells, .agg (wideC wa)] w (fun e w' => e = .returned (.bool (cmdB c)) ∧ Kept No w w') := by
  obtain ⟨w1, hw1⟩ : ∃ w1, w1 = (w.alloc (.cells c.cells 27)).alloc (.cells (wideC wa) 35) := ⟨_, rfl⟩
  obtain ⟨N, hN⟩ : ∃ N, N = w.heap.size := ⟨_, rfl⟩
  have hal := al2 w c.cells 27 (wideC wa) 35
  rw [← hw1, ← hN] at hal
  obtain ⟨hk1, hb0, hb1, -⟩ := hal
  have HK : Hid (Kept No w w1) := hk1
  have HC : Hid (Box w1 N 27 c.cells) := hb0
  have HF : Hid (Box w1 (N + 1) 35 (wideC wa)) := hb1
  clear hk1 hb0 hb1
  go_enter Try.func10, Try.ntmps10
  go_upto_region 1 with (first
    | (refine wp_boxV rfl 27 _ rfl c.cells rfl w.heap.size rfl ?_)
    | (refine wp_boxV rfl 35 _ rfl (wideC wa) rfl (w.heap.size + 1) (by simp) ?_))
  rw [← hw1, ← hN]
  clear hw1 hN
  refine WL.start ?_
  refine wp_takeW (o := { dst := some 5, op := Op.fieldAddr 27 (Operand.tmp 2) 0, type := 0, pos := "ref.go:59", after := #[], guard := none }) (.pointer (some ⟨N, 0, none⟩)) (by kernel_rfl) (by kernel_rfl) ?_
  try simp only [Act.put, List.setIfInBounds_toArray, List.set_cons_zero, List.set_cons_succ]
  refine wp_takeW (o := { dst := some 6, op := Op.load 3 (Operand.tmp 5), type := 3, pos := "ref.go:59", after := #[{ on := 0, ground := Ground.data }], guard := none }) (.int .i64 c.k) (exec_load 3 _ rfl ⟨N, 0, none⟩ (by kernel_rfl) (.int .i64 c.k) (load_N (Cm.cel HC.out).1)) (by kernel_rfl) ?_
  try simp only [Act.put, List.setIfInBounds_toArray, List.set_cons_zero, List.set_cons_succ]
  cases q1 : (inB c.k 1 7)
  · skip
    refine wp_callW (o := { dst := some 7, op := Op.call { callee := Callee.value (Operand.func 27), args := #[Operand.tmp 6, Operand.const (Value.int IntKind.i64 1), Operand.const (Value.int IntKind.i64 7)], argTypes := #[3, 3, 3] }, type := 4, pos := "ref.go:59", after := #[{ on := 1, ground := Ground.data }], guard := none }) 27 #[.int .i64 c.k, .int .i64 1, .int .i64 7] (by kernel_rfl) _ (within_any _ _ _ _) (by kernel_rfl) ?_
    rintro e _ ⟨rfl, rfl⟩
    refine ⟨.bool false, by rw [q1], ?_⟩
    try simp only [Act.put, List.setIfInBounds_toArray, List.set_cons_zero, List.set_cons_succ]
    refine wp_takeW (o := { dst := some 8, op := Op.unOp UnOp.not 4 (Operand.tmp 7), type := 4, pos := "ref.go:59", after := #[{ on := 2, ground := Ground.data }], guard := none }) (.bool true) (by kernel_rfl) (by kernel_rfl) ?_
    try simp only [Act.put, List.setIfInBounds_toArray, List.set_cons_zero, List.set_cons_succ]
    refine wp_takeW (o := { dst := some 9, op := Op.move (Operand.tmp 8), type := 4, pos := "ref.go:59", after := #[{ on := 3, ground := Ground.data }, { on := 2, ground := Ground.chain }], guard := none }) (.bool true) (by kernel_rfl) (by kernel_rfl) ?_
    try simp only [Act.put, List.setIfInBounds_toArray, List.set_cons_zero, List.set_cons_succ]
    refine wp_skip (o := { dst := some 10, op := Op.fieldAddr 27 (Operand.tmp 2) 1, type := 0, pos := "ref.go:59", after := #[{ on := 4, ground := Ground.guard }], guard := some (4, false) }) (by kernel_rfl) ?_
    try simp only [Act.put, List.setIfInBounds_toArray, List.set_cons_zero, List.set_cons_succ]
    refine wp_skip (o := { dst := some 11, op := Op.load 3 (Operand.tmp 10), type := 3, pos := "ref.go:59", after := #[{ on := 5, ground := Ground.data }, { on := 4, ground := Ground.guard }], guard := some (4, false) }) (by kernel_rfl) ?_
    try simp only [Act.put, List.setIfInBounds_toArray, List.set_cons_zero, List.set_cons_succ]
    refine wp_skip (o := { dst := some 12, op := Op.call { callee := Callee.value (Operand.func 27), args := #[Operand.tmp 11, Operand.const (Value.int IntKind.i64 1), Operand.const (Value.int IntKind.i64 255)], argTypes := #[3, 3, 3] }, type := 4, pos := "ref.go:59", after := #[{ on := 6, ground := Ground.data }, { on := 4, ground := Ground.chain }, { on := 4, ground := Ground.guard }], guard := some (4, false) }) (by kernel_rfl) ?_
    try simp only [Act.put, List.setIfInBounds_toArray, List.set_cons_zero, List.set_cons_succ]
    refine wp_skip (o := { dst := some 13, op := Op.unOp UnOp.not 4 (Operand.tmp 12), type := 4, pos := "ref.go:59", after := #[{ on := 7, ground := Ground.data }, { on := 4, ground := Ground.guard }], guard := some (4, false) }) (by kernel_rfl) ?_
    try simp only [Act.put, List.setIfInBounds_toArray, List.set_cons_zero, List.set_cons_succ]
    refine wp_takeW (o := { dst := some 14, op := Op.pick (Operand.tmp 9) (Operand.const (Value.bool true)) (Operand.tmp 13), type := 4, pos := "ref.go:59", after := #[{ on := 4, ground := Ground.data }, { on := 8, ground := Ground.data }], guard := none }) (.bool true) (by kernel_rfl) (by kernel_rfl) ?_
    try simp only [Act.put, List.setIfInBounds_toArray, List.set_cons_zero, List.set_cons_succ]
    refine wp_takeW (o := { dst := some 15, op := Op.move (Operand.tmp 14), type := 4, pos := "ref.go:59", after := #[{ on := 9, ground := Ground.data }, { on := 7, ground := Ground.chain }], guard := none }) (.bool true) (by kernel_rfl) (by kernel_rfl) ?_
    try simp only [Act.put, List.setIfInBounds_toArray, List.set_cons_zero, List.set_cons_succ]
    refine wp_skip (o := { dst := some 16, op := Op.fieldAddr 27 (Operand.tmp 2) 2, type := 0, pos := "ref.go:59", after := #[{ on := 10, ground := Ground.guard }], guard := some (10, false) }) (by kernel_rfl) ?_
    try simp only [Act.put, List.setIfInBounds_toArray, List.set_cons_zero, List.set_cons_succ]
    refine wp_skip (o := { dst := some 17, op := Op.load 3 (Operand.tmp 16), type := 3, pos := "ref.go:59", after := #[{ on := 11, ground := Ground.data }, { on := 10, ground := Ground.guard }], guard := some (10, false) }) (by kernel_rfl) ?_
    try simp only [Act.put, List.setIfInBounds_toArray, List.set_cons_zero, List.set_cons_succ]
    refine wp_skip (o := { dst := some 18, op := Op.call { callee := Callee.value (Operand.func 27), args := #[Operand.tmp 17, Operand.const (Value.int IntKind.i64 1), Operand.const (Value.int IntKind.i64 1099511627776)], argTypes := #[3, 3, 3] }, type := 4, pos := "ref.go:59", after := #[{ on := 12, ground := Ground.data }, { on := 10, ground := Ground.chain }, { on := 10, ground := Ground.guard }], guard := some (10, false) }) (by kernel_rfl) ?_
    try simp only [Act.put, List.setIfInBounds_toArray, List.set_cons_zero, List.set_cons_succ]
    refine wp_skip (o := { dst := some 19, op := Op.unOp UnOp.not 4 (Operand.tmp 18), type := 4, pos := "ref.go:59", after := #[{ on := 13, ground := Ground.data }, { on := 10, ground := Ground.guard }], guard := some (10, false) }) (by kernel_rfl) ?_
    try simp only [Act.put, List.setIfInBounds_toArray, List.set_cons_zero, List.set_cons_succ]
    refine wp_takeW (o := { dst := some 20, op := Op.pick (Operand.tmp 15) (Operand.const (Value.bool true)) (Operand.tmp 19), type := 4, pos := "ref.go:59", after := #[{ on := 10, ground := Ground.data }, { on := 14, ground := Ground.data }], guard := none }) (.bool true) (by kernel_rfl) (by kernel_rfl) ?_
    try simp only [Act.put, List.setIfInBounds_toArray, List.set_cons_zero, List.set_cons_succ]
    refine WL.nil ?_
    try simp only [Act.put, List.setIfInBounds_toArray, List.set_cons_zero, List.set_cons_succ]
    have hv : cmdB c = false := by first | (simp only [cmdB, q1]; rfl) | (unfold cmdB; rw [q1]; rfl) | simp [cmdB, q1]
    go_wp2
    go_ret
    exact ⟨by rw [hv]; rfl, HK.out⟩
  · skip
    refine wp_callW (o := { dst := some 7, op := Op.call { callee := Callee.value (Operand.func 27), args := #[Operand.tmp 6, Operand.const (Value.int IntKind.i64 1), Operand.const (Value.int IntKind.i64 7)], argTypes := #[3, 3, 3] }, type := 4, pos := "ref.go:59", after := #[{ on := 1, ground := Ground.data }], guard := none }) 27 #[.int .i64 c.k, .int .i64 1, .int .i64 7] (by kernel_rfl) _ (within_any _ _ _ _) (by kernel_rfl) ?_
    rintro e _ ⟨rfl, rfl⟩
    refine ⟨.bool true, by rw [q1], ?_⟩
    try simp only [Act.put, List.setIfInBounds_toArray, List.set_cons_zero, List.set_cons_succ]
    refine wp_takeW (o := { dst := some 8, op := Op.unOp UnOp.not 4 (Operand.tmp 7), type := 4, pos := "ref.go:59", after := #[{ on := 2, ground := Ground.data }], guard := none }) (.bool false) (by kernel_rfl) (by kernel_rfl) ?_
    try simp only [Act.put, List.setIfInBounds_toArray, List.set_cons_zero, List.set_cons_succ]
    refine wp_takeW (o := { dst := some 9, op := Op.move (Operand.tmp 8), type := 4, pos := "ref.go:59", after := #[{ on := 3, ground := Ground.data }, { on := 2, ground := Ground.chain }], guard := none }) (.bool false) (by kernel_rfl) (by kernel_rfl) ?_
    try simp only [Act.put, List.setIfInBounds_toArray, List.set_cons_zero, List.set_cons_succ]
    refine wp_takeW (o := { dst := some 10, op := Op.fieldAddr 27 (Operand.tmp 2) 1, type := 0, pos := "ref.go:59", after := #[{ on := 4, ground := Ground.guard }], guard := some (4, false) }) (.pointer (some ⟨N, 1, none⟩)) (by kernel_rfl) (by kernel_rfl) ?_
    try simp only [Act.put, List.setIfInBounds_toArray, List.set_cons_zero, List.set_cons_succ]
    refine wp_takeW (o := { dst := some 11, op := Op.load 3 (Operand.tmp 10), type := 3, pos := "ref.go:59", after := #[{ on := 5, ground := Ground.data }, { on := 4, ground := Ground.guard }], guard := some (4, false) }) (.int .i64 c.cl) (exec_load 3 _ rfl ⟨N, 1, none⟩ (by kernel_rfl) (.int .i64 c.cl) (load_N (Cm.cel HC.out).2.1)) (by kernel_rfl) ?_
    try simp only [Act.put, List.setIfInBounds_toArray, List.set_cons_zero, List.set_cons_succ]
    cases q2 : (inB c.cl 1 255)
    · skip
      refine wp_callW (o := { dst := some 12, op := Op.call { callee := Callee.value (Operand.func 27), args := #[Operand.tmp 11, Operand.const (Value.int IntKind.i64 1), Operand.const (Value.int IntKind.i64 255)], argTypes := #[3, 3, 3] }, type := 4, pos := "ref.go:59", after := #[{ on := 6, ground := Ground.data }, { on := 4, ground := Ground.chain }, { on := 4, ground := Ground.guard }], guard := some (4, false) }) 27 #[.int .i64 c.cl, .int .i64 1, .int .i64 255] (by kernel_rfl) _ (within_any _ _ _ _) (by kernel_rfl) ?_
      rintro e _ ⟨rfl, rfl⟩
      refine ⟨.bool false, by rw [q2], ?_⟩
      try simp only [Act.put, List.setIfInBounds_toArray, List.set_cons_zero, List.set_cons_succ]
      refine wp_takeW (o := { dst := some 13, op := Op.unOp UnOp.not 4 (Operand.tmp 12), type := 4, pos := "ref.go:59", after := #[{ on := 7, ground := Ground.data }, { on := 4, ground := Ground.guard }], guard := some (4, false) }) (.bool true) (by kernel_rfl) (by kernel_rfl) ?_
      try simp only [Act.put, List.setIfInBounds_toArray, List.set_cons_zero, List.set_cons_succ]
      refine wp_takeW (o := { dst := some 14, op := Op.pick (Operand.tmp 9) (Operand.const (Value.bool true)) (Operand.tmp 13), type := 4, pos := "ref.go:59", after := #[{ on := 4, ground := Ground.data }, { on := 8, ground := Ground.data }], guard := none }) (.bool true) (by kernel_rfl) (by kernel_rfl) ?_
      try simp only [Act.put, List.setIfInBounds_toArray, List.set_cons_zero, List.set_cons_succ]
      refine wp_takeW (o := { dst := some 15, op := Op.move (Operand.tmp 14), type := 4, pos := "ref.go:59", after := #[{ on := 9, ground := Ground.data }, { on := 7, ground := Ground.chain }], guard := none }) (.bool true) (by kernel_rfl) (by kernel_rfl) ?_
      try simp only [Act.put, List.setIfInBounds_toArray, List.set_cons_zero, List.set_cons_succ]
      refine wp_skip (o := { dst := some 16, op := Op.fieldAddr 27 (Operand.tmp 2) 2, type := 0, pos := "ref.go:59", after := #[{ on := 10, ground := Ground.guard }], guard := some (10, false) }) (by kernel_rfl) ?_
      try simp only [Act.put, List.setIfInBounds_toArray, List.set_cons_zero, List.set_cons_succ]
      refine wp_skip (o := { dst := some 17, op := Op.load 3 (Operand.tmp 16), type := 3, pos := "ref.go:59", after := #[{ on := 11, ground := Ground.data }, { on := 10, ground := Ground.guard }], guard := some (10, false) }) (by kernel_rfl) ?_
      try simp only [Act.put, List.setIfInBounds_toArray, List.set_cons_zero, List.set_cons_succ]
      refine wp_skip (o := { dst := some 18, op := Op.call { callee := Callee.value (Operand.func 27), args := #[Operand.tmp 17, Operand.const (Value.int IntKind.i64 1), Operand.const (Value.int IntKind.i64 1099511627776)], argTypes := #[3, 3, 3] }, type := 4, pos := "ref.go:59", after := #[{ on := 12, ground := Ground.data }, { on := 10, ground := Ground.chain }, { on := 10, ground := Ground.guard }], guard := some (10, false) }) (by kernel_rfl) ?_
      try simp only [Act.put, List.setIfInBounds_toArray, List.set_cons_zero, List.set_cons_succ]
      refine wp_skip (o := { dst := some 19, op := Op.unOp UnOp.not 4 (Operand.tmp 18), type := 4, pos := "ref.go:59", after := #[{ on := 13, ground := Ground.data }, { on := 10, ground := Ground.guard }], guard := some (10, false) }) (by kernel_rfl) ?_
      try simp only [Act.put, List.setIfInBounds_toArray, List.set_cons_zero, List.set_cons_succ]
      refine wp_takeW (o := { dst := some 20, op := Op.pick (Operand.tmp 15) (Operand.const (Value.bool true)) (Operand.tmp 19), type := 4, pos := "ref.go:59", after := #[{ on := 10, ground := Ground.data }, { on := 14, ground := Ground.data }], guard := none }) (.bool true) (by kernel_rfl) (by kernel_rfl) ?_
      try simp only [Act.put, List.setIfInBounds_toArray, List.set_cons_zero, List.set_cons_succ]
      refine WL.nil ?_
      try simp only [Act.put, List.setIfInBounds_toArray, List.set_cons_zero, List.set_cons_succ]
      have hv : cmdB c = false := by first | (simp only [cmdB, q1, q2]; rfl) | (unfold cmdB; rw [q1, q2]; rfl) | simp [cmdB, q1, q2]
      go_wp2
      go_ret
      exact ⟨by rw [hv]; rfl, HK.out⟩
    · skip
      refine wp_callW (o := { dst := some 12, op := Op.call { callee := Callee.value (Operand.func 27), args := #[Operand.tmp 11, Operand.const (Value.int IntKind.i64 1), Operand.const (Value.int IntKind.i64 255)], argTypes := #[3, 3, 3] }, type := 4, pos := "ref.go:59", after := #[{ on := 6, ground := Ground.data }, { on := 4, ground := Ground.chain }, { on := 4, ground := Ground.guard }], guard := some (4, false) }) 27 #[.int .i64 c.cl, .int .i64 1, .int .i64 255] (by kernel_rfl) _ (within_any _ _ _ _) (by kernel_rfl) ?_
      rintro e _ ⟨rfl, rfl⟩
      refine ⟨.bool true, by rw [q2], ?_⟩
      try simp only [Act.put, List.setIfInBounds_toArray, List.set_cons_zero, List.set_cons_succ]
      refine wp_takeW (o := { dst := some 13, op := Op.unOp UnOp.not 4 (Operand.tmp 12), type := 4, pos := "ref.go:59", after := #[{ on := 7, ground := Ground.data }, { on := 4, ground := Ground.guard }], guard := some (4, false) }) (.bool false) (by kernel_rfl) (by kernel_rfl) ?_
      try simp only [Act.put, List.setIfInBounds_toArray, List.set_cons_zero, List.set_cons_succ]
      refine wp_takeW (o := { dst := some 14, op := Op.pick (Operand.tmp 9) (Operand.const (Value.bool true)) (Operand.tmp 13), type := 4, pos := "ref.go:59", after := #[{ on := 4, ground := Ground.data }, { on := 8, ground := Ground.data }], guard := none }) (.bool false) (by kernel_rfl) (by kernel_rfl) ?_
      try simp only [Act.put, List.setIfInBounds_toArray, List.set_cons_zero, List.set_cons_succ]
      refine wp_takeW (o := { dst := some 15, op := Op.move (Operand.tmp 14), type := 4, pos := "ref.go:59", after := #[{ on := 9, ground := Ground.data }, { on := 7, ground := Ground.chain }], guard := none }) (.bool false) (by kernel_rfl) (by kernel_rfl) ?_
      try simp only [Act.put, List.setIfInBounds_toArray, List.set_cons_zero, List.set_cons_succ]
      refine wp_takeW (o := { dst := some 16, op := Op.fieldAddr 27 (Operand.tmp 2) 2, type := 0, pos := "ref.go:59", after := #[{ on := 10, ground := Ground.guard }], guard := some (10, false) }) (.pointer (some ⟨N, 2, none⟩)) (by kernel_rfl) (by kernel_rfl) ?_
      try simp only [Act.put, List.setIfInBounds_toArray, List.set_cons_zero, List.set_cons_succ]
      refine wp_takeW (o := { dst := some 17, op := Op.load 3 (Operand.tmp 16), type := 3, pos := "ref.go:59", after := #[{ on := 11, ground := Ground.data }, { on := 10, ground := Ground.guard }], guard := some (10, false) }) (.int .i64 c.op) (exec_load 3 _ rfl ⟨N, 2, none⟩ (by kernel_rfl) (.int .i64 c.op) (load_N (Cm.cel HC.out).2.2.1)) (by kernel_rfl) ?_
      try simp only [Act.put, List.setIfInBounds_toArray, List.set_cons_zero, List.set_cons_succ]
      cases q3 : (inB c.op 1 1099511627776)
      · skip
        refine wp_callW (o := { dst := some 18, op := Op.call { callee := Callee.value (Operand.func 27), args := #[Operand.tmp 17, Operand.const (Value.int IntKind.i64 1), Operand.const (Value.int IntKind.i64 1099511627776)], argTypes := #[3, 3, 3] }, type := 4, pos := "ref.go:59", after := #[{ on := 12, ground := Ground.data }, { on := 10, ground := Ground.chain }, { on := 10, ground := Ground.guard }], guard := some (10, false) }) 27 #[.int .i64 c.op, .int .i64 1, .int .i64 1099511627776] (by kernel_rfl) _ (within_any _ _ _ _) (by kernel_rfl) ?_
        rintro e _ ⟨rfl, rfl⟩
        refine ⟨.bool false, by rw [q3], ?_⟩
        try simp only [Act.put, List.setIfInBounds_toArray, List.set_cons_zero, List.set_cons_succ]
        refine wp_takeW (o := { dst := some 19, op := Op.unOp UnOp.not 4 (Operand.tmp 18), type := 4, pos := "ref.go:59", after := #[{ on := 13, ground := Ground.data }, { on := 10, ground := Ground.guard }], guard := some (10, false) }) (.bool true) (by kernel_rfl) (by kernel_rfl) ?_
        try simp only [Act.put, List.setIfInBounds_toArray, List.set_cons_zero, List.set_cons_succ]
        refine wp_takeW (o := { dst := some 20, op := Op.pick (Operand.tmp 15) (Operand.const (Value.bool true)) (Operand.tmp 19), type := 4, pos := "ref.go:59", after := #[{ on := 10, ground := Ground.data }, { on := 14, ground := Ground.data }], guard := none }) (.bool true) (by kernel_rfl) (by kernel_rfl) ?_
        try simp only [Act.put, List.setIfInBounds_toArray, List.set_cons_zero, List.set_cons_succ]
        refine WL.nil ?_
        try simp only [Act.put, List.setIfInBounds_toArray, List.set_cons_zero, List.set_cons_succ]
        have hv : cmdB c = false := by first | (simp only [cmdB, q1, q2, q3]; rfl) | (unfold cmdB; rw [q1, q2, q3]; rfl) | simp [cmdB, q1, q2, q3]
        go_wp2
        go_ret
        exact ⟨by rw [hv]; rfl, HK.out⟩
      · skip
        refine wp_callW (o := { dst := some 18, op := Op.call { callee := Callee.value (Operand.func 27), args := #[Operand.tmp 17, Operand.const (Value.int IntKind.i64 1), Operand.const (Value.int IntKind.i64 1099511627776)], argTypes := #[3, 3, 3] }, type := 4, pos := "ref.go:59", after := #[{ on := 12, ground := Ground.data }, { on := 10, ground := Ground.chain }, { on := 10, ground := Ground.guard }], guard := some (10, false) }) 27 #[.int .i64 c.op, .int .i64 1, .int .i64 1099511627776] (by kernel_rfl) _ (within_any _ _ _ _) (by kernel_rfl) ?_
        rintro e _ ⟨rfl, rfl⟩
        refine ⟨.bool true, by rw [q3], ?_⟩
        try simp only [Act.put, List.setIfInBounds_toArray, List.set_cons_zero, List.set_cons_succ]
        refine wp_takeW (o := { dst := some 19, op := Op.unOp UnOp.not 4 (Operand.tmp 18), type := 4, pos := "ref.go:59", after := #[{ on := 13, ground := Ground.data }, { on := 10, ground := Ground.guard }], guard := some (10, false) }) (.bool false) (by kernel_rfl) (by kernel_rfl) ?_
        try simp only [Act.put, List.setIfInBounds_toArray, List.set_cons_zero, List.set_cons_succ]
        refine wp_takeW (o := { dst := some 20, op := Op.pick (Operand.tmp 15) (Operand.const (Value.bool true)) (Operand.tmp 19), type := 4, pos := "ref.go:59", after := #[{ on := 10, ground := Ground.data }, { on := 14, ground := Ground.data }], guard := none }) (.bool false) (by kernel_rfl) (by kernel_rfl) ?_
        try simp only [Act.put, List.setIfInBounds_toArray, List.set_cons_zero, List.set_cons_succ]
        refine WL.nil ?_
        try simp only [Act.put, List.setIfInBounds_toArray, List.set_cons_zero, List.set_cons_succ]
        go_upto_region 3 with fail
        refine WL.start ?_
        refine wp_takeW (o := { dst := some 21, op := Op.fieldAddr 27 (Operand.tmp 2) 0, type := 0, pos := "ref.go:62", after := #[], guard := none }) (.pointer (some ⟨N, 0, none⟩)) (by kernel_rfl) (by kernel_rfl) ?_
        try simp only [Act.put, List.setIfInBounds_toArray, List.set_cons_zero, List.set_cons_succ]
        refine wp_takeW (o := { dst := some 22, op := Op.load 3 (Operand.tmp 21), type := 3, pos := "ref.go:62", after := #[{ on := 0, ground := Ground.data }], guard := none }) (.int .i64 c.k) (exec_load 3 _ rfl ⟨N, 0, none⟩ (by kernel_rfl) (.int .i64 c.k) (load_N (Cm.cel HC.out).1)) (by kernel_rfl) ?_
        try simp only [Act.put, List.setIfInBounds_toArray, List.set_cons_zero, List.set_cons_succ]
        cases q4 : (c.k == 4)
        · skip
          refine wp_takeW (o := { dst := some 23, op := Op.binOp BinOp.eql 3 (Operand.tmp 22) (Operand.const (Value.int IntKind.i64 4)) 3, type := 4, pos := "ref.go:62", after := #[{ on := 1, ground := Ground.data }], guard := none }) (.bool false) (exec_bin .eql 3 _ _ _ rfl (.int .i64 c.k) (.int .i64 4) (.bool false) (by kernel_rfl) (by kernel_rfl) (by kernel_rfl) (by rw [eqlN, q4]; try rfl)) (by kernel_rfl) ?_
          try simp only [Act.put, List.setIfInBounds_toArray, List.set_cons_zero, List.set_cons_succ]
          refine wp_takeW (o := { dst := some 24, op := Op.move (Operand.tmp 23), type := 4, pos := "ref.go:62", after := #[{ on := 2, ground := Ground.data }], guard := none }) (.bool false) (by kernel_rfl) (by kernel_rfl) ?_
          try simp only [Act.put, List.setIfInBounds_toArray, List.set_cons_zero, List.set_cons_succ]
          refine wp_skip (o := { dst := some 25, op := Op.fieldAddr 27 (Operand.tmp 2) 3, type := 0, pos := "ref.go:62", after := #[{ on := 3, ground := Ground.guard }], guard := some (3, true) }) (by kernel_rfl) ?_
          try simp only [Act.put, List.setIfInBounds_toArray, List.set_cons_zero, List.set_cons_succ]
          refine wp_skip (o := { dst := some 26, op := Op.load 9 (Operand.tmp 25), type := 9, pos := "ref.go:62", after := #[{ on := 4, ground := Ground.data }, { on := 3, ground := Ground.guard }], guard := some (3, true) }) (by kernel_rfl) ?_
          try simp only [Act.put, List.setIfInBounds_toArray, List.set_cons_zero, List.set_cons_succ]
          refine wp_skip (o := { dst := some 27, op := Op.binOp BinOp.neq 9 (Operand.tmp 26) (Operand.const (Value.string { data := #[] })) 9, type := 4, pos := "ref.go:62", after := #[{ on := 5, ground := Ground.data }, { on := 3, ground := Ground.guard }], guard := some (3, true) }) (by kernel_rfl) ?_
          try simp only [Act.put, List.setIfInBounds_toArray, List.set_cons_zero, List.set_cons_succ]
          refine wp_takeW (o := { dst := some 28, op := Op.pick (Operand.tmp 24) (Operand.tmp 27) (Operand.const (Value.bool false)), type := 4, pos := "ref.go:62", after := #[{ on := 3, ground := Ground.data }, { on := 6, ground := Ground.data }], guard := none }) (.bool false) (by kernel_rfl) (by kernel_rfl) ?_
          try simp only [Act.put, List.setIfInBounds_toArray, List.set_cons_zero, List.set_cons_succ]
          refine wp_takeW (o := { dst := some 29, op := Op.move (Operand.tmp 28), type := 4, pos := "ref.go:62", after := #[{ on := 7, ground := Ground.data }, { on := 3, ground := Ground.chain }], guard := none }) (.bool false) (by kernel_rfl) (by kernel_rfl) ?_
          try simp only [Act.put, List.setIfInBounds_toArray, List.set_cons_zero, List.set_cons_succ]
          refine wp_takeW (o := { dst := some 30, op := Op.fieldAddr 27 (Operand.tmp 2) 0, type := 0, pos := "ref.go:62", after := #[{ on := 8, ground := Ground.guard }], guard := some (8, false) }) (.pointer (some ⟨N, 0, none⟩)) (by kernel_rfl) (by kernel_rfl) ?_
          try simp only [Act.put, List.setIfInBounds_toArray, List.set_cons_zero, List.set_cons_succ]
          refine wp_takeW (o := { dst := some 31, op := Op.load 3 (Operand.tmp 30), type := 3, pos := "ref.go:62", after := #[{ on := 9, ground := Ground.data }, { on := 8, ground := Ground.guard }], guard := some (8, false) }) (.int .i64 c.k) (exec_load 3 _ rfl ⟨N, 0, none⟩ (by kernel_rfl) (.int .i64 c.k) (load_N (Cm.cel HC.out).1)) (by kernel_rfl) ?_
          try simp only [Act.put, List.setIfInBounds_toArray, List.set_cons_zero, List.set_cons_succ]
          refine wp_takeW (o := { dst := some 32, op := Op.binOp BinOp.neq 3 (Operand.tmp 31) (Operand.const (Value.int IntKind.i64 4)) 3, type := 4, pos := "ref.go:62", after := #[{ on := 10, ground := Ground.data }, { on := 8, ground := Ground.guard }], guard := some (8, false) }) (.bool true) (exec_bin .neq 3 _ _ _ rfl (.int .i64 c.k) (.int .i64 4) (.bool true) (by kernel_rfl) (by kernel_rfl) (by kernel_rfl) (by rw [neqN, q4]; try rfl)) (by kernel_rfl) ?_
          try simp only [Act.put, List.setIfInBounds_toArray, List.set_cons_zero, List.set_cons_succ]
          refine wp_takeW (o := { dst := some 33, op := Op.move (Operand.tmp 32), type := 4, pos := "ref.go:62", after := #[{ on := 11, ground := Ground.data }, { on := 8, ground := Ground.chain }, { on := 8, ground := Ground.guard }], guard := some (8, false) }) (.bool true) (by kernel_rfl) (by kernel_rfl) ?_
          try simp only [Act.put, List.setIfInBounds_toArray, List.set_cons_zero, List.set_cons_succ]
          refine wp_takeW (o := { dst := some 34, op := Op.fieldAddr 27 (Operand.tmp 2) 3, type := 0, pos := "ref.go:62", after := #[{ on := 12, ground := Ground.guard }], guard := some (12, true) }) (.pointer (some ⟨N, 3, none⟩)) (by kernel_rfl) (by kernel_rfl) ?_
          try simp only [Act.put, List.setIfInBounds_toArray, List.set_cons_zero, List.set_cons_succ]
          refine wp_takeW (o := { dst := some 35, op := Op.load 9 (Operand.tmp 34), type := 9, pos := "ref.go:62", after := #[{ on := 13, ground := Ground.data }, { on := 12, ground := Ground.guard }], guard := some (12, true) }) (.string c.nm) (exec_load 9 _ rfl ⟨N, 3, none⟩ (by kernel_rfl) (.string c.nm) (load_T (Cm.cel HC.out).2.2.2.1)) (by kernel_rfl) ?_
          try simp only [Act.put, List.setIfInBounds_toArray, List.set_cons_zero, List.set_cons_succ]
          cases q5 : (nameB c.nm)
          · skip
            refine wp_callW (o := { dst := some 36, op := Op.call { callee := Callee.value (Operand.func 28), args := #[Operand.tmp 35], argTypes := #[9] }, type := 4, pos := "ref.go:62", after := #[{ on := 14, ground := Ground.data }, { on := 12, ground := Ground.chain }, { on := 12, ground := Ground.guard }], guard := some (12, true) }) 28 #[.string c.nm] (by kernel_rfl) _ (name_any c.nm _) (by kernel_rfl) ?_
            rintro e _ ⟨rfl, rfl⟩
            refine ⟨.bool false, by rw [q5], ?_⟩
            try simp only [Act.put, List.setIfInBounds_toArray, List.set_cons_zero, List.set_cons_succ]
            refine wp_takeW (o := { dst := some 37, op := Op.unOp UnOp.not 4 (Operand.tmp 36), type := 4, pos := "ref.go:62", after := #[{ on := 15, ground := Ground.data }, { on := 12, ground := Ground.guard }], guard := some (12, true) }) (.bool true) (by kernel_rfl) (by kernel_rfl) ?_
            try simp only [Act.put, List.setIfInBounds_toArray, List.set_cons_zero, List.set_cons_succ]
            refine wp_takeW (o := { dst := some 38, op := Op.pick (Operand.tmp 33) (Operand.tmp 37) (Operand.const (Value.bool false)), type := 4, pos := "ref.go:62", after := #[{ on := 12, ground := Ground.data }, { on := 16, ground := Ground.data }, { on := 8, ground := Ground.guard }], guard := some (8, false) }) (.bool true) (by kernel_rfl) (by kernel_rfl) ?_
            try simp only [Act.put, List.setIfInBounds_toArray, List.set_cons_zero, List.set_cons_succ]
            refine wp_takeW (o := { dst := some 39, op := Op.pick (Operand.tmp 29) (Operand.const (Value.bool true)) (Operand.tmp 38), type := 4, pos := "ref.go:62", after := #[{ on := 8, ground := Ground.data }, { on := 17, ground := Ground.data }], guard := none }) (.bool true) (by kernel_rfl) (by kernel_rfl) ?_
            try simp only [Act.put, List.setIfInBounds_toArray, List.set_cons_zero, List.set_cons_succ]
            refine WL.nil ?_
            try simp only [Act.put, List.setIfInBounds_toArray, List.set_cons_zero, List.set_cons_succ]
            have hv : cmdB c = false := by first | (simp only [cmdB, q1, q2, q3, q4, q5]; rfl) | (unfold cmdB; rw [q1, q2, q3, q4, q5]; rfl) | simp [cmdB, q1, q2, q3, q4, q5]
            go_wp2
            go_ret
            exact ⟨by rw [hv]; rfl, HK.out⟩
          · skip
            refine wp_callW (o := { dst := some 36, op := Op.call { callee := Callee.value (Operand.func 28), args := #[Operand.tmp 35], argTypes := #[9] }, type := 4, pos := "ref.go:62", after := #[{ on := 14, ground := Ground.data }, { on := 12, ground := Ground.chain }, { on := 12, ground := Ground.guard }], guard := some (12, true) }) 28 #[.string c.nm] (by kernel_rfl) _ (name_any c.nm _) (by kernel_rfl) ?_
            rintro e _ ⟨rfl, rfl⟩
            refine ⟨.bool true, by rw [q5], ?_⟩
            try simp only [Act.put, List.setIfInBounds_toArray, List.set_cons_zero, List.set_cons_succ]
            refine wp_takeW (o := { dst := some 37, op := Op.unOp UnOp.not 4 (Operand.tmp 36), type := 4, pos := "ref.go:62", after := #[{ on := 15, ground := Ground.data }, { on := 12, ground := Ground.guard }], guard := some (12, true) }) (.bool false) (by kernel_rfl) (by kernel_rfl) ?_
            try simp only [Act.put, List.setIfInBounds_toArray, List.set_cons_zero, List.set_cons_succ]
            refine wp_takeW (o := { dst := some 38, op := Op.pick (Operand.tmp 33) (Operand.tmp 37) (Operand.const (Value.bool false)), type := 4, pos := "ref.go:62", after := #[{ on := 12, ground := Ground.data }, { on := 16, ground := Ground.data }, { on := 8, ground := Ground.guard }], guard := some (8, false) }) (.bool false) (by kernel_rfl) (by kernel_rfl) ?_
            try simp only [Act.put, List.setIfInBounds_toArray, List.set_cons_zero, List.set_cons_succ]
            refine wp_takeW (o := { dst := some 39, op := Op.pick (Operand.tmp 29) (Operand.const (Value.bool true)) (Operand.tmp 38), type := 4, pos := "ref.go:62", after := #[{ on := 8, ground := Ground.data }, { on := 17, ground := Ground.data }], guard := none }) (.bool false) (by kernel_rfl) (by kernel_rfl) ?_
            try simp only [Act.put, List.setIfInBounds_toArray, List.set_cons_zero, List.set_cons_succ]
            refine WL.nil ?_
            try simp only [Act.put, List.setIfInBounds_toArray, List.set_cons_zero, List.set_cons_succ]
            go_upto_region 5 with fail
            refine WL.start ?_
            refine wp_takeW (o := { dst := some 40, op := Op.fieldAddr 27 (Operand.tmp 2) 0, type := 0, pos := "ref.go:65", after := #[], guard := none }) (.pointer (some ⟨N, 0, none⟩)) (by kernel_rfl) (by kernel_rfl) ?_
            try simp only [Act.put, List.setIfInBounds_toArray, List.set_cons_zero, List.set_cons_succ]
            refine wp_takeW (o := { dst := some 41, op := Op.load 3 (Operand.tmp 40), type := 3, pos := "ref.go:65", after := #[{ on := 0, ground := Ground.data }], guard := none }) (.int .i64 c.k) (exec_load 3 _ rfl ⟨N, 0, none⟩ (by kernel_rfl) (.int .i64 c.k) (load_N (Cm.cel HC.out).1)) (by kernel_rfl) ?_
            try simp only [Act.put, List.setIfInBounds_toArray, List.set_cons_zero, List.set_cons_succ]
            cases q6 : (decide (c.k < 5))
            · skip
              refine wp_takeW (o := { dst := some 42, op := Op.binOp BinOp.lss 3 (Operand.tmp 41) (Operand.const (Value.int IntKind.i64 5)) 3, type := 4, pos := "ref.go:65", after := #[{ on := 1, ground := Ground.data }], guard := none }) (.bool false) (exec_bin .lss 3 _ _ _ rfl (.int .i64 c.k) (.int .i64 5) (.bool false) (by kernel_rfl) (by kernel_rfl) (by kernel_rfl) (by rw [lssN, q6]; try rfl)) (by kernel_rfl) ?_
              try simp only [Act.put, List.setIfInBounds_toArray, List.set_cons_zero, List.set_cons_succ]
              refine WL.nil ?_
              try simp only [Act.put, List.setIfInBounds_toArray, List.set_cons_zero, List.set_cons_succ]
              go_upto_region 7 with fail
              refine WL.start ?_
              refine wp_takeW (o := { dst := some 58, op := Op.fieldAddr 27 (Operand.tmp 2) 0, type := 0, pos := "ref.go:68", after := #[], guard := none }) (.pointer (some ⟨N, 0, none⟩)) (by kernel_rfl) (by kernel_rfl) ?_
              try simp only [Act.put, List.setIfInBounds_toArray, List.set_cons_zero, List.set_cons_succ]
              refine wp_takeW (o := { dst := some 59, op := Op.load 3 (Operand.tmp 58), type := 3, pos := "ref.go:68", after := #[{ on := 0, ground := Ground.data }], guard := none }) (.int .i64 c.k) (exec_load 3 _ rfl ⟨N, 0, none⟩ (by kernel_rfl) (.int .i64 c.k) (load_N (Cm.cel HC.out).1)) (by kernel_rfl) ?_
              try simp only [Act.put, List.setIfInBounds_toArray, List.set_cons_zero, List.set_cons_succ]
              cases q7 : (c.k == 7)
              · skip
                refine wp_takeW (o := { dst := some 60, op := Op.binOp BinOp.eql 3 (Operand.tmp 59) (Operand.const (Value.int IntKind.i64 7)) 3, type := 4, pos := "ref.go:68", after := #[{ on := 1, ground := Ground.data }], guard := none }) (.bool false) (exec_bin .eql 3 _ _ _ rfl (.int .i64 c.k) (.int .i64 7) (.bool false) (by kernel_rfl) (by kernel_rfl) (by kernel_rfl) (by rw [eqlN, q7]; try rfl)) (by kernel_rfl) ?_
                try simp only [Act.put, List.setIfInBounds_toArray, List.set_cons_zero, List.set_cons_succ]
                refine wp_takeW (o := { dst := some 61, op := Op.move (Operand.tmp 60), type := 4, pos := "ref.go:68", after := #[{ on := 2, ground := Ground.data }], guard := none }) (.bool false) (by kernel_rfl) (by kernel_rfl) ?_
                try simp only [Act.put, List.setIfInBounds_toArray, List.set_cons_zero, List.set_cons_succ]
                refine wp_skip (o := { dst := some 62, op := Op.fieldAddr 27 (Operand.tmp 2) 5, type := 0, pos := "ref.go:68", after := #[{ on := 3, ground := Ground.guard }], guard := some (3, true) }) (by kernel_rfl) ?_
                try simp only [Act.put, List.setIfInBounds_toArray, List.set_cons_zero, List.set_cons_succ]
                refine wp_skip (o := { dst := some 63, op := Op.load 25 (Operand.tmp 62), type := 25, pos := "ref.go:68", after := #[{ on := 4, ground := Ground.data }, { on := 3, ground := Ground.guard }], guard := some (3, true) }) (by kernel_rfl) ?_
                try simp only [Act.put, List.setIfInBounds_toArray, List.set_cons_zero, List.set_cons_succ]
                refine wp_skip (o := { dst := some 64, op := Op.call { callee := Callee.value (Operand.func 29), args := #[Operand.tmp 63], argTypes := #[25] }, type := 4, pos := "ref.go:68", after := #[{ on := 5, ground := Ground.data }, { on := 3, ground := Ground.chain }, { on := 3, ground := Ground.guard }], guard := some (3, true) }) (by kernel_rfl) ?_
                try simp only [Act.put, List.setIfInBounds_toArray, List.set_cons_zero, List.set_cons_succ]
                refine wp_skip (o := { dst := some 65, op := Op.unOp UnOp.not 4 (Operand.tmp 64), type := 4, pos := "ref.go:68", after := #[{ on := 6, ground := Ground.data }, { on := 3, ground := Ground.guard }], guard := some (3, true) }) (by kernel_rfl) ?_
                try simp only [Act.put, List.setIfInBounds_toArray, List.set_cons_zero, List.set_cons_succ]
                refine wp_takeW (o := { dst := some 66, op := Op.pick (Operand.tmp 61) (Operand.tmp 65) (Operand.const (Value.bool false)), type := 4, pos := "ref.go:68", after := #[{ on := 3, ground := Ground.data }, { on := 7, ground := Ground.data }], guard := none }) (.bool false) (by kernel_rfl) (by kernel_rfl) ?_
                try simp only [Act.put, List.setIfInBounds_toArray, List.set_cons_zero, List.set_cons_succ]
                refine wp_takeW (o := { dst := some 67, op := Op.move (Operand.tmp 66), type := 4, pos := "ref.go:68", after := #[{ on := 8, ground := Ground.data }, { on := 6, ground := Ground.chain }], guard := none }) (.bool false) (by kernel_rfl) (by kernel_rfl) ?_
                try simp only [Act.put, List.setIfInBounds_toArray, List.set_cons_zero, List.set_cons_succ]
                refine wp_takeW (o := { dst := some 68, op := Op.fieldAddr 27 (Operand.tmp 2) 0, type := 0, pos := "ref.go:68", after := #[{ on := 9, ground := Ground.guard }], guard := some (9, false) }) (.pointer (some ⟨N, 0, none⟩)) (by kernel_rfl) (by kernel_rfl) ?_
                try simp only [Act.put, List.setIfInBounds_toArray, List.set_cons_zero, List.set_cons_succ]
                refine wp_takeW (o := { dst := some 69, op := Op.load 3 (Operand.tmp 68), type := 3, pos := "ref.go:68", after := #[{ on := 10, ground := Ground.data }, { on := 9, ground := Ground.guard }], guard := some (9, false) }) (.int .i64 c.k) (exec_load 3 _ rfl ⟨N, 0, none⟩ (by kernel_rfl) (.int .i64 c.k) (load_N (Cm.cel HC.out).1)) (by kernel_rfl) ?_
                try simp only [Act.put, List.setIfInBounds_toArray, List.set_cons_zero, List.set_cons_succ]
                refine wp_takeW (o := { dst := some 70, op := Op.binOp BinOp.neq 3 (Operand.tmp 69) (Operand.const (Value.int IntKind.i64 7)) 3, type := 4, pos := "ref.go:68", after := #[{ on := 11, ground := Ground.data }, { on := 9, ground := Ground.guard }], guard := some (9, false) }) (.bool true) (exec_bin .neq 3 _ _ _ rfl (.int .i64 c.k) (.int .i64 7) (.bool true) (by kernel_rfl) (by kernel_rfl) (by kernel_rfl) (by rw [neqN, q7]; try rfl)) (by kernel_rfl) ?_
                try simp only [Act.put, List.setIfInBounds_toArray, List.set_cons_zero, List.set_cons_succ]
                refine wp_takeW (o := { dst := some 71, op := Op.move (Operand.tmp 70), type := 4, pos := "ref.go:68", after := #[{ on := 12, ground := Ground.data }, { on := 9, ground := Ground.chain }, { on := 9, ground := Ground.guard }], guard := some (9, false) }) (.bool true) (by kernel_rfl) (by kernel_rfl) ?_
                try simp only [Act.put, List.setIfInBounds_toArray, List.set_cons_zero, List.set_cons_succ]
                refine wp_takeW (o := { dst := some 72, op := Op.fieldAddr 27 (Operand.tmp 2) 5, type := 0, pos := "ref.go:68", after := #[{ on := 13, ground := Ground.guard }], guard := some (13, true) }) (.pointer (some ⟨N, 6, none⟩)) (by kernel_rfl) (by kernel_rfl) ?_
                try simp only [Act.put, List.setIfInBounds_toArray, List.set_cons_zero, List.set_cons_succ]
                refine wp_takeW (o := { dst := some 73, op := Op.load 25 (Operand.tmp 72), type := 25, pos := "ref.go:68", after := #[{ on := 14, ground := Ground.data }, { on := 13, ground := Ground.guard }], guard := some (13, true) }) (.agg #[.int .i64 c.g0, .int .i64 c.g1]) (exec_load 25 _ rfl ⟨N, 6, none⟩ (by kernel_rfl) (.agg #[.int .i64 c.g0, .int .i64 c.g1]) (load_F HC.out c.partG)) (by kernel_rfl) ?_
                try simp only [Act.put, List.setIfInBounds_toArray, List.set_cons_zero, List.set_cons_succ]
                refine wp_takeW (o := { dst := some 74, op := Op.build 25 #[], type := 25, pos := "ref.go:68", after := #[{ on := 13, ground := Ground.guard }], guard := some (13, true) }) (.agg (#[.int .i64 0, .int .i64 0])) (exec_build 25 _ rfl (#[.int .i64 0, .int .i64 0]) (by kernel_rfl)) (by kernel_rfl) ?_
                try simp only [Act.put, List.setIfInBounds_toArray, List.set_cons_zero, List.set_cons_succ]
                cases q8 : (c.g0 == 0 && c.g1 == 0)
                · skip
                  refine wp_takeW (o := { dst := some 75, op := Op.binOp BinOp.neq 25 (Operand.tmp 73) (Operand.tmp 74) 25, type := 4, pos := "ref.go:68", after := #[{ on := 15, ground := Ground.data }, { on := 16, ground := Ground.data }, { on := 13, ground := Ground.guard }], guard := some (13, true) }) (.bool true) (exec_bin .neq 25 _ _ _ rfl (.agg #[.int .i64 c.g0, .int .i64 c.g1]) (.agg (#[.int .i64 0, .int .i64 0])) (.bool true) (by kernel_rfl) (by kernel_rfl) (guard_F _ (.inr rfl) _ _ _ _ _) (by rw [neqF, q8]; try rfl)) (by kernel_rfl) ?_
                  try simp only [Act.put, List.setIfInBounds_toArray, List.set_cons_zero, List.set_cons_succ]
                  refine wp_takeW (o := { dst := some 76, op := Op.pick (Operand.tmp 71) (Operand.tmp 75) (Operand.const (Value.bool false)), type := 4, pos := "ref.go:68", after := #[{ on := 13, ground := Ground.data }, { on := 17, ground := Ground.data }, { on := 9, ground := Ground.guard }], guard := some (9, false) }) (.bool true) (by kernel_rfl) (by kernel_rfl) ?_
                  try simp only [Act.put, List.setIfInBounds_toArray, List.set_cons_zero, List.set_cons_succ]
                  refine wp_takeW (o := { dst := some 77, op := Op.pick (Operand.tmp 67) (Operand.const (Value.bool true)) (Operand.tmp 76), type := 4, pos := "ref.go:68", after := #[{ on := 9, ground := Ground.data }, { on := 18, ground := Ground.data }], guard := none }) (.bool true) (by kernel_rfl) (by kernel_rfl) ?_
                  try simp only [Act.put, List.setIfInBounds_toArray, List.set_cons_zero, List.set_cons_succ]
                  refine WL.nil ?_
                  try simp only [Act.put, List.setIfInBounds_toArray, List.set_cons_zero, List.set_cons_succ]
                  have hv : cmdB c = false := by first | (simp only [cmdB, q1, q2, q3, q4, q5, q6, q7, q8]; rfl) | (unfold cmdB; rw [q1, q2, q3, q4, q5, q6, q7, q8]; rfl) | simp [cmdB, q1, q2, q3, q4, q5, q6, q7, q8]
                  go_wp2
                  go_ret
                  exact ⟨by rw [hv]; rfl, HK.out⟩
                · skip
                  refine wp_takeW (o := { dst := some 75, op := Op.binOp BinOp.neq 25 (Operand.tmp 73) (Operand.tmp 74) 25, type := 4, pos := "ref.go:68", after := #[{ on := 15, ground := Ground.data }, { on := 16, ground := Ground.data }, { on := 13, ground := Ground.guard }], guard := some (13, true) }) (.bool false) (exec_bin .neq 25 _ _ _ rfl (.agg #[.int .i64 c.g0, .int .i64 c.g1]) (.agg (#[.int .i64 0, .int .i64 0])) (.bool false) (by kernel_rfl) (by kernel_rfl) (guard_F _ (.inr rfl) _ _ _ _ _) (by rw [neqF, q8]; try rfl)) (by kernel_rfl) ?_
                  try simp only [Act.put, List.setIfInBounds_toArray, List.set_cons_zero, List.set_cons_succ]
                  refine wp_takeW (o := { dst := some 76, op := Op.pick (Operand.tmp 71) (Operand.tmp 75) (Operand.const (Value.bool false)), type := 4, pos := "ref.go:68", after := #[{ on := 13, ground := Ground.data }, { on := 17, ground := Ground.data }, { on := 9, ground := Ground.guard }], guard := some (9, false) }) (.bool false) (by kernel_rfl) (by kernel_rfl) ?_
                  try simp only [Act.put, List.setIfInBounds_toArray, List.set_cons_zero, List.set_cons_succ]
                  refine wp_takeW (o := { dst := some 77, op := Op.pick (Operand.tmp 67) (Operand.const (Value.bool true)) (Operand.tmp 76), type := 4, pos := "ref.go:68", after := #[{ on := 9, ground := Ground.data }, { on := 18, ground := Ground.data }], guard := none }) (.bool false) (by kernel_rfl) (by kernel_rfl) ?_
                  try simp only [Act.put, List.setIfInBounds_toArray, List.set_cons_zero, List.set_cons_succ]
                  refine WL.nil ?_
                  try simp only [Act.put, List.setIfInBounds_toArray, List.set_cons_zero, List.set_cons_succ]
                  go_upto_region 9 with fail
                  refine WL.start ?_
                  refine wp_takeW (o := { dst := some 78, op := Op.fieldAddr 27 (Operand.tmp 2) 4, type := 0, pos := "ref.go:71", after := #[], guard := none }) (.pointer (some ⟨N, 4, none⟩)) (by kernel_rfl) (by kernel_rfl) ?_
                  try simp only [Act.put, List.setIfInBounds_toArray, List.set_cons_zero, List.set_cons_succ]
                  refine wp_takeW (o := { dst := some 79, op := Op.load 25 (Operand.tmp 78), type := 25, pos := "ref.go:71", after := #[{ on := 0, ground := Ground.data }], guard := none }) (.agg #[.int .i64 c.f0, .int .i64 c.f1]) (exec_load 25 _ rfl ⟨N, 4, none⟩ (by kernel_rfl) (.agg #[.int .i64 c.f0, .int .i64 c.f1]) (load_F HC.out c.partF)) (by kernel_rfl) ?_
                  try simp only [Act.put, List.setIfInBounds_toArray, List.set_cons_zero, List.set_cons_succ]
                  cases q9 : (fileB c.f0 c.f1)
                  · skip
                    refine wp_callW (o := { dst := some 80, op := Op.call { callee := Callee.value (Operand.func 29), args := #[Operand.tmp 79], argTypes := #[25] }, type := 4, pos := "ref.go:71", after := #[{ on := 1, ground := Ground.data }], guard := none }) 29 #[.agg #[.int .i64 c.f0, .int .i64 c.f1]] (by kernel_rfl) _ (file_any c.f0 c.f1 _) (by kernel_rfl) ?_
                    rintro e wk9 ⟨rfl, hk⟩
                    have HC : Hid (Box wk9 N 27 c.cells) := HC.out.kept hk (fun e => e)
                    have HF : Hid (Box wk9 (N + 1) 35 (wideC wa)) := HF.out.kept hk (fun e => e)
                    have HK : Hid (Kept No w wk9) := HK.out.then hk
                    clear hk
                    refine ⟨.bool false, by rw [q9], ?_⟩
                    try simp only [Act.put, List.setIfInBounds_toArray, List.set_cons_zero, List.set_cons_succ]
                    refine wp_takeW (o := { dst := some 81, op := Op.move (Operand.tmp 80), type := 4, pos := "ref.go:71", after := #[{ on := 2, ground := Ground.data }, { on := 2, ground := Ground.chain }], guard := none }) (.bool false) (by kernel_rfl) (by kernel_rfl) ?_
                    try simp only [Act.put, List.setIfInBounds_toArray, List.set_cons_zero, List.set_cons_succ]
                    refine wp_skip (o := { dst := some 82, op := Op.fieldAddr 27 (Operand.tmp 2) 6, type := 0, pos := "ref.go:71", after := #[{ on := 3, ground := Ground.guard }], guard := some (3, true) }) (by kernel_rfl) ?_
                    try simp only [Act.put, List.setIfInBounds_toArray, List.set_cons_zero, List.set_cons_succ]
                    refine wp_skip (o := { dst := some 83, op := Op.load 3 (Operand.tmp 82), type := 3, pos := "ref.go:71", after := #[{ on := 4, ground := Ground.data }, { on := 3, ground := Ground.guard }], guard := some (3, true) }) (by kernel_rfl) ?_
                    try simp only [Act.put, List.setIfInBounds_toArray, List.set_cons_zero, List.set_cons_succ]
                    refine wp_skip (o := { dst := some 84, op := Op.load 35 (Operand.tmp 3), type := 35, pos := "ref.go:71", after := #[{ on := 3, ground := Ground.guard }], guard := some (3, true) }) (by kernel_rfl) ?_
                    try simp only [Act.put, List.setIfInBounds_toArray, List.set_cons_zero, List.set_cons_succ]
                    refine wp_skip (o := { dst := some 85, op := Op.call { callee := Callee.value (Operand.func 30), args := #[Operand.tmp 83, Operand.tmp 84], argTypes := #[3, 35] }, type := 4, pos := "ref.go:71", after := #[{ on := 5, ground := Ground.data }, { on := 6, ground := Ground.data }, { on := 3, ground := Ground.chain }, { on := 3, ground := Ground.guard }], guard := some (3, true) }) (by kernel_rfl) ?_
                    try simp only [Act.put, List.setIfInBounds_toArray, List.set_cons_zero, List.set_cons_succ]
                    refine wp_takeW (o := { dst := some 86, op := Op.pick (Operand.tmp 81) (Operand.tmp 85) (Operand.const (Value.bool false)), type := 4, pos := "ref.go:71", after := #[{ on := 3, ground := Ground.data }, { on := 7, ground := Ground.data }], guard := none }) (.bool false) (by kernel_rfl) (by kernel_rfl) ?_
                    try simp only [Act.put, List.setIfInBounds_toArray, List.set_cons_zero, List.set_cons_succ]
                    refine wp_takeW (o := { dst := some 4, op := Op.assign (Operand.tmp 86), type := 4, pos := "ref.go:71", after := #[{ on := 8, ground := Ground.data }, { on := 7, ground := Ground.chain }, { on := 0, ground := Ground.phase }, { on := 1, ground := Ground.phase }, { on := 2, ground := Ground.phase }, { on := 3, ground := Ground.phase }, { on := 4, ground := Ground.phase }, { on := 5, ground := Ground.phase }, { on := 6, ground := Ground.phase }, { on := 7, ground := Ground.phase }, { on := 8, ground := Ground.phase }], guard := none }) (.bool false) (by kernel_rfl) (by kernel_rfl) ?_
                    try simp only [Act.put, List.setIfInBounds_toArray, List.set_cons_zero, List.set_cons_succ]
                    refine WL.nil ?_
                    try simp only [Act.put, List.setIfInBounds_toArray, List.set_cons_zero, List.set_cons_succ]
                    have hv : cmdB c = false := by first | (simp only [cmdB, q1, q2, q3, q4, q5, q6, q7, q8, q9]; rfl) | (unfold cmdB; rw [q1, q2, q3, q4, q5, q6, q7, q8, q9]; rfl) | simp [cmdB, q1, q2, q3, q4, q5, q6, q7, q8, q9]
                    go_wp2
                    go_ret
                    exact ⟨by rw [hv]; rfl, HK.out⟩
                  · skip
                    refine wp_callW (o := { dst := some 80, op := Op.call { callee := Callee.value (Operand.func 29), args := #[Operand.tmp 79], argTypes := #[25] }, type := 4, pos := "ref.go:71", after := #[{ on := 1, ground := Ground.data }], guard := none }) 29 #[.agg #[.int .i64 c.f0, .int .i64 c.f1]] (by kernel_rfl) _ (file_any c.f0 c.f1 _) (by kernel_rfl) ?_
                    rintro e wk10 ⟨rfl, hk⟩
                    have HC : Hid (Box wk10 N 27 c.cells) := HC.out.kept hk (fun e => e)
                    have HF : Hid (Box wk10 (N + 1) 35 (wideC wa)) := HF.out.kept hk (fun e => e)
                    have HK : Hid (Kept No w wk10) := HK.out.then hk
                    clear hk
                    refine ⟨.bool true, by rw [q9], ?_⟩
                    try simp only [Act.put, List.setIfInBounds_toArray, List.set_cons_zero, List.set_cons_succ]
                    refine wp_takeW (o := { dst := some 81, op := Op.move (Operand.tmp 80), type := 4, pos := "ref.go:71", after := #[{ on := 2, ground := Ground.data }, { on := 2, ground := Ground.chain }], guard := none }) (.bool true) (by kernel_rfl) (by kernel_rfl) ?_
                    try simp only [Act.put, List.setIfInBounds_toArray, List.set_cons_zero, List.set_cons_succ]
                    refine wp_takeW (o := { dst := some 82, op := Op.fieldAddr 27 (Operand.tmp 2) 6, type := 0, pos := "ref.go:71", after := #[{ on := 3, ground := Ground.guard }], guard := some (3, true) }) (.pointer (some ⟨N, 8, none⟩)) (by kernel_rfl) (by kernel_rfl) ?_
                    try simp only [Act.put, List.setIfInBounds_toArray, List.set_cons_zero, List.set_cons_succ]
                    refine wp_takeW (o := { dst := some 83, op := Op.load 3 (Operand.tmp 82), type := 3, pos := "ref.go:71", after := #[{ on := 4, ground := Ground.data }, { on := 3, ground := Ground.guard }], guard := some (3, true) }) (.int .i64 c.sz) (exec_load 3 _ rfl ⟨N, 8, none⟩ (by kernel_rfl) (.int .i64 c.sz) (load_N (Cm.cel HC.out).2.2.2.2)) (by kernel_rfl) ?_
                    try simp only [Act.put, List.setIfInBounds_toArray, List.set_cons_zero, List.set_cons_succ]
                    refine wp_takeW (o := { dst := some 84, op := Op.load 35 (Operand.tmp 3), type := 35, pos := "ref.go:71", after := #[{ on := 3, ground := Ground.guard }], guard := some (3, true) }) (.agg (wideC wa)) (exec_load 35 _ rfl ⟨N + 1, 0, none⟩ (by kernel_rfl) (.agg (wideC wa)) (load_W HF.out)) (by kernel_rfl) ?_
                    try simp only [Act.put, List.setIfInBounds_toArray, List.set_cons_zero, List.set_cons_succ]
                    cases q10 : (szB c.sz)
                    · skip
                      refine wp_callW (o := { dst := some 85, op := Op.call { callee := Callee.value (Operand.func 30), args := #[Operand.tmp 83, Operand.tmp 84], argTypes := #[3, 35] }, type := 4, pos := "ref.go:71", after := #[{ on := 5, ground := Ground.data }, { on := 6, ground := Ground.data }, { on := 3, ground := Ground.chain }, { on := 3, ground := Ground.guard }], guard := some (3, true) }) 30 #[.int .i64 c.sz, .agg (wideC wa)] (by kernel_rfl) _ (size_any c.sz wa _) (by kernel_rfl) ?_
                      rintro e wk11 ⟨rfl, hk⟩
                      have HC : Hid (Box wk11 N 27 c.cells) := HC.out.kept hk (fun e => e)
                      have HF : Hid (Box wk11 (N + 1) 35 (wideC wa)) := HF.out.kept hk (fun e => e)
                      have HK : Hid (Kept No w wk11) := HK.out.then hk
                      clear hk
                      refine ⟨.bool false, by rw [q10], ?_⟩
                      try simp only [Act.put, List.setIfInBounds_toArray, List.set_cons_zero, List.set_cons_succ]
                      refine wp_takeW (o := { dst := some 86, op := Op.pick (Operand.tmp 81) (Operand.tmp 85) (Operand.const (Value.bool false)), type := 4, pos := "ref.go:71", after := #[{ on := 3, ground := Ground.data }, { on := 7, ground := Ground.data }], guard := none }) (.bool false) (by kernel_rfl) (by kernel_rfl) ?_
                      try simp only [Act.put, List.setIfInBounds_toArray, List.set_cons_zero, List.set_cons_succ]
                      refine wp_takeW (o := { dst := some 4, op := Op.assign (Operand.tmp 86), type := 4, pos := "ref.go:71", after := #[{ on := 8, ground := Ground.data }, { on := 7, ground := Ground.chain }, { on := 0, ground := Ground.phase }, { on := 1, ground := Ground.phase }, { on := 2, ground := Ground.phase }, { on := 3, ground := Ground.phase }, { on := 4, ground := Ground.phase }, { on := 5, ground := Ground.phase }, { on := 6, ground := Ground.phase }, { on := 7, ground := Ground.phase }, { on := 8, ground := Ground.phase }], guard := none }) (.bool false) (by kernel_rfl) (by kernel_rfl) ?_
                      try simp only [Act.put, List.setIfInBounds_toArray, List.set_cons_zero, List.set_cons_succ]
                      refine WL.nil ?_
                      try simp only [Act.put, List.setIfInBounds_toArray, List.set_cons_zero, List.set_cons_succ]
                      have hv : cmdB c = false := by first | (simp only [cmdB, q1, q2, q3, q4, q5, q6, q7, q8, q9, q10]; rfl) | (unfold cmdB; rw [q1, q2, q3, q4, q5, q6, q7, q8, q9, q10]; rfl) | simp [cmdB, q1, q2, q3, q4, q5, q6, q7, q8, q9, q10]
                      go_wp2
                      go_ret
                      exact ⟨by rw [hv]; rfl, HK.out⟩
                    · skip
                      refine wp_callW (o := { dst := some 85, op := Op.call { callee := Callee.value (Operand.func 30), args := #[Operand.tmp 83, Operand.tmp 84], argTypes := #[3, 35] }, type := 4, pos := "ref.go:71", after := #[{ on := 5, ground := Ground.data }, { on := 6, ground := Ground.data }, { on := 3, ground := Ground.chain }, { on := 3, ground := Ground.guard }], guard := some (3, true) }) 30 #[.int .i64 c.sz, .agg (wideC wa)] (by kernel_rfl) _ (size_any c.sz wa _) (by kernel_rfl) ?_
                      rintro e wk12 ⟨rfl, hk⟩
                      have HC : Hid (Box wk12 N 27 c.cells) := HC.out.kept hk (fun e => e)
                      have HF : Hid (Box wk12 (N + 1) 35 (wideC wa)) := HF.out.kept hk (fun e => e)
                      have HK : Hid (Kept No w wk12) := HK.out.then hk
                      clear hk
                      refine ⟨.bool true, by rw [q10], ?_⟩
                      try simp only [Act.put, List.setIfInBounds_toArray, List.set_cons_zero, List.set_cons_succ]
                      refine wp_takeW (o := { dst := some 86, op := Op.pick (Operand.tmp 81) (Operand.tmp 85) (Operand.const (Value.bool false)), type := 4, pos := "ref.go:71", after := #[{ on := 3, ground := Ground.data }, { on := 7, ground := Ground.data }], guard := none }) (.bool true) (by kernel_rfl) (by kernel_rfl) ?_
                      try simp only [Act.put, List.setIfInBounds_toArray, List.set_cons_zero, List.set_cons_succ]
                      refine wp_takeW (o := { dst := some 4, op := Op.assign (Operand.tmp 86), type := 4, pos := "ref.go:71", after := #[{ on := 8, ground := Ground.data }, { on := 7, ground := Ground.chain }, { on := 0, ground := Ground.phase }, { on := 1, ground := Ground.phase }, { on := 2, ground := Ground.phase }, { on := 3, ground := Ground.phase }, { on := 4, ground := Ground.phase }, { on := 5, ground := Ground.phase }, { on := 6, ground := Ground.phase }, { on := 7, ground := Ground.phase }, { on := 8, ground := Ground.phase }], guard := none }) (.bool true) (by kernel_rfl) (by kernel_rfl) ?_
                      try simp only [Act.put, List.setIfInBounds_toArray, List.set_cons_zero, List.set_cons_succ]
                      refine WL.nil ?_
                      try simp only [Act.put, List.setIfInBounds_toArray, List.set_cons_zero, List.set_cons_succ]
                      have hv : cmdB c = true := by first | (simp only [cmdB, q1, q2, q3, q4, q5, q6, q7, q8, q9, q10]; rfl) | (unfold cmdB; rw [q1, q2, q3, q4, q5, q6, q7, q8, q9, q10]; rfl) | simp [cmdB, q1, q2, q3, q4, q5, q6, q7, q8, q9, q10]
                      go_wp2
                      go_ret
                      exact ⟨by rw [hv]; rfl, HK.out⟩
              · skip
                refine wp_takeW (o := { dst := some 60, op := Op.binOp BinOp.eql 3 (Operand.tmp 59) (Operand.const (Value.int IntKind.i64 7)) 3, type := 4, pos := "ref.go:68", after := #[{ on := 1, ground := Ground.data }], guard := none }) (.bool true) (exec_bin .eql 3 _ _ _ rfl (.int .i64 c.k) (.int .i64 7) (.bool true) (by kernel_rfl) (by kernel_rfl) (by kernel_rfl) (by rw [eqlN, q7]; try rfl)) (by kernel_rfl) ?_
                try simp only [Act.put, List.setIfInBounds_toArray, List.set_cons_zero, List.set_cons_succ]
                refine wp_takeW (o := { dst := some 61, op := Op.move (Operand.tmp 60), type := 4, pos := "ref.go:68", after := #[{ on := 2, ground := Ground.data }], guard := none }) (.bool true) (by kernel_rfl) (by kernel_rfl) ?_
                try simp only [Act.put, List.setIfInBounds_toArray, List.set_cons_zero, List.set_cons_succ]
                refine wp_takeW (o := { dst := some 62, op := Op.fieldAddr 27 (Operand.tmp 2) 5, type := 0, pos := "ref.go:68", after := #[{ on := 3, ground := Ground.guard }], guard := some (3, true) }) (.pointer (some ⟨N, 6, none⟩)) (by kernel_rfl) (by kernel_rfl) ?_
                try simp only [Act.put, List.setIfInBounds_toArray, List.set_cons_zero, List.set_cons_succ]
                refine wp_takeW (o := { dst := some 63, op := Op.load 25 (Operand.tmp 62), type := 25, pos := "ref.go:68", after := #[{ on := 4, ground := Ground.data }, { on := 3, ground := Ground.guard }], guard := some (3, true) }) (.agg #[.int .i64 c.g0, .int .i64 c.g1]) (exec_load 25 _ rfl ⟨N, 6, none⟩ (by kernel_rfl) (.agg #[.int .i64 c.g0, .int .i64 c.g1]) (load_F HC.out c.partG)) (by kernel_rfl) ?_
                try simp only [Act.put, List.setIfInBounds_toArray, List.set_cons_zero, List.set_cons_succ]
                cases q11 : (fileB c.g0 c.g1)
                · skip
                  refine wp_callW (o := { dst := some 64, op := Op.call { callee := Callee.value (Operand.func 29), args := #[Operand.tmp 63], argTypes := #[25] }, type := 4, pos := "ref.go:68", after := #[{ on := 5, ground := Ground.data }, { on := 3, ground := Ground.chain }, { on := 3, ground := Ground.guard }], guard := some (3, true) }) 29 #[.agg #[.int .i64 c.g0, .int .i64 c.g1]] (by kernel_rfl) _ (file_any c.g0 c.g1 _) (by kernel_rfl) ?_
                  rintro e wk13 ⟨rfl, hk⟩
                  have HC : Hid (Box wk13 N 27 c.cells) := HC.out.kept hk (fun e => e)
                  have HF : Hid (Box wk13 (N + 1) 35 (wideC wa)) := HF.out.kept hk (fun e => e)
                  have HK : Hid (Kept No w wk13) := HK.out.then hk
                  clear hk
                  refine ⟨.bool false, by rw [q11], ?_⟩
                  try simp only [Act.put, List.setIfInBounds_toArray, List.set_cons_zero, List.set_cons_succ]
                  refine wp_takeW (o := { dst := some 65, op := Op.unOp UnOp.not 4 (Operand.tmp 64), type := 4, pos := "ref.go:68", after := #[{ on := 6, ground := Ground.data }, { on := 3, ground := Ground.guard }], guard := some (3, true) }) (.bool true) (by kernel_rfl) (by kernel_rfl) ?_
                  try simp only [Act.put, List.setIfInBounds_toArray, List.set_cons_zero, List.set_cons_succ]
                  refine wp_takeW (o := { dst := some 66, op := Op.pick (Operand.tmp 61) (Operand.tmp 65) (Operand.const (Value.bool false)), type := 4, pos := "ref.go:68", after := #[{ on := 3, ground := Ground.data }, { on := 7, ground := Ground.data }], guard := none }) (.bool true) (by kernel_rfl) (by kernel_rfl) ?_
                  try simp only [Act.put, List.setIfInBounds_toArray, List.set_cons_zero, List.set_cons_succ]
                  refine wp_takeW (o := { dst := some 67, op := Op.move (Operand.tmp 66), type := 4, pos := "ref.go:68", after := #[{ on := 8, ground := Ground.data }, { on := 6, ground := Ground.chain }], guard := none }) (.bool true) (by kernel_rfl) (by kernel_rfl) ?_
                  try simp only [Act.put, List.setIfInBounds_toArray, List.set_cons_zero, List.set_cons_succ]
                  refine wp_skip (o := { dst := some 68, op := Op.fieldAddr 27 (Operand.tmp 2) 0, type := 0, pos := "ref.go:68", after := #[{ on := 9, ground := Ground.guard }], guard := some (9, false) }) (by kernel_rfl) ?_
                  try simp only [Act.put, List.setIfInBounds_toArray, List.set_cons_zero, List.set_cons_succ]
                  refine wp_skip (o := { dst := some 69, op := Op.load 3 (Operand.tmp 68), type := 3, pos := "ref.go:68", after := #[{ on := 10, ground := Ground.data }, { on := 9, ground := Ground.guard }], guard := some (9, false) }) (by kernel_rfl) ?_
                  try simp only [Act.put, List.setIfInBounds_toArray, List.set_cons_zero, List.set_cons_succ]
                  refine wp_skip (o := { dst := some 70, op := Op.binOp BinOp.neq 3 (Operand.tmp 69) (Operand.const (Value.int IntKind.i64 7)) 3, type := 4, pos := "ref.go:68", after := #[{ on := 11, ground := Ground.data }, { on := 9, ground := Ground.guard }], guard := some (9, false) }) (by kernel_rfl) ?_
                  try simp only [Act.put, List.setIfInBounds_toArray, List.set_cons_zero, List.set_cons_succ]
                  refine wp_skip (o := { dst := some 71, op := Op.move (Operand.tmp 70), type := 4, pos := "ref.go:68", after := #[{ on := 12, ground := Ground.data }, { on := 9, ground := Ground.chain }, { on := 9, ground := Ground.guard }], guard := some (9, false) }) (by kernel_rfl) ?_
                  try simp only [Act.put, List.setIfInBounds_toArray, List.set_cons_zero, List.set_cons_succ]
                  refine wp_skip (o := { dst := some 72, op := Op.fieldAddr 27 (Operand.tmp 2) 5, type := 0, pos := "ref.go:68", after := #[{ on := 13, ground := Ground.guard }], guard := some (13, true) }) (by kernel_rfl) ?_
                  try simp only [Act.put, List.setIfInBounds_toArray, List.set_cons_zero, List.set_cons_succ]
                  refine wp_skip (o := { dst := some 73, op := Op.load 25 (Operand.tmp 72), type := 25, pos := "ref.go:68", after := #[{ on := 14, ground := Ground.data }, { on := 13, ground := Ground.guard }], guard := some (13, true) }) (by kernel_rfl) ?_
                  try simp only [Act.put, List.setIfInBounds_toArray, List.set_cons_zero, List.set_cons_succ]
                  refine wp_skip (o := { dst := some 74, op := Op.build 25 #[], type := 25, pos := "ref.go:68", after := #[{ on := 13, ground := Ground.guard }], guard := some (13, true) }) (by kernel_rfl) ?_
                  try simp only [Act.put, List.setIfInBounds_toArray, List.set_cons_zero, List.set_cons_succ]
                  refine wp_skip (o := { dst := some 75, op := Op.binOp BinOp.neq 25 (Operand.tmp 73) (Operand.tmp 74) 25, type := 4, pos := "ref.go:68", after := #[{ on := 15, ground := Ground.data }, { on := 16, ground := Ground.data }, { on := 13, ground := Ground.guard }], guard := some (13, true) }) (by kernel_rfl) ?_
                  try simp only [Act.put, List.setIfInBounds_toArray, List.set_cons_zero, List.set_cons_succ]
                  refine wp_skip (o := { dst := some 76, op := Op.pick (Operand.tmp 71) (Operand.tmp 75) (Operand.const (Value.bool false)), type := 4, pos := "ref.go:68", after := #[{ on := 13, ground := Ground.data }, { on := 17, ground := Ground.data }, { on := 9, ground := Ground.guard }], guard := some (9, false) }) (by kernel_rfl) ?_
                  try simp only [Act.put, List.setIfInBounds_toArray, List.set_cons_zero, List.set_cons_succ]
                  refine wp_takeW (o := { dst := some 77, op := Op.pick (Operand.tmp 67) (Operand.const (Value.bool true)) (Operand.tmp 76), type := 4, pos := "ref.go:68", after := #[{ on := 9, ground := Ground.data }, { on := 18, ground := Ground.data }], guard := none }) (.bool true) (by kernel_rfl) (by kernel_rfl) ?_
                  try simp only [Act.put, List.setIfInBounds_toArray, List.set_cons_zero, List.set_cons_succ]
                  refine WL.nil ?_
                  try simp only [Act.put, List.setIfInBounds_toArray, List.set_cons_zero, List.set_cons_succ]
                  have hv : cmdB c = false := by first | (simp only [cmdB, q1, q2, q3, q4, q5, q6, q7, q11]; rfl) | (unfold cmdB; rw [q1, q2, q3, q4, q5, q6, q7, q11]; rfl) | simp [cmdB, q1, q2, q3, q4, q5, q6, q7, q11]
                  go_wp2
                  go_ret
                  exact ⟨by rw [hv]; rfl, HK.out⟩
                · skip
                  refine wp_callW (o := { dst := some 64, op := Op.call { callee := Callee.value (Operand.func 29), args := #[Operand.tmp 63], argTypes := #[25] }, type := 4, pos := "ref.go:68", after := #[{ on := 5, ground := Ground.data }, { on := 3, ground := Ground.chain }, { on := 3, ground := Ground.guard }], guard := some (3, true) }) 29 #[.agg #[.int .i64 c.g0, .int .i64 c.g1]] (by kernel_rfl) _ (file_any c.g0 c.g1 _) (by kernel_rfl) ?_
                  rintro e wk14 ⟨rfl, hk⟩
                  have HC : Hid (Box wk14 N 27 c.cells) := HC.out.kept hk (fun e => e)
                  have HF : Hid (Box wk14 (N + 1) 35 (wideC wa)) := HF.out.kept hk (fun e => e)
                  have HK : Hid (Kept No w wk14) := HK.out.then hk
                  clear hk
                  refine ⟨.bool true, by rw [q11], ?_⟩
                  try simp only [Act.put, List.setIfInBounds_toArray, List.set_cons_zero, List.set_cons_succ]
                  refine wp_takeW (o := { dst := some 65, op := Op.unOp UnOp.not 4 (Operand.tmp 64), type := 4, pos := "ref.go:68", after := #[{ on := 6, ground := Ground.data }, { on := 3, ground := Ground.guard }], guard := some (3, true) }) (.bool false) (by kernel_rfl) (by kernel_rfl) ?_
                  try simp only [Act.put, List.setIfInBounds_toArray, List.set_cons_zero, List.set_cons_succ]
                  refine wp_takeW (o := { dst := some 66, op := Op.pick (Operand.tmp 61) (Operand.tmp 65) (Operand.const (Value.bool false)), type := 4, pos := "ref.go:68", after := #[{ on := 3, ground := Ground.data }, { on := 7, ground := Ground.data }], guard := none }) (.bool false) (by kernel_rfl) (by kernel_rfl) ?_
                  try simp only [Act.put, List.setIfInBounds_toArray, List.set_cons_zero, List.set_cons_succ]
                  refine wp_takeW (o := { dst := some 67, op := Op.move (Operand.tmp 66), type := 4, pos := "ref.go:68", after := #[{ on := 8, ground := Ground.data }, { on := 6, ground := Ground.chain }], guard := none }) (.bool false) (by kernel_rfl) (by kernel_rfl) ?_
                  try simp only [Act.put, List.setIfInBounds_toArray, List.set_cons_zero, List.set_cons_succ]
                  refine wp_takeW (o := { dst := some 68, op := Op.fieldAddr 27 (Operand.tmp 2) 0, type := 0, pos := "ref.go:68", after := #[{ on := 9, ground := Ground.guard }], guard := some (9, false) }) (.pointer (some ⟨N, 0, none⟩)) (by kernel_rfl) (by kernel_rfl) ?_
                  try simp only [Act.put, List.setIfInBounds_toArray, List.set_cons_zero, List.set_cons_succ]
                  refine wp_takeW (o := { dst := some 69, op := Op.load 3 (Operand.tmp 68), type := 3, pos := "ref.go:68", after := #[{ on := 10, ground := Ground.data }, { on := 9, ground := Ground.guard }], guard := some (9, false) }) (.int .i64 c.k) (exec_load 3 _ rfl ⟨N, 0, none⟩ (by kernel_rfl) (.int .i64 c.k) (load_N (Cm.cel HC.out).1)) (by kernel_rfl) ?_
                  try simp only [Act.put, List.setIfInBounds_toArray, List.set_cons_zero, List.set_cons_succ]
                  refine wp_takeW (o := { dst := some 70, op := Op.binOp BinOp.neq 3 (Operand.tmp 69) (Operand.const (Value.int IntKind.i64 7)) 3, type := 4, pos := "ref.go:68", after := #[{ on := 11, ground := Ground.data }, { on := 9, ground := Ground.guard }], guard := some (9, false) }) (.bool false) (exec_bin .neq 3 _ _ _ rfl (.int .i64 c.k) (.int .i64 7) (.bool false) (by kernel_rfl) (by kernel_rfl) (by kernel_rfl) (by rw [neqN, q7]; try rfl)) (by kernel_rfl) ?_
                  try simp only [Act.put, List.setIfInBounds_toArray, List.set_cons_zero, List.set_cons_succ]
                  refine wp_takeW (o := { dst := some 71, op := Op.move (Operand.tmp 70), type := 4, pos := "ref.go:68", after := #[{ on := 12, ground := Ground.data }, { on := 9, ground := Ground.chain }, { on := 9, ground := Ground.guard }], guard := some (9, false) }) (.bool false) (by kernel_rfl) (by kernel_rfl) ?_
                  try simp only [Act.put, List.setIfInBounds_toArray, List.set_cons_zero, List.set_cons_succ]
                  refine wp_skip (o := { dst := some 72, op := Op.fieldAddr 27 (Operand.tmp 2) 5, type := 0, pos := "ref.go:68", after := #[{ on := 13, ground := Ground.guard }], guard := some (13, true) }) (by kernel_rfl) ?_
                  try simp only [Act.put, List.setIfInBounds_toArray, List.set_cons_zero, List.set_cons_succ]
                  refine wp_skip (o := { dst := some 73, op := Op.load 25 (Operand.tmp 72), type := 25, pos := "ref.go:68", after := #[{ on := 14, ground := Ground.data }, { on := 13, ground := Ground.guard }], guard := some (13, true) }) (by kernel_rfl) ?_
                  try simp only [Act.put, List.setIfInBounds_toArray, List.set_cons_zero, List.set_cons_succ]
                  refine wp_skip (o := { dst := some 74, op := Op.build 25 #[], type := 25, pos := "ref.go:68", after := #[{ on := 13, ground := Ground.guard }], guard := some (13, true) }) (by kernel_rfl) ?_
                  try simp only [Act.put, List.setIfInBounds_toArray, List.set_cons_zero, List.set_cons_succ]
                  refine wp_skip (o := { dst := some 75, op := Op.binOp BinOp.neq 25 (Operand.tmp 73) (Operand.tmp 74) 25, type := 4, pos := "ref.go:68", after := #[{ on := 15, ground := Ground.data }, { on := 16, ground := Ground.data }, { on := 13, ground := Ground.guard }], guard := some (13, true) }) (by kernel_rfl) ?_
                  try simp only [Act.put, List.setIfInBounds_toArray, List.set_cons_zero, List.set_cons_succ]
                  refine wp_takeW (o := { dst := some 76, op := Op.pick (Operand.tmp 71) (Operand.tmp 75) (Operand.const (Value.bool false)), type := 4, pos := "ref.go:68", after := #[{ on := 13, ground := Ground.data }, { on := 17, ground := Ground.data }, { on := 9, ground := Ground.guard }], guard := some (9, false) }) (.bool false) (by kernel_rfl) (by kernel_rfl) ?_
                  try simp only [Act.put, List.setIfInBounds_toArray, List.set_cons_zero, List.set_cons_succ]
                  refine wp_takeW (o := { dst := some 77, op := Op.pick (Operand.tmp 67) (Operand.const (Value.bool true)) (Operand.tmp 76), type := 4, pos := "ref.go:68", after := #[{ on := 9, ground := Ground.data }, { on := 18, ground := Ground.data }], guard := none }) (.bool false) (by kernel_rfl) (by kernel_rfl) ?_
                  try simp only [Act.put, List.setIfInBounds_toArray, List.set_cons_zero, List.set_cons_succ]
                  refine WL.nil ?_
                  try simp only [Act.put, List.setIfInBounds_toArray, List.set_cons_zero, List.set_cons_succ]
                  go_upto_region 9 with fail
                  refine WL.start ?_
                  refine wp_takeW (o := { dst := some 78, op := Op.fieldAddr 27 (Operand.tmp 2) 4, type := 0, pos := "ref.go:71", after := #[], guard := none }) (.pointer (some ⟨N, 4, none⟩)) (by kernel_rfl) (by kernel_rfl) ?_
                  try simp only [Act.put, List.setIfInBounds_toArray, List.set_cons_zero, List.set_cons_succ]
                  refine wp_takeW (o := { dst := some 79, op := Op.load 25 (Operand.tmp 78), type := 25, pos := "ref.go:71", after := #[{ on := 0, ground := Ground.data }], guard := none }) (.agg #[.int .i64 c.f0, .int .i64 c.f1]) (exec_load 25 _ rfl ⟨N, 4, none⟩ (by kernel_rfl) (.agg #[.int .i64 c.f0, .int .i64 c.f1]) (load_F HC.out c.partF)) (by kernel_rfl) ?_
                  try simp only [Act.put, List.setIfInBounds_toArray, List.set_cons_zero, List.set_cons_succ]
                  cases q12 : (fileB c.f0 c.f1)
                  · skip
                    refine wp_callW (o := { dst := some 80, op := Op.call { callee := Callee.value (Operand.func 29), args := #[Operand.tmp 79], argTypes := #[25] }, type := 4, pos := "ref.go:71", after := #[{ on := 1, ground := Ground.data }], guard := none }) 29 #[.agg #[.int .i64 c.f0, .int .i64 c.f1]] (by kernel_rfl) _ (file_any c.f0 c.f1 _) (by kernel_rfl) ?_
                    rintro e wk15 ⟨rfl, hk⟩
                    have HC : Hid (Box wk15 N 27 c.cells) := HC.out.kept hk (fun e => e)
                    have HF : Hid (Box wk15 (N + 1) 35 (wideC wa)) := HF.out.kept hk (fun e => e)
                    have HK : Hid (Kept No w wk15) := HK.out.then hk
                    clear hk
                    refine ⟨.bool false, by rw [q12], ?_⟩
                    try simp only [Act.put, List.setIfInBounds_toArray, List.set_cons_zero, List.set_cons_succ]
                    refine wp_takeW (o := { dst := some 81, op := Op.move (Operand.tmp 80), type := 4, pos := "ref.go:71", after := #[{ on := 2, ground := Ground.data }, { on := 2, ground := Ground.chain }], guard := none }) (.bool false) (by kernel_rfl) (by kernel_rfl) ?_
                    try simp only [Act.put, List.setIfInBounds_toArray, List.set_cons_zero, List.set_cons_succ]
                    refine wp_skip (o := { dst := some 82, op := Op.fieldAddr 27 (Operand.tmp 2) 6, type := 0, pos := "ref.go:71", after := #[{ on := 3, ground := Ground.guard }], guard := some (3, true) }) (by kernel_rfl) ?_
                    try simp only [Act.put, List.setIfInBounds_toArray, List.set_cons_zero, List.set_cons_succ]
                    refine wp_skip (o := { dst := some 83, op := Op.load 3 (Operand.tmp 82), type := 3, pos := "ref.go:71", after := #[{ on := 4, ground := Ground.data }, { on := 3, ground := Ground.guard }], guard := some (3, true) }) (by kernel_rfl) ?_
                    try simp only [Act.put, List.setIfInBounds_toArray, List.set_cons_zero, List.set_cons_succ]
                    refine wp_skip (o := { dst := some 84, op := Op.load 35 (Operand.tmp 3), type := 35, pos := "ref.go:71", after := #[{ on := 3, ground := Ground.guard }], guard := some (3, true) }) (by kernel_rfl) ?_
                    try simp only [Act.put, List.setIfInBounds_toArray, List.set_cons_zero, List.set_cons_succ]
                    refine wp_skip (o := { dst := some 85, op := Op.call { callee := Callee.value (Operand.func 30), args := #[Operand.tmp 83, Operand.tmp 84], argTypes := #[3, 35] }, type := 4, pos := "ref.go:71", after := #[{ on := 5, ground := Ground.data }, { on := 6, ground := Ground.data }, { on := 3, ground := Ground.chain }, { on := 3, ground := Ground.guard }], guard := some (3, true) }) (by kernel_rfl) ?_
                    try simp only [Act.put, List.setIfInBounds_toArray, List.set_cons_zero, List.set_cons_succ]
                    refine wp_takeW (o := { dst := some 86, op := Op.pick (Operand.tmp 81) (Operand.tmp 85) (Operand.const (Value.bool false)), type := 4, pos := "ref.go:71", after := #[{ on := 3, ground := Ground.data }, { on := 7, ground := Ground.data }], guard := none }) (.bool false) (by kernel_rfl) (by kernel_rfl) ?_
                    try simp only [Act.put, List.setIfInBounds_toArray, List.set_cons_zero, List.set_cons_succ]
                    refine wp_takeW (o := { dst := some 4, op := Op.assign (Operand.tmp 86), type := 4, pos := "ref.go:71", after := #[{ on := 8, ground := Ground.data }, { on := 7, ground := Ground.chain }, { on := 0, ground := Ground.phase }, { on := 1, ground := Ground.phase }, { on := 2, ground := Ground.phase }, { on := 3, ground := Ground.phase }, { on := 4, ground := Ground.phase }, { on := 5, ground := Ground.phase }, { on := 6, ground := Ground.phase }, { on := 7, ground := Ground.phase }, { on := 8, ground := Ground.phase }], guard := none }) (.bool false) (by kernel_rfl) (by kernel_rfl) ?_
                    try simp only [Act.put, List.setIfInBounds_toArray, List.set_cons_zero, List.set_cons_succ]
                    refine WL.nil ?_
                    try simp only [Act.put, List.setIfInBounds_toArray, List.set_cons_zero, List.set_cons_succ]
                    have hv : cmdB c = false := by first | (simp only [cmdB, q1, q2, q3, q4, q5, q6, q7, q11, q12]; rfl) | (unfold cmdB; rw [q1, q2, q3, q4, q5, q6, q7, q11, q12]; rfl) | simp [cmdB, q1, q2, q3, q4, q5, q6, q7, q11, q12]
                    go_wp2
                    go_ret
                    exact ⟨by rw [hv]; rfl, HK.out⟩
                  · skip
                    refine wp_callW (o := { dst := some 80, op := Op.call { callee := Callee.value (Operand.func 29), args := #[Operand.tmp 79], argTypes := #[25] }, type := 4, pos := "ref.go:71", after := #[{ on := 1, ground := Ground.data }], guard := none }) 29 #[.agg #[.int .i64 c.f0, .int .i64 c.f1]] (by kernel_rfl) _ (file_any c.f0 c.f1 _) (by kernel_rfl) ?_
                    rintro e wk16 ⟨rfl, hk⟩
                    have HC : Hid (Box wk16 N 27 c.cells) := HC.out.kept hk (fun e => e)
                    have HF : Hid (Box wk16 (N + 1) 35 (wideC wa)) := HF.out.kept hk (fun e => e)
                    have HK : Hid (Kept No w wk16) := HK.out.then hk
                    clear hk
                    refine ⟨.bool true, by rw [q12], ?_⟩
                    try simp only [Act.put, List.setIfInBounds_toArray, List.set_cons_zero, List.set_cons_succ]
                    refine wp_takeW (o := { dst := some 81, op := Op.move (Operand.tmp 80), type := 4, pos := "ref.go:71", after := #[{ on := 2, ground := Ground.data }, { on := 2, ground := Ground.chain }], guard := none }) (.bool true) (by kernel_rfl) (by kernel_rfl) ?_
                    try simp only [Act.put, List.setIfInBounds_toArray, List.set_cons_zero, List.set_cons_succ]
                    refine wp_takeW (o := { dst := some 82, op := Op.fieldAddr 27 (Operand.tmp 2) 6, type := 0, pos := "ref.go:71", after := #[{ on := 3, ground := Ground.guard }], guard := some (3, true) }) (.pointer (some ⟨N, 8, none⟩)) (by kernel_rfl) (by kernel_rfl) ?_
                    try simp only [Act.put, List.setIfInBounds_toArray, List.set_cons_zero, List.set_cons_succ]
                    refine wp_takeW (o := { dst := some 83, op := Op.load 3 (Operand.tmp 82), type := 3, pos := "ref.go:71", after := #[{ on := 4, ground := Ground.data }, { on := 3, ground := Ground.guard }], guard := some (3, true) }) (.int .i64 c.sz) (exec_load 3 _ rfl ⟨N, 8, none⟩ (by kernel_rfl) (.int .i64 c.sz) (load_N (Cm.cel HC.out).2.2.2.2)) (by kernel_rfl) ?_
                    try simp only [Act.put, List.setIfInBounds_toArray, List.set_cons_zero, List.set_cons_succ]
                    refine wp_takeW (o := { dst := some 84, op := Op.load 35 (Operand.tmp 3), type := 35, pos := "ref.go:71", after := #[{ on := 3, ground := Ground.guard }], guard := some (3, true) }) (.agg (wideC wa)) (exec_load 35 _ rfl ⟨N + 1, 0, none⟩ (by kernel_rfl) (.agg (wideC wa)) (load_W HF.out)) (by kernel_rfl) ?_
                    try simp only [Act.put, List.setIfInBounds_toArray, List.set_cons_zero, List.set_cons_succ]
                    cases q13 : (szB c.sz)
                    · skip
                      refine wp_callW (o := { dst := some 85, op := Op.call { callee := Callee.value (Operand.func 30), args := #[Operand.tmp 83, Operand.tmp 84], argTypes := #[3, 35] }, type := 4, pos := "ref.go:71", after := #[{ on := 5, ground := Ground.data }, { on := 6, ground := Ground.data }, { on := 3, ground := Ground.chain }, { on := 3, ground := Ground.guard }], guard := some (3, true) }) 30 #[.int .i64 c.sz, .agg (wideC wa)] (by kernel_rfl) _ (size_any c.sz wa _) (by kernel_rfl) ?_
                      rintro e wk17 ⟨rfl, hk⟩
                      have HC : Hid (Box wk17 N 27 c.cells) := HC.out.kept hk (fun e => e)
                      have HF : Hid (Box wk17 (N + 1) 35 (wideC wa)) := HF.out.kept hk (fun e => e)
                      have HK : Hid (Kept No w wk17) := HK.out.then hk
                      clear hk
                      refine ⟨.bool false, by rw [q13], ?_⟩
                      try simp only [Act.put, List.setIfInBounds_toArray, List.set_cons_zero, List.set_cons_succ]
                      refine wp_takeW (o := { dst := some 86, op := Op.pick (Operand.tmp 81) (Operand.tmp 85) (Operand.const (Value.bool false)), type := 4, pos := "ref.go:71", after := #[{ on := 3, ground := Ground.data }, { on := 7, ground := Ground.data }], guard := none }) (.bool false) (by kernel_rfl) (by kernel_rfl) ?_
                      try simp only [Act.put, List.setIfInBounds_toArray, List.set_cons_zero, List.set_cons_succ]
                      refine wp_takeW (o := { dst := some 4, op := Op.assign (Operand.tmp 86), type := 4, pos := "ref.go:71", after := #[{ on := 8, ground := Ground.data }, { on := 7, ground := Ground.chain }, { on := 0, ground := Ground.phase }, { on := 1, ground := Ground.phase }, { on := 2, ground := Ground.phase }, { on := 3, ground := Ground.phase }, { on := 4, ground := Ground.phase }, { on := 5, ground := Ground.phase }, { on := 6, ground := Ground.phase }, { on := 7, ground := Ground.phase }, { on := 8, ground := Ground.phase }], guard := none }) (.bool false) (by kernel_rfl) (by kernel_rfl) ?_
                      try simp only [Act.put, List.setIfInBounds_toArray, List.set_cons_zero, List.set_cons_succ]
                      refine WL.nil ?_
                      try simp only [Act.put, List.setIfInBounds_toArray, List.set_cons_zero, List.set_cons_succ]
                      have hv : cmdB c = false := by first | (simp only [cmdB, q1, q2, q3, q4, q5, q6, q7, q11, q12, q13]; rfl) | (unfold cmdB; rw [q1, q2, q3, q4, q5, q6, q7, q11, q12, q13]; rfl) | simp [cmdB, q1, q2, q3, q4, q5, q6, q7, q11, q12, q13]
                      go_wp2
                      go_ret
                      exact ⟨by rw [hv]; rfl, HK.out⟩
                    · skip
                      refine wp_callW (o := { dst := some 85, op := Op.call { callee := Callee.value (Operand.func 30), args := #[Operand.tmp 83, Operand.tmp 84], argTypes := #[3, 35] }, type := 4, pos := "ref.go:71", after := #[{ on := 5, ground := Ground.data }, { on := 6, ground := Ground.data }, { on := 3, ground := Ground.chain }, { on := 3, ground := Ground.guard }], guard := some (3, true) }) 30 #[.int .i64 c.sz, .agg (wideC wa)] (by kernel_rfl) _ (size_any c.sz wa _) (by kernel_rfl) ?_
                      rintro e wk18 ⟨rfl, hk⟩
                      have HC : Hid (Box wk18 N 27 c.cells) := HC.out.kept hk (fun e => e)
                      have HF : Hid (Box wk18 (N + 1) 35 (wideC wa)) := HF.out.kept hk (fun e => e)
                      have HK : Hid (Kept No w wk18) := HK.out.then hk
                      clear hk
                      refine ⟨.bool true, by rw [q13], ?_⟩
                      try simp only [Act.put, List.setIfInBounds_toArray, List.set_cons_zero, List.set_cons_succ]
                      refine wp_takeW (o := { dst := some 86, op := Op.pick (Operand.tmp 81) (Operand.tmp 85) (Operand.const (Value.bool false)), type := 4, pos := "ref.go:71", after := #[{ on := 3, ground := Ground.data }, { on := 7, ground := Ground.data }], guard := none }) (.bool true) (by kernel_rfl) (by kernel_rfl) ?_
                      try simp only [Act.put, List.setIfInBounds_toArray, List.set_cons_zero, List.set_cons_succ]
                      refine wp_takeW (o := { dst := some 4, op := Op.assign (Operand.tmp 86), type := 4, pos := "ref.go:71", after := #[{ on := 8, ground := Ground.data }, { on := 7, ground := Ground.chain }, { on := 0, ground := Ground.phase }, { on := 1, ground := Ground.phase }, { on := 2, ground := Ground.phase }, { on := 3, ground := Ground.phase }, { on := 4, ground := Ground.phase }, { on := 5, ground := Ground.phase }, { on := 6, ground := Ground.phase }, { on := 7, ground := Ground.phase }, { on := 8, ground := Ground.phase }], guard := none }) (.bool true) (by kernel_rfl) (by kernel_rfl) ?_
                      try simp only [Act.put, List.setIfInBounds_toArray, List.set_cons_zero, List.set_cons_succ]
                      refine WL.nil ?_
                      try simp only [Act.put, List.setIfInBounds_toArray, List.set_cons_zero, List.set_cons_succ]
                      have hv : cmdB c = true := by first | (simp only [cmdB, q1, q2, q3, q4, q5, q6, q7, q11, q12, q13]; rfl) | (unfold cmdB; rw [q1, q2, q3, q4, q5, q6, q7, q11, q12, q13]; rfl) | simp [cmdB, q1, q2, q3, q4, q5, q6, q7, q11, q12, q13]
                      go_wp2
                      go_ret
                      exact ⟨by rw [hv]; rfl, HK.out⟩
            · skip
              refine wp_takeW (o := { dst := some 42, op := Op.binOp BinOp.lss 3 (Operand.tmp 41) (Operand.const (Value.int IntKind.i64 5)) 3, type := 4, pos := "ref.go:65", after := #[{ on := 1, ground := Ground.data }], guard := none }) (.bool true) (exec_bin .lss 3 _ _ _ rfl (.int .i64 c.k) (.int .i64 5) (.bool true) (by kernel_rfl) (by kernel_rfl) (by kernel_rfl) (by rw [lssN, q6]; try rfl)) (by kernel_rfl) ?_
              try simp only [Act.put, List.setIfInBounds_toArray, List.set_cons_zero, List.set_cons_succ]
              refine WL.nil ?_
              try simp only [Act.put, List.setIfInBounds_toArray, List.set_cons_zero, List.set_cons_succ]
              go_upto_region 6 with fail
              refine WL.start ?_
              refine wp_takeW (o := { dst := some 43, op := Op.fieldAddr 27 (Operand.tmp 2) 4, type := 0, pos := "ref.go:66", after := #[], guard := none }) (.pointer (some ⟨N, 4, none⟩)) (by kernel_rfl) (by kernel_rfl) ?_
              try simp only [Act.put, List.setIfInBounds_toArray, List.set_cons_zero, List.set_cons_succ]
              refine wp_takeW (o := { dst := some 44, op := Op.load 25 (Operand.tmp 43), type := 25, pos := "ref.go:66", after := #[{ on := 0, ground := Ground.data }], guard := none }) (.agg #[.int .i64 c.f0, .int .i64 c.f1]) (exec_load 25 _ rfl ⟨N, 4, none⟩ (by kernel_rfl) (.agg #[.int .i64 c.f0, .int .i64 c.f1]) (load_F HC.out c.partF)) (by kernel_rfl) ?_
              try simp only [Act.put, List.setIfInBounds_toArray, List.set_cons_zero, List.set_cons_succ]
              refine wp_takeW (o := { dst := some 45, op := Op.build 25 #[], type := 25, pos := "ref.go:66", after := #[], guard := none }) (.agg (#[.int .i64 0, .int .i64 0])) (exec_build 25 _ rfl (#[.int .i64 0, .int .i64 0]) (by kernel_rfl)) (by kernel_rfl) ?_
              try simp only [Act.put, List.setIfInBounds_toArray, List.set_cons_zero, List.set_cons_succ]
              cases q14 : (c.f0 == 0 && c.f1 == 0)
              · skip
                refine wp_takeW (o := { dst := some 46, op := Op.binOp BinOp.eql 25 (Operand.tmp 44) (Operand.tmp 45) 25, type := 4, pos := "ref.go:66", after := #[{ on := 1, ground := Ground.data }, { on := 2, ground := Ground.data }], guard := none }) (.bool false) (exec_bin .eql 25 _ _ _ rfl (.agg #[.int .i64 c.f0, .int .i64 c.f1]) (.agg (#[.int .i64 0, .int .i64 0])) (.bool false) (by kernel_rfl) (by kernel_rfl) (guard_F _ (.inl rfl) _ _ _ _ _) (by rw [eqlF, q14]; try rfl)) (by kernel_rfl) ?_
                try simp only [Act.put, List.setIfInBounds_toArray, List.set_cons_zero, List.set_cons_succ]
                refine wp_takeW (o := { dst := some 47, op := Op.move (Operand.tmp 46), type := 4, pos := "ref.go:66", after := #[{ on := 3, ground := Ground.data }], guard := none }) (.bool false) (by kernel_rfl) (by kernel_rfl) ?_
                try simp only [Act.put, List.setIfInBounds_toArray, List.set_cons_zero, List.set_cons_succ]
                refine wp_skip (o := { dst := some 48, op := Op.fieldAddr 27 (Operand.tmp 2) 5, type := 0, pos := "ref.go:66", after := #[{ on := 4, ground := Ground.guard }], guard := some (4, true) }) (by kernel_rfl) ?_
                try simp only [Act.put, List.setIfInBounds_toArray, List.set_cons_zero, List.set_cons_succ]
                refine wp_skip (o := { dst := some 49, op := Op.load 25 (Operand.tmp 48), type := 25, pos := "ref.go:66", after := #[{ on := 5, ground := Ground.data }, { on := 4, ground := Ground.guard }], guard := some (4, true) }) (by kernel_rfl) ?_
                try simp only [Act.put, List.setIfInBounds_toArray, List.set_cons_zero, List.set_cons_succ]
                refine wp_skip (o := { dst := some 50, op := Op.build 25 #[], type := 25, pos := "ref.go:66", after := #[{ on := 4, ground := Ground.guard }], guard := some (4, true) }) (by kernel_rfl) ?_
                try simp only [Act.put, List.setIfInBounds_toArray, List.set_cons_zero, List.set_cons_succ]
                refine wp_skip (o := { dst := some 51, op := Op.binOp BinOp.eql 25 (Operand.tmp 49) (Operand.tmp 50) 25, type := 4, pos := "ref.go:66", after := #[{ on := 6, ground := Ground.data }, { on := 7, ground := Ground.data }, { on := 4, ground := Ground.guard }], guard := some (4, true) }) (by kernel_rfl) ?_
                try simp only [Act.put, List.setIfInBounds_toArray, List.set_cons_zero, List.set_cons_succ]
                refine wp_takeW (o := { dst := some 52, op := Op.pick (Operand.tmp 47) (Operand.tmp 51) (Operand.const (Value.bool false)), type := 4, pos := "ref.go:66", after := #[{ on := 4, ground := Ground.data }, { on := 8, ground := Ground.data }], guard := none }) (.bool false) (by kernel_rfl) (by kernel_rfl) ?_
                try simp only [Act.put, List.setIfInBounds_toArray, List.set_cons_zero, List.set_cons_succ]
                refine wp_takeW (o := { dst := some 53, op := Op.move (Operand.tmp 52), type := 4, pos := "ref.go:66", after := #[{ on := 9, ground := Ground.data }, { on := 4, ground := Ground.chain }], guard := none }) (.bool false) (by kernel_rfl) (by kernel_rfl) ?_
                try simp only [Act.put, List.setIfInBounds_toArray, List.set_cons_zero, List.set_cons_succ]
                refine wp_skip (o := { dst := some 54, op := Op.fieldAddr 27 (Operand.tmp 2) 6, type := 0, pos := "ref.go:66", after := #[{ on := 10, ground := Ground.guard }], guard := some (10, true) }) (by kernel_rfl) ?_
                try simp only [Act.put, List.setIfInBounds_toArray, List.set_cons_zero, List.set_cons_succ]
                refine wp_skip (o := { dst := some 55, op := Op.load 3 (Operand.tmp 54), type := 3, pos := "ref.go:66", after := #[{ on := 11, ground := Ground.data }, { on := 10, ground := Ground.guard }], guard := some (10, true) }) (by kernel_rfl) ?_
                try simp only [Act.put, List.setIfInBounds_toArray, List.set_cons_zero, List.set_cons_succ]
                refine wp_skip (o := { dst := some 56, op := Op.binOp BinOp.eql 3 (Operand.tmp 55) (Operand.const (Value.int IntKind.i64 0)) 3, type := 4, pos := "ref.go:66", after := #[{ on := 12, ground := Ground.data }, { on := 10, ground := Ground.guard }], guard := some (10, true) }) (by kernel_rfl) ?_
                try simp only [Act.put, List.setIfInBounds_toArray, List.set_cons_zero, List.set_cons_succ]
                refine wp_takeW (o := { dst := some 57, op := Op.pick (Operand.tmp 53) (Operand.tmp 56) (Operand.const (Value.bool false)), type := 4, pos := "ref.go:66", after := #[{ on := 10, ground := Ground.data }, { on := 13, ground := Ground.data }], guard := none }) (.bool false) (by kernel_rfl) (by kernel_rfl) ?_
                try simp only [Act.put, List.setIfInBounds_toArray, List.set_cons_zero, List.set_cons_succ]
                refine wp_takeW (o := { dst := some 4, op := Op.assign (Operand.tmp 57), type := 4, pos := "ref.go:66", after := #[{ on := 14, ground := Ground.data }, { on := 10, ground := Ground.chain }, { on := 0, ground := Ground.phase }, { on := 1, ground := Ground.phase }, { on := 2, ground := Ground.phase }, { on := 3, ground := Ground.phase }, { on := 4, ground := Ground.phase }, { on := 5, ground := Ground.phase }, { on := 6, ground := Ground.phase }, { on := 7, ground := Ground.phase }, { on := 8, ground := Ground.phase }, { on := 9, ground := Ground.phase }, { on := 10, ground := Ground.phase }, { on := 11, ground := Ground.phase }, { on := 12, ground := Ground.phase }, { on := 13, ground := Ground.phase }, { on := 14, ground := Ground.phase }], guard := none }) (.bool false) (by kernel_rfl) (by kernel_rfl) ?_
                try simp only [Act.put, List.setIfInBounds_toArray, List.set_cons_zero, List.set_cons_succ]
                refine WL.nil ?_
                try simp only [Act.put, List.setIfInBounds_toArray, List.set_cons_zero, List.set_cons_succ]
                have hv : cmdB c = false := by first | (simp only [cmdB, q1, q2, q3, q4, q5, q6, q14]; rfl) | (unfold cmdB; rw [q1, q2, q3, q4, q5, q6, q14]; rfl) | simp [cmdB, q1, q2, q3, q4, q5, q6, q14]
                go_wp2
                go_ret
                exact ⟨by rw [hv]; rfl, HK.out⟩
              · skip
                refine wp_takeW (o := { dst := some 46, op := Op.binOp BinOp.eql 25 (Operand.tmp 44) (Operand.tmp 45) 25, type := 4, pos := "ref.go:66", after := #[{ on := 1, ground := Ground.data }, { on := 2, ground := Ground.data }], guard := none }) (.bool true) (exec_bin .eql 25 _ _ _ rfl (.agg #[.int .i64 c.f0, .int .i64 c.f1]) (.agg (#[.int .i64 0, .int .i64 0])) (.bool true) (by kernel_rfl) (by kernel_rfl) (guard_F _ (.inl rfl) _ _ _ _ _) (by rw [eqlF, q14]; try rfl)) (by kernel_rfl) ?_
                try simp only [Act.put, List.setIfInBounds_toArray, List.set_cons_zero, List.set_cons_succ]
                refine wp_takeW (o := { dst := some 47, op := Op.move (Operand.tmp 46), type := 4, pos := "ref.go:66", after := #[{ on := 3, ground := Ground.data }], guard := none }) (.bool true) (by kernel_rfl) (by kernel_rfl) ?_
                try simp only [Act.put, List.setIfInBounds_toArray, List.set_cons_zero, List.set_cons_succ]
                refine wp_takeW (o := { dst := some 48, op := Op.fieldAddr 27 (Operand.tmp 2) 5, type := 0, pos := "ref.go:66", after := #[{ on := 4, ground := Ground.guard }], guard := some (4, true) }) (.pointer (some ⟨N, 6, none⟩)) (by kernel_rfl) (by kernel_rfl) ?_
                try simp only [Act.put, List.setIfInBounds_toArray, List.set_cons_zero, List.set_cons_succ]
                refine wp_takeW (o := { dst := some 49, op := Op.load 25 (Operand.tmp 48), type := 25, pos := "ref.go:66", after := #[{ on := 5, ground := Ground.data }, { on := 4, ground := Ground.guard }], guard := some (4, true) }) (.agg #[.int .i64 c.g0, .int .i64 c.g1]) (exec_load 25 _ rfl ⟨N, 6, none⟩ (by kernel_rfl) (.agg #[.int .i64 c.g0, .int .i64 c.g1]) (load_F HC.out c.partG)) (by kernel_rfl) ?_
                try simp only [Act.put, List.setIfInBounds_toArray, List.set_cons_zero, List.set_cons_succ]
                refine wp_takeW (o := { dst := some 50, op := Op.build 25 #[], type := 25, pos := "ref.go:66", after := #[{ on := 4, ground := Ground.guard }], guard := some (4, true) }) (.agg (#[.int .i64 0, .int .i64 0])) (exec_build 25 _ rfl (#[.int .i64 0, .int .i64 0]) (by kernel_rfl)) (by kernel_rfl) ?_
                try simp only [Act.put, List.setIfInBounds_toArray, List.set_cons_zero, List.set_cons_succ]
                cases q15 : (c.g0 == 0 && c.g1 == 0)
                · skip
                  refine wp_takeW (o := { dst := some 51, op := Op.binOp BinOp.eql 25 (Operand.tmp 49) (Operand.tmp 50) 25, type := 4, pos := "ref.go:66", after := #[{ on := 6, ground := Ground.data }, { on := 7, ground := Ground.data }, { on := 4, ground := Ground.guard }], guard := some (4, true) }) (.bool false) (exec_bin .eql 25 _ _ _ rfl (.agg #[.int .i64 c.g0, .int .i64 c.g1]) (.agg (#[.int .i64 0, .int .i64 0])) (.bool false) (by kernel_rfl) (by kernel_rfl) (guard_F _ (.inl rfl) _ _ _ _ _) (by rw [eqlF, q15]; try rfl)) (by kernel_rfl) ?_
                  try simp only [Act.put, List.setIfInBounds_toArray, List.set_cons_zero, List.set_cons_succ]
                  refine wp_takeW (o := { dst := some 52, op := Op.pick (Operand.tmp 47) (Operand.tmp 51) (Operand.const (Value.bool false)), type := 4, pos := "ref.go:66", after := #[{ on := 4, ground := Ground.data }, { on := 8, ground := Ground.data }], guard := none }) (.bool false) (by kernel_rfl) (by kernel_rfl) ?_
                  try simp only [Act.put, List.setIfInBounds_toArray, List.set_cons_zero, List.set_cons_succ]
                  refine wp_takeW (o := { dst := some 53, op := Op.move (Operand.tmp 52), type := 4, pos := "ref.go:66", after := #[{ on := 9, ground := Ground.data }, { on := 4, ground := Ground.chain }], guard := none }) (.bool false) (by kernel_rfl) (by kernel_rfl) ?_
                  try simp only [Act.put, List.setIfInBounds_toArray, List.set_cons_zero, List.set_cons_succ]
                  refine wp_skip (o := { dst := some 54, op := Op.fieldAddr 27 (Operand.tmp 2) 6, type := 0, pos := "ref.go:66", after := #[{ on := 10, ground := Ground.guard }], guard := some (10, true) }) (by kernel_rfl) ?_
                  try simp only [Act.put, List.setIfInBounds_toArray, List.set_cons_zero, List.set_cons_succ]
                  refine wp_skip (o := { dst := some 55, op := Op.load 3 (Operand.tmp 54), type := 3, pos := "ref.go:66", after := #[{ on := 11, ground := Ground.data }, { on := 10, ground := Ground.guard }], guard := some (10, true) }) (by kernel_rfl) ?_
                  try simp only [Act.put, List.setIfInBounds_toArray, List.set_cons_zero, List.set_cons_succ]
                  refine wp_skip (o := { dst := some 56, op := Op.binOp BinOp.eql 3 (Operand.tmp 55) (Operand.const (Value.int IntKind.i64 0)) 3, type := 4, pos := "ref.go:66", after := #[{ on := 12, ground := Ground.data }, { on := 10, ground := Ground.guard }], guard := some (10, true) }) (by kernel_rfl) ?_
                  try simp only [Act.put, List.setIfInBounds_toArray, List.set_cons_zero, List.set_cons_succ]
                  refine wp_takeW (o := { dst := some 57, op := Op.pick (Operand.tmp 53) (Operand.tmp 56) (Operand.const (Value.bool false)), type := 4, pos := "ref.go:66", after := #[{ on := 10, ground := Ground.data }, { on := 13, ground := Ground.data }], guard := none }) (.bool false) (by kernel_rfl) (by kernel_rfl) ?_
                  try simp only [Act.put, List.setIfInBounds_toArray, List.set_cons_zero, List.set_cons_succ]
                  refine wp_takeW (o := { dst := some 4, op := Op.assign (Operand.tmp 57), type := 4, pos := "ref.go:66", after := #[{ on := 14, ground := Ground.data }, { on := 10, ground := Ground.chain }, { on := 0, ground := Ground.phase }, { on := 1, ground := Ground.phase }, { on := 2, ground := Ground.phase }, { on := 3, ground := Ground.phase }, { on := 4, ground := Ground.phase }, { on := 5, ground := Ground.phase }, { on := 6, ground := Ground.phase }, { on := 7, ground := Ground.phase }, { on := 8, ground := Ground.phase }, { on := 9, ground := Ground.phase }, { on := 10, ground := Ground.phase }, { on := 11, ground := Ground.phase }, { on := 12, ground := Ground.phase }, { on := 13, ground := Ground.phase }, { on := 14, ground := Ground.phase }], guard := none }) (.bool false) (by kernel_rfl) (by kernel_rfl) ?_
                  try simp only [Act.put, List.setIfInBounds_toArray, List.set_cons_zero, List.set_cons_succ]
                  refine WL.nil ?_
                  try simp only [Act.put, List.setIfInBounds_toArray, List.set_cons_zero, List.set_cons_succ]
                  have hv : cmdB c = false := by first | (simp only [cmdB, q1, q2, q3, q4, q5, q6, q14, q15]; rfl) | (unfold cmdB; rw [q1, q2, q3, q4, q5, q6, q14, q15]; rfl) | simp [cmdB, q1, q2, q3, q4, q5, q6, q14, q15]
                  go_wp2
                  go_ret
                  exact ⟨by rw [hv]; rfl, HK.out⟩
                · skip
                  refine wp_takeW (o := { dst := some 51, op := Op.binOp BinOp.eql 25 (Operand.tmp 49) (Operand.tmp 50) 25, type := 4, pos := "ref.go:66", after := #[{ on := 6, ground := Ground.data }, { on := 7, ground := Ground.data }, { on := 4, ground := Ground.guard }], guard := some (4, true) }) (.bool true) (exec_bin .eql 25 _ _ _ rfl (.agg #[.int .i64 c.g0, .int .i64 c.g1]) (.agg (#[.int .i64 0, .int .i64 0])) (.bool true) (by kernel_rfl) (by kernel_rfl) (guard_F _ (.inl rfl) _ _ _ _ _) (by rw [eqlF, q15]; try rfl)) (by kernel_rfl) ?_
                  try simp only [Act.put, List.setIfInBounds_toArray, List.set_cons_zero, List.set_cons_succ]
                  refine wp_takeW (o := { dst := some 52, op := Op.pick (Operand.tmp 47) (Operand.tmp 51) (Operand.const (Value.bool false)), type := 4, pos := "ref.go:66", after := #[{ on := 4, ground := Ground.data }, { on := 8, ground := Ground.data }], guard := none }) (.bool true) (by kernel_rfl) (by kernel_rfl) ?_
                  try simp only [Act.put, List.setIfInBounds_toArray, List.set_cons_zero, List.set_cons_succ]
                  refine wp_takeW (o := { dst := some 53, op := Op.move (Operand.tmp 52), type := 4, pos := "ref.go:66", after := #[{ on := 9, ground := Ground.data }, { on := 4, ground := Ground.chain }], guard := none }) (.bool true) (by kernel_rfl) (by kernel_rfl) ?_
                  try simp only [Act.put, List.setIfInBounds_toArray, List.set_cons_zero, List.set_cons_succ]
                  refine wp_takeW (o := { dst := some 54, op := Op.fieldAddr 27 (Operand.tmp 2) 6, type := 0, pos := "ref.go:66", after := #[{ on := 10, ground := Ground.guard }], guard := some (10, true) }) (.pointer (some ⟨N, 8, none⟩)) (by kernel_rfl) (by kernel_rfl) ?_
                  try simp only [Act.put, List.setIfInBounds_toArray, List.set_cons_zero, List.set_cons_succ]
                  refine wp_takeW (o := { dst := some 55, op := Op.load 3 (Operand.tmp 54), type := 3, pos := "ref.go:66", after := #[{ on := 11, ground := Ground.data }, { on := 10, ground := Ground.guard }], guard := some (10, true) }) (.int .i64 c.sz) (exec_load 3 _ rfl ⟨N, 8, none⟩ (by kernel_rfl) (.int .i64 c.sz) (load_N (Cm.cel HC.out).2.2.2.2)) (by kernel_rfl) ?_
                  try simp only [Act.put, List.setIfInBounds_toArray, List.set_cons_zero, List.set_cons_succ]
                  cases q16 : (c.sz == 0)
                  · skip
                    refine wp_takeW (o := { dst := some 56, op := Op.binOp BinOp.eql 3 (Operand.tmp 55) (Operand.const (Value.int IntKind.i64 0)) 3, type := 4, pos := "ref.go:66", after := #[{ on := 12, ground := Ground.data }, { on := 10, ground := Ground.guard }], guard := some (10, true) }) (.bool false) (exec_bin .eql 3 _ _ _ rfl (.int .i64 c.sz) (.int .i64 0) (.bool false) (by kernel_rfl) (by kernel_rfl) (by kernel_rfl) (by rw [eqlN, q16]; try rfl)) (by kernel_rfl) ?_
                    try simp only [Act.put, List.setIfInBounds_toArray, List.set_cons_zero, List.set_cons_succ]
                    refine wp_takeW (o := { dst := some 57, op := Op.pick (Operand.tmp 53) (Operand.tmp 56) (Operand.const (Value.bool false)), type := 4, pos := "ref.go:66", after := #[{ on := 10, ground := Ground.data }, { on := 13, ground := Ground.data }], guard := none }) (.bool false) (by kernel_rfl) (by kernel_rfl) ?_
                    try simp only [Act.put, List.setIfInBounds_toArray, List.set_cons_zero, List.set_cons_succ]
                    refine wp_takeW (o := { dst := some 4, op := Op.assign (Operand.tmp 57), type := 4, pos := "ref.go:66", after := #[{ on := 14, ground := Ground.data }, { on := 10, ground := Ground.chain }, { on := 0, ground := Ground.phase }, { on := 1, ground := Ground.phase }, { on := 2, ground := Ground.phase }, { on := 3, ground := Ground.phase }, { on := 4, ground := Ground.phase }, { on := 5, ground := Ground.phase }, { on := 6, ground := Ground.phase }, { on := 7, ground := Ground.phase }, { on := 8, ground := Ground.phase }, { on := 9, ground := Ground.phase }, { on := 10, ground := Ground.phase }, { on := 11, ground := Ground.phase }, { on := 12, ground := Ground.phase }, { on := 13, ground := Ground.phase }, { on := 14, ground := Ground.phase }], guard := none }) (.bool false) (by kernel_rfl) (by kernel_rfl) ?_
                    try simp only [Act.put, List.setIfInBounds_toArray, List.set_cons_zero, List.set_cons_succ]
                    refine WL.nil ?_
                    try simp only [Act.put, List.setIfInBounds_toArray, List.set_cons_zero, List.set_cons_succ]
                    have hv : cmdB c = false := by first | (simp only [cmdB, q1, q2, q3, q4, q5, q6, q14, q15, q16]; rfl) | (unfold cmdB; rw [q1, q2, q3, q4, q5, q6, q14, q15, q16]; rfl) | simp [cmdB, q1, q2, q3, q4, q5, q6, q14, q15, q16]
                    go_wp2
                    go_ret
                    exact ⟨by rw [hv]; rfl, HK.out⟩
                  · skip
                    refine wp_takeW (o := { dst := some 56, op := Op.binOp BinOp.eql 3 (Operand.tmp 55) (Operand.const (Value.int IntKind.i64 0)) 3, type := 4, pos := "ref.go:66", after := #[{ on := 12, ground := Ground.data }, { on := 10, ground := Ground.guard }], guard := some (10, true) }) (.bool true) (exec_bin .eql 3 _ _ _ rfl (.int .i64 c.sz) (.int .i64 0) (.bool true) (by kernel_rfl) (by kernel_rfl) (by kernel_rfl) (by rw [eqlN, q16]; try rfl)) (by kernel_rfl) ?_
                    try simp only [Act.put, List.setIfInBounds_toArray, List.set_cons_zero, List.set_cons_succ]
                    refine wp_takeW (o := { dst := some 57, op := Op.pick (Operand.tmp 53) (Operand.tmp 56) (Operand.const (Value.bool false)), type := 4, pos := "ref.go:66", after := #[{ on := 10, ground := Ground.data }, { on := 13, ground := Ground.data }], guard := none }) (.bool true) (by kernel_rfl) (by kernel_rfl) ?_
                    try simp only [Act.put, List.setIfInBounds_toArray, List.set_cons_zero, List.set_cons_succ]
                    refine wp_takeW (o := { dst := some 4, op := Op.assign (Operand.tmp 57), type := 4, pos := "ref.go:66", after := #[{ on := 14, ground := Ground.data }, { on := 10, ground := Ground.chain }, { on := 0, ground := Ground.phase }, { on := 1, ground := Ground.phase }, { on := 2, ground := Ground.phase }, { on := 3, ground := Ground.phase }, { on := 4, ground := Ground.phase }, { on := 5, ground := Ground.phase }, { on := 6, ground := Ground.phase }, { on := 7, ground := Ground.phase }, { on := 8, ground := Ground.phase }, { on := 9, ground := Ground.phase }, { on := 10, ground := Ground.phase }, { on := 11, ground := Ground.phase }, { on := 12, ground := Ground.phase }, { on := 13, ground := Ground.phase }, { on := 14, ground := Ground.phase }], guard := none }) (.bool true) (by kernel_rfl) (by kernel_rfl) ?_
                    try simp only [Act.put, List.setIfInBounds_toArray, List.set_cons_zero, List.set_cons_succ]
                    refine WL.nil ?_
                    try simp only [Act.put, List.setIfInBounds_toArray, List.set_cons_zero, List.set_cons_succ]
                    have hv : cmdB c = true := by first | (simp only [cmdB, q1, q2, q3, q4, q5, q6, q14, q15, q16]; rfl) | (unfold cmdB; rw [q1, q2, q3, q4, q5, q6, q14, q15, q16]; rfl) | simp [cmdB, q1, q2, q3, q4, q5, q6, q14, q15, q16]
                    go_wp2
                    go_ret
                    exact ⟨by rw [hv]; rfl, HK.out⟩
        · skip
          refine wp_takeW (o := { dst := some 23, op := Op.binOp BinOp.eql 3 (Operand.tmp 22) (Operand.const (Value.int IntKind.i64 4)) 3, type := 4, pos := "ref.go:62", after := #[{ on := 1, ground := Ground.data }], guard := none }) (.bool true) (exec_bin .eql 3 _ _ _ rfl (.int .i64 c.k) (.int .i64 4) (.bool true) (by kernel_rfl) (by kernel_rfl) (by kernel_rfl) (by rw [eqlN, q4]; try rfl)) (by kernel_rfl) ?_
          try simp only [Act.put, List.setIfInBounds_toArray, List.set_cons_zero, List.set_cons_succ]
          refine wp_takeW (o := { dst := some 24, op := Op.move (Operand.tmp 23), type := 4, pos := "ref.go:62", after := #[{ on := 2, ground := Ground.data }], guard := none }) (.bool true) (by kernel_rfl) (by kernel_rfl) ?_
          try simp only [Act.put, List.setIfInBounds_toArray, List.set_cons_zero, List.set_cons_succ]
          refine wp_takeW (o := { dst := some 25, op := Op.fieldAddr 27 (Operand.tmp 2) 3, type := 0, pos := "ref.go:62", after := #[{ on := 3, ground := Ground.guard }], guard := some (3, true) }) (.pointer (some ⟨N, 3, none⟩)) (by kernel_rfl) (by kernel_rfl) ?_
          try simp only [Act.put, List.setIfInBounds_toArray, List.set_cons_zero, List.set_cons_succ]
          refine wp_takeW (o := { dst := some 26, op := Op.load 9 (Operand.tmp 25), type := 9, pos := "ref.go:62", after := #[{ on := 4, ground := Ground.data }, { on := 3, ground := Ground.guard }], guard := some (3, true) }) (.string c.nm) (exec_load 9 _ rfl ⟨N, 3, none⟩ (by kernel_rfl) (.string c.nm) (load_T (Cm.cel HC.out).2.2.2.1)) (by kernel_rfl) ?_
          try simp only [Act.put, List.setIfInBounds_toArray, List.set_cons_zero, List.set_cons_succ]
          cases q17 : (c.nm.toList == (⟨#[]⟩ : ByteArray).toList)
          · skip
            refine wp_takeW (o := { dst := some 27, op := Op.binOp BinOp.neq 9 (Operand.tmp 26) (Operand.const (Value.string { data := #[] })) 9, type := 4, pos := "ref.go:62", after := #[{ on := 5, ground := Ground.data }, { on := 3, ground := Ground.guard }], guard := some (3, true) }) (.bool true) (exec_bin .neq 9 _ _ _ rfl (.string c.nm) (.string ⟨#[]⟩) (.bool true) (by kernel_rfl) (by kernel_rfl) (by kernel_rfl) (by rw [neqT, q17]; try rfl)) (by kernel_rfl) ?_
            try simp only [Act.put, List.setIfInBounds_toArray, List.set_cons_zero, List.set_cons_succ]
            refine wp_takeW (o := { dst := some 28, op := Op.pick (Operand.tmp 24) (Operand.tmp 27) (Operand.const (Value.bool false)), type := 4, pos := "ref.go:62", after := #[{ on := 3, ground := Ground.data }, { on := 6, ground := Ground.data }], guard := none }) (.bool true) (by kernel_rfl) (by kernel_rfl) ?_
            try simp only [Act.put, List.setIfInBounds_toArray, List.set_cons_zero, List.set_cons_succ]
            refine wp_takeW (o := { dst := some 29, op := Op.move (Operand.tmp 28), type := 4, pos := "ref.go:62", after := #[{ on := 7, ground := Ground.data }, { on := 3, ground := Ground.chain }], guard := none }) (.bool true) (by kernel_rfl) (by kernel_rfl) ?_
            try simp only [Act.put, List.setIfInBounds_toArray, List.set_cons_zero, List.set_cons_succ]
            refine wp_skip (o := { dst := some 30, op := Op.fieldAddr 27 (Operand.tmp 2) 0, type := 0, pos := "ref.go:62", after := #[{ on := 8, ground := Ground.guard }], guard := some (8, false) }) (by kernel_rfl) ?_
            try simp only [Act.put, List.setIfInBounds_toArray, List.set_cons_zero, List.set_cons_succ]
            refine wp_skip (o := { dst := some 31, op := Op.load 3 (Operand.tmp 30), type := 3, pos := "ref.go:62", after := #[{ on := 9, ground := Ground.data }, { on := 8, ground := Ground.guard }], guard := some (8, false) }) (by kernel_rfl) ?_
            try simp only [Act.put, List.setIfInBounds_toArray, List.set_cons_zero, List.set_cons_succ]
            refine wp_skip (o := { dst := some 32, op := Op.binOp BinOp.neq 3 (Operand.tmp 31) (Operand.const (Value.int IntKind.i64 4)) 3, type := 4, pos := "ref.go:62", after := #[{ on := 10, ground := Ground.data }, { on := 8, ground := Ground.guard }], guard := some (8, false) }) (by kernel_rfl) ?_
            try simp only [Act.put, List.setIfInBounds_toArray, List.set_cons_zero, List.set_cons_succ]
            refine wp_skip (o := { dst := some 33, op := Op.move (Operand.tmp 32), type := 4, pos := "ref.go:62", after := #[{ on := 11, ground := Ground.data }, { on := 8, ground := Ground.chain }, { on := 8, ground := Ground.guard }], guard := some (8, false) }) (by kernel_rfl) ?_
            try simp only [Act.put, List.setIfInBounds_toArray, List.set_cons_zero, List.set_cons_succ]
            refine wp_skip (o := { dst := some 34, op := Op.fieldAddr 27 (Operand.tmp 2) 3, type := 0, pos := "ref.go:62", after := #[{ on := 12, ground := Ground.guard }], guard := some (12, true) }) (by kernel_rfl) ?_
            try simp only [Act.put, List.setIfInBounds_toArray, List.set_cons_zero, List.set_cons_succ]
            refine wp_skip (o := { dst := some 35, op := Op.load 9 (Operand.tmp 34), type := 9, pos := "ref.go:62", after := #[{ on := 13, ground := Ground.data }, { on := 12, ground := Ground.guard }], guard := some (12, true) }) (by kernel_rfl) ?_
            try simp only [Act.put, List.setIfInBounds_toArray, List.set_cons_zero, List.set_cons_succ]
            refine wp_skip (o := { dst := some 36, op := Op.call { callee := Callee.value (Operand.func 28), args := #[Operand.tmp 35], argTypes := #[9] }, type := 4, pos := "ref.go:62", after := #[{ on := 14, ground := Ground.data }, { on := 12, ground := Ground.chain }, { on := 12, ground := Ground.guard }], guard := some (12, true) }) (by kernel_rfl) ?_
            try simp only [Act.put, List.setIfInBounds_toArray, List.set_cons_zero, List.set_cons_succ]
            refine wp_skip (o := { dst := some 37, op := Op.unOp UnOp.not 4 (Operand.tmp 36), type := 4, pos := "ref.go:62", after := #[{ on := 15, ground := Ground.data }, { on := 12, ground := Ground.guard }], guard := some (12, true) }) (by kernel_rfl) ?_
            try simp only [Act.put, List.setIfInBounds_toArray, List.set_cons_zero, List.set_cons_succ]
            refine wp_skip (o := { dst := some 38, op := Op.pick (Operand.tmp 33) (Operand.tmp 37) (Operand.const (Value.bool false)), type := 4, pos := "ref.go:62", after := #[{ on := 12, ground := Ground.data }, { on := 16, ground := Ground.data }, { on := 8, ground := Ground.guard }], guard := some (8, false) }) (by kernel_rfl) ?_
            try simp only [Act.put, List.setIfInBounds_toArray, List.set_cons_zero, List.set_cons_succ]
            refine wp_takeW (o := { dst := some 39, op := Op.pick (Operand.tmp 29) (Operand.const (Value.bool true)) (Operand.tmp 38), type := 4, pos := "ref.go:62", after := #[{ on := 8, ground := Ground.data }, { on := 17, ground := Ground.data }], guard := none }) (.bool true) (by kernel_rfl) (by kernel_rfl) ?_
            try simp only [Act.put, List.setIfInBounds_toArray, List.set_cons_zero, List.set_cons_succ]
            refine WL.nil ?_
            try simp only [Act.put, List.setIfInBounds_toArray, List.set_cons_zero, List.set_cons_succ]
            have hv : cmdB c = false := by first | (simp only [cmdB, q1, q2, q3, q4, q17]; rfl) | (unfold cmdB; rw [q1, q2, q3, q4, q17]; rfl) | simp [cmdB, q1, q2, q3, q4, q17]
            go_wp2
            go_ret
            exact ⟨by rw [hv]; rfl, HK.out⟩
          · skip
            refine wp_takeW (o := { dst := some 27, op := Op.binOp BinOp.neq 9 (Operand.tmp 26) (Operand.const (Value.string { data := #[] })) 9, type := 4, pos := "ref.go:62", after := #[{ on := 5, ground := Ground.data }, { on := 3, ground := Ground.guard }], guard := some (3, true) }) (.bool false) (exec_bin .neq 9 _ _ _ rfl (.string c.nm) (.string ⟨#[]⟩) (.bool false) (by kernel_rfl) (by kernel_rfl) (by kernel_rfl) (by rw [neqT, q17]; try rfl)) (by kernel_rfl) ?_
            try simp only [Act.put, List.setIfInBounds_toArray, List.set_cons_zero, List.set_cons_succ]
            refine wp_takeW (o := { dst := some 28, op := Op.pick (Operand.tmp 24) (Operand.tmp 27) (Operand.const (Value.bool false)), type := 4, pos := "ref.go:62", after := #[{ on := 3, ground := Ground.data }, { on := 6, ground := Ground.data }], guard := none }) (.bool false) (by kernel_rfl) (by kernel_rfl) ?_
            try simp only [Act.put, List.setIfInBounds_toArray, List.set_cons_zero, List.set_cons_succ]
            refine wp_takeW (o := { dst := some 29, op := Op.move (Operand.tmp 28), type := 4, pos := "ref.go:62", after := #[{ on := 7, ground := Ground.data }, { on := 3, ground := Ground.chain }], guard := none }) (.bool false) (by kernel_rfl) (by kernel_rfl) ?_
            try simp only [Act.put, List.setIfInBounds_toArray, List.set_cons_zero, List.set_cons_succ]
            refine wp_takeW (o := { dst := some 30, op := Op.fieldAddr 27 (Operand.tmp 2) 0, type := 0, pos := "ref.go:62", after := #[{ on := 8, ground := Ground.guard }], guard := some (8, false) }) (.pointer (some ⟨N, 0, none⟩)) (by kernel_rfl) (by kernel_rfl) ?_
            try simp only [Act.put, List.setIfInBounds_toArray, List.set_cons_zero, List.set_cons_succ]
            refine wp_takeW (o := { dst := some 31, op := Op.load 3 (Operand.tmp 30), type := 3, pos := "ref.go:62", after := #[{ on := 9, ground := Ground.data }, { on := 8, ground := Ground.guard }], guard := some (8, false) }) (.int .i64 c.k) (exec_load 3 _ rfl ⟨N, 0, none⟩ (by kernel_rfl) (.int .i64 c.k) (load_N (Cm.cel HC.out).1)) (by kernel_rfl) ?_
            try simp only [Act.put, List.setIfInBounds_toArray, List.set_cons_zero, List.set_cons_succ]
            refine wp_takeW (o := { dst := some 32, op := Op.binOp BinOp.neq 3 (Operand.tmp 31) (Operand.const (Value.int IntKind.i64 4)) 3, type := 4, pos := "ref.go:62", after := #[{ on := 10, ground := Ground.data }, { on := 8, ground := Ground.guard }], guard := some (8, false) }) (.bool false) (exec_bin .neq 3 _ _ _ rfl (.int .i64 c.k) (.int .i64 4) (.bool false) (by kernel_rfl) (by kernel_rfl) (by kernel_rfl) (by rw [neqN, q4]; try rfl)) (by kernel_rfl) ?_
            try simp only [Act.put, List.setIfInBounds_toArray, List.set_cons_zero, List.set_cons_succ]
            refine wp_takeW (o := { dst := some 33, op := Op.move (Operand.tmp 32), type := 4, pos := "ref.go:62", after := #[{ on := 11, ground := Ground.data }, { on := 8, ground := Ground.chain }, { on := 8, ground := Ground.guard }], guard := some (8, false) }) (.bool false) (by kernel_rfl) (by kernel_rfl) ?_
            try simp only [Act.put, List.setIfInBounds_toArray, List.set_cons_zero, List.set_cons_succ]
            refine wp_skip (o := { dst := some 34, op := Op.fieldAddr 27 (Operand.tmp 2) 3, type := 0, pos := "ref.go:62", after := #[{ on := 12, ground := Ground.guard }], guard := some (12, true) }) (by kernel_rfl) ?_
            try simp only [Act.put, List.setIfInBounds_toArray, List.set_cons_zero, List.set_cons_succ]
            refine wp_skip (o := { dst := some 35, op := Op.load 9 (Operand.tmp 34), type := 9, pos := "ref.go:62", after := #[{ on := 13, ground := Ground.data }, { on := 12, ground := Ground.guard }], guard := some (12, true) }) (by kernel_rfl) ?_
            try simp only [Act.put, List.setIfInBounds_toArray, List.set_cons_zero, List.set_cons_succ]
            refine wp_skip (o := { dst := some 36, op := Op.call { callee := Callee.value (Operand.func 28), args := #[Operand.tmp 35], argTypes := #[9] }, type := 4, pos := "ref.go:62", after := #[{ on := 14, ground := Ground.data }, { on := 12, ground := Ground.chain }, { on := 12, ground := Ground.guard }], guard := some (12, true) }) (by kernel_rfl) ?_
            try simp only [Act.put, List.setIfInBounds_toArray, List.set_cons_zero, List.set_cons_succ]
            refine wp_skip (o := { dst := some 37, op := Op.unOp UnOp.not 4 (Operand.tmp 36), type := 4, pos := "ref.go:62", after := #[{ on := 15, ground := Ground.data }, { on := 12, ground := Ground.guard }], guard := some (12, true) }) (by kernel_rfl) ?_
            try simp only [Act.put, List.setIfInBounds_toArray, List.set_cons_zero, List.set_cons_succ]
            refine wp_takeW (o := { dst := some 38, op := Op.pick (Operand.tmp 33) (Operand.tmp 37) (Operand.const (Value.bool false)), type := 4, pos := "ref.go:62", after := #[{ on := 12, ground := Ground.data }, { on := 16, ground := Ground.data }, { on := 8, ground := Ground.guard }], guard := some (8, false) }) (.bool false) (by kernel_rfl) (by kernel_rfl) ?_
            try simp only [Act.put, List.setIfInBounds_toArray, List.set_cons_zero, List.set_cons_succ]
            refine wp_takeW (o := { dst := some 39, op := Op.pick (Operand.tmp 29) (Operand.const (Value.bool true)) (Operand.tmp 38), type := 4, pos := "ref.go:62", after := #[{ on := 8, ground := Ground.data }, { on := 17, ground := Ground.data }], guard := none }) (.bool false) (by kernel_rfl) (by kernel_rfl) ?_
            try simp only [Act.put, List.setIfInBounds_toArray, List.set_cons_zero, List.set_cons_succ]
            refine WL.nil ?_
            try simp only [Act.put, List.setIfInBounds_toArray, List.set_cons_zero, List.set_cons_succ]
            go_upto_region 5 with fail
            refine WL.start ?_
            refine wp_takeW (o := { dst := some 40, op := Op.fieldAddr 27 (Operand.tmp 2) 0, type := 0, pos := "ref.go:65", after := #[], guard := none }) (.pointer (some ⟨N, 0, none⟩)) (by kernel_rfl) (by kernel_rfl) ?_
            try simp only [Act.put, List.setIfInBounds_toArray, List.set_cons_zero, List.set_cons_succ]
            refine wp_takeW (o := { dst := some 41, op := Op.load 3 (Operand.tmp 40), type := 3, pos := "ref.go:65", after := #[{ on := 0, ground := Ground.data }], guard := none }) (.int .i64 c.k) (exec_load 3 _ rfl ⟨N, 0, none⟩ (by kernel_rfl) (.int .i64 c.k) (load_N (Cm.cel HC.out).1)) (by kernel_rfl) ?_
            try simp only [Act.put, List.setIfInBounds_toArray, List.set_cons_zero, List.set_cons_succ]
            cases q18 : (decide (c.k < 5))
            · skip
              refine wp_takeW (o := { dst := some 42, op := Op.binOp BinOp.lss 3 (Operand.tmp 41) (Operand.const (Value.int IntKind.i64 5)) 3, type := 4, pos := "ref.go:65", after := #[{ on := 1, ground := Ground.data }], guard := none }) (.bool false) (exec_bin .lss 3 _ _ _ rfl (.int .i64 c.k) (.int .i64 5) (.bool false) (by kernel_rfl) (by kernel_rfl) (by kernel_rfl) (by rw [lssN, q18]; try rfl)) (by kernel_rfl) ?_
              try simp only [Act.put, List.setIfInBounds_toArray, List.set_cons_zero, List.set_cons_succ]
              refine WL.nil ?_
              try simp only [Act.put, List.setIfInBounds_toArray, List.set_cons_zero, List.set_cons_succ]
              go_upto_region 7 with fail
              refine WL.start ?_
              refine wp_takeW (o := { dst := some 58, op := Op.fieldAddr 27 (Operand.tmp 2) 0, type := 0, pos := "ref.go:68", after := #[], guard := none }) (.pointer (some ⟨N, 0, none⟩)) (by kernel_rfl) (by kernel_rfl) ?_
              try simp only [Act.put, List.setIfInBounds_toArray, List.set_cons_zero, List.set_cons_succ]
              refine wp_takeW (o := { dst := some 59, op := Op.load 3 (Operand.tmp 58), type := 3, pos := "ref.go:68", after := #[{ on := 0, ground := Ground.data }], guard := none }) (.int .i64 c.k) (exec_load 3 _ rfl ⟨N, 0, none⟩ (by kernel_rfl) (.int .i64 c.k) (load_N (Cm.cel HC.out).1)) (by kernel_rfl) ?_
              try simp only [Act.put, List.setIfInBounds_toArray, List.set_cons_zero, List.set_cons_succ]
              cases q19 : (c.k == 7)
              · skip
                refine wp_takeW (o := { dst := some 60, op := Op.binOp BinOp.eql 3 (Operand.tmp 59) (Operand.const (Value.int IntKind.i64 7)) 3, type := 4, pos := "ref.go:68", after := #[{ on := 1, ground := Ground.data }], guard := none }) (.bool false) (exec_bin .eql 3 _ _ _ rfl (.int .i64 c.k) (.int .i64 7) (.bool false) (by kernel_rfl) (by kernel_rfl) (by kernel_rfl) (by rw [eqlN, q19]; try rfl)) (by kernel_rfl) ?_
                try simp only [Act.put, List.setIfInBounds_toArray, List.set_cons_zero, List.set_cons_succ]
                refine wp_takeW (o := { dst := some 61, op := Op.move (Operand.tmp 60), type := 4, pos := "ref.go:68", after := #[{ on := 2, ground := Ground.data }], guard := none }) (.bool false) (by kernel_rfl) (by kernel_rfl) ?_
                try simp only [Act.put, List.setIfInBounds_toArray, List.set_cons_zero, List.set_cons_succ]
                refine wp_skip (o := { dst := some 62, op := Op.fieldAddr 27 (Operand.tmp 2) 5, type := 0, pos := "ref.go:68", after := #[{ on := 3, ground := Ground.guard }], guard := some (3, true) }) (by kernel_rfl) ?_
                try simp only [Act.put, List.setIfInBounds_toArray, List.set_cons_zero, List.set_cons_succ]
                refine wp_skip (o := { dst := some 63, op := Op.load 25 (Operand.tmp 62), type := 25, pos := "ref.go:68", after := #[{ on := 4, ground := Ground.data }, { on := 3, ground := Ground.guard }], guard := some (3, true) }) (by kernel_rfl) ?_
                try simp only [Act.put, List.setIfInBounds_toArray, List.set_cons_zero, List.set_cons_succ]
                refine wp_skip (o := { dst := some 64, op := Op.call { callee := Callee.value (Operand.func 29), args := #[Operand.tmp 63], argTypes := #[25] }, type := 4, pos := "ref.go:68", after := #[{ on := 5, ground := Ground.data }, { on := 3, ground := Ground.chain }, { on := 3, ground := Ground.guard }], guard := some (3, true) }) (by kernel_rfl) ?_
                try simp only [Act.put, List.setIfInBounds_toArray, List.set_cons_zero, List.set_cons_succ]
                refine wp_skip (o := { dst := some 65, op := Op.unOp UnOp.not 4 (Operand.tmp 64), type := 4, pos := "ref.go:68", after := #[{ on := 6, ground := Ground.data }, { on := 3, ground := Ground.guard }], guard := some (3, true) }) (by kernel_rfl) ?_
                try simp only [Act.put, List.setIfInBounds_toArray, List.set_cons_zero, List.set_cons_succ]
                refine wp_takeW (o := { dst := some 66, op := Op.pick (Operand.tmp 61) (Operand.tmp 65) (Operand.const (Value.bool false)), type := 4, pos := "ref.go:68", after := #[{ on := 3, ground := Ground.data }, { on := 7, ground := Ground.data }], guard := none }) (.bool false) (by kernel_rfl) (by kernel_rfl) ?_
                try simp only [Act.put, List.setIfInBounds_toArray, List.set_cons_zero, List.set_cons_succ]
                refine wp_takeW (o := { dst := some 67, op := Op.move (Operand.tmp 66), type := 4, pos := "ref.go:68", after := #[{ on := 8, ground := Ground.data }, { on := 6, ground := Ground.chain }], guard := none }) (.bool false) (by kernel_rfl) (by kernel_rfl) ?_
                try simp only [Act.put, List.setIfInBounds_toArray, List.set_cons_zero, List.set_cons_succ]
                refine wp_takeW (o := { dst := some 68, op := Op.fieldAddr 27 (Operand.tmp 2) 0, type := 0, pos := "ref.go:68", after := #[{ on := 9, ground := Ground.guard }], guard := some (9, false) }) (.pointer (some ⟨N, 0, none⟩)) (by kernel_rfl) (by kernel_rfl) ?_
                try simp only [Act.put, List.setIfInBounds_toArray, List.set_cons_zero, List.set_cons_succ]
                refine wp_takeW (o := { dst := some 69, op := Op.load 3 (Operand.tmp 68), type := 3, pos := "ref.go:68", after := #[{ on := 10, ground := Ground.data }, { on := 9, ground := Ground.guard }], guard := some (9, false) }) (.int .i64 c.k) (exec_load 3 _ rfl ⟨N, 0, none⟩ (by kernel_rfl) (.int .i64 c.k) (load_N (Cm.cel HC.out).1)) (by kernel_rfl) ?_
                try simp only [Act.put, List.setIfInBounds_toArray, List.set_cons_zero, List.set_cons_succ]
                refine wp_takeW (o := { dst := some 70, op := Op.binOp BinOp.neq 3 (Operand.tmp 69) (Operand.const (Value.int IntKind.i64 7)) 3, type := 4, pos := "ref.go:68", after := #[{ on := 11, ground := Ground.data }, { on := 9, ground := Ground.guard }], guard := some (9, false) }) (.bool true) (exec_bin .neq 3 _ _ _ rfl (.int .i64 c.k) (.int .i64 7) (.bool true) (by kernel_rfl) (by kernel_rfl) (by kernel_rfl) (by rw [neqN, q19]; try rfl)) (by kernel_rfl) ?_
                try simp only [Act.put, List.setIfInBounds_toArray, List.set_cons_zero, List.set_cons_succ]
                refine wp_takeW (o := { dst := some 71, op := Op.move (Operand.tmp 70), type := 4, pos := "ref.go:68", after := #[{ on := 12, ground := Ground.data }, { on := 9, ground := Ground.chain }, { on := 9, ground := Ground.guard }], guard := some (9, false) }) (.bool true) (by kernel_rfl) (by kernel_rfl) ?_
                try simp only [Act.put, List.setIfInBounds_toArray, List.set_cons_zero, List.set_cons_succ]
                refine wp_takeW (o := { dst := some 72, op := Op.fieldAddr 27 (Operand.tmp 2) 5, type := 0, pos := "ref.go:68", after := #[{ on := 13, ground := Ground.guard }], guard := some (13, true) }) (.pointer (some ⟨N, 6, none⟩)) (by kernel_rfl) (by kernel_rfl) ?_
                try simp only [Act.put, List.setIfInBounds_toArray, List.set_cons_zero, List.set_cons_succ]
                refine wp_takeW (o := { dst := some 73, op := Op.load 25 (Operand.tmp 72), type := 25, pos := "ref.go:68", after := #[{ on := 14, ground := Ground.data }, { on := 13, ground := Ground.guard }], guard := some (13, true) }) (.agg #[.int .i64 c.g0, .int .i64 c.g1]) (exec_load 25 _ rfl ⟨N, 6, none⟩ (by kernel_rfl) (.agg #[.int .i64 c.g0, .int .i64 c.g1]) (load_F HC.out c.partG)) (by kernel_rfl) ?_
                try simp only [Act.put, List.setIfInBounds_toArray, List.set_cons_zero, List.set_cons_succ]
                refine wp_takeW (o := { dst := some 74, op := Op.build 25 #[], type := 25, pos := "ref.go:68", after := #[{ on := 13, ground := Ground.guard }], guard := some (13, true) }) (.agg (#[.int .i64 0, .int .i64 0])) (exec_build 25 _ rfl (#[.int .i64 0, .int .i64 0]) (by kernel_rfl)) (by kernel_rfl) ?_
                try simp only [Act.put, List.setIfInBounds_toArray, List.set_cons_zero, List.set_cons_succ]
                cases q20 : (c.g0 == 0 && c.g1 == 0)
                · skip
                  refine wp_takeW (o := { dst := some 75, op := Op.binOp BinOp.neq 25 (Operand.tmp 73) (Operand.tmp 74) 25, type := 4, pos := "ref.go:68", after := #[{ on := 15, ground := Ground.data }, { on := 16, ground := Ground.data }, { on := 13, ground := Ground.guard }], guard := some (13, true) }) (.bool true) (exec_bin .neq 25 _ _ _ rfl (.agg #[.int .i64 c.g0, .int .i64 c.g1]) (.agg (#[.int .i64 0, .int .i64 0])) (.bool true) (by kernel_rfl) (by kernel_rfl) (guard_F _ (.inr rfl) _ _ _ _ _) (by rw [neqF, q20]; try rfl)) (by kernel_rfl) ?_
                  try simp only [Act.put, List.setIfInBounds_toArray, List.set_cons_zero, List.set_cons_succ]
                  refine wp_takeW (o := { dst := some 76, op := Op.pick (Operand.tmp 71) (Operand.tmp 75) (Operand.const (Value.bool false)), type := 4, pos := "ref.go:68", after := #[{ on := 13, ground := Ground.data }, { on := 17, ground := Ground.data }, { on := 9, ground := Ground.guard }], guard := some (9, false) }) (.bool true) (by kernel_rfl) (by kernel_rfl) ?_
                  try simp only [Act.put, List.setIfInBounds_toArray, List.set_cons_zero, List.set_cons_succ]
                  refine wp_takeW (o := { dst := some 77, op := Op.pick (Operand.tmp 67) (Operand.const (Value.bool true)) (Operand.tmp 76), type := 4, pos := "ref.go:68", after := #[{ on := 9, ground := Ground.data }, { on := 18, ground := Ground.data }], guard := none }) (.bool true) (by kernel_rfl) (by kernel_rfl) ?_
                  try simp only [Act.put, List.setIfInBounds_toArray, List.set_cons_zero, List.set_cons_succ]
                  refine WL.nil ?_
                  try simp only [Act.put, List.setIfInBounds_toArray, List.set_cons_zero, List.set_cons_succ]
                  have hv : cmdB c = false := by first | (simp only [cmdB, q1, q2, q3, q4, q17, q18, q19, q20]; rfl) | (unfold cmdB; rw [q1, q2, q3, q4, q17, q18, q19, q20]; rfl) | simp [cmdB, q1, q2, q3, q4, q17, q18, q19, q20]
                  go_wp2
                  go_ret
                  exact ⟨by rw [hv]; rfl, HK.out⟩
                · skip
                  refine wp_takeW (o := { dst := some 75, op := Op.binOp BinOp.neq 25 (Operand.tmp 73) (Operand.tmp 74) 25, type := 4, pos := "ref.go:68", after := #[{ on := 15, ground := Ground.data }, { on := 16, ground := Ground.data }, { on := 13, ground := Ground.guard }], guard := some (13, true) }) (.bool false) (exec_bin .neq 25 _ _ _ rfl (.agg #[.int .i64 c.g0, .int .i64 c.g1]) (.agg (#[.int .i64 0, .int .i64 0])) (.bool false) (by kernel_rfl) (by kernel_rfl) (guard_F _ (.inr rfl) _ _ _ _ _) (by rw [neqF, q20]; try rfl)) (by kernel_rfl) ?_
                  try simp only [Act.put, List.setIfInBounds_toArray, List.set_cons_zero, List.set_cons_succ]
                  refine wp_takeW (o := { dst := some 76, op := Op.pick (Operand.tmp 71) (Operand.tmp 75) (Operand.const (Value.bool false)), type := 4, pos := "ref.go:68", after := #[{ on := 13, ground := Ground.data }, { on := 17, ground := Ground.data }, { on := 9, ground := Ground.guard }], guard := some (9, false) }) (.bool false) (by kernel_rfl) (by kernel_rfl) ?_
                  try simp only [Act.put, List.setIfInBounds_toArray, List.set_cons_zero, List.set_cons_succ]
                  refine wp_takeW (o := { dst := some 77, op := Op.pick (Operand.tmp 67) (Operand.const (Value.bool true)) (Operand.tmp 76), type := 4, pos := "ref.go:68", after := #[{ on := 9, ground := Ground.data }, { on := 18, ground := Ground.data }], guard := none }) (.bool false) (by kernel_rfl) (by kernel_rfl) ?_
                  try simp only [Act.put, List.setIfInBounds_toArray, List.set_cons_zero, List.set_cons_succ]
                  refine WL.nil ?_
                  try simp only [Act.put, List.setIfInBounds_toArray, List.set_cons_zero, List.set_cons_succ]
                  go_upto_region 9 with fail
                  refine WL.start ?_
                  refine wp_takeW (o := { dst := some 78, op := Op.fieldAddr 27 (Operand.tmp 2) 4, type := 0, pos := "ref.go:71", after := #[], guard := none }) (.pointer (some ⟨N, 4, none⟩)) (by kernel_rfl) (by kernel_rfl) ?_
                  try simp only [Act.put, List.setIfInBounds_toArray, List.set_cons_zero, List.set_cons_succ]
                  refine wp_takeW (o := { dst := some 79, op := Op.load 25 (Operand.tmp 78), type := 25, pos := "ref.go:71", after := #[{ on := 0, ground := Ground.data }], guard := none }) (.agg #[.int .i64 c.f0, .int .i64 c.f1]) (exec_load 25 _ rfl ⟨N, 4, none⟩ (by kernel_rfl) (.agg #[.int .i64 c.f0, .int .i64 c.f1]) (load_F HC.out c.partF)) (by kernel_rfl) ?_
                  try simp only [Act.put, List.setIfInBounds_toArray, List.set_cons_zero, List.set_cons_succ]
                  cases q21 : (fileB c.f0 c.f1)
                  · skip
                    refine wp_callW (o := { dst := some 80, op := Op.call { callee := Callee.value (Operand.func 29), args := #[Operand.tmp 79], argTypes := #[25] }, type := 4, pos := "ref.go:71", after := #[{ on := 1, ground := Ground.data }], guard := none }) 29 #[.agg #[.int .i64 c.f0, .int .i64 c.f1]] (by kernel_rfl) _ (file_any c.f0 c.f1 _) (by kernel_rfl) ?_
                    rintro e wk19 ⟨rfl, hk⟩
                    have HC : Hid (Box wk19 N 27 c.cells) := HC.out.kept hk (fun e => e)
                    have HF : Hid (Box wk19 (N + 1) 35 (wideC wa)) := HF.out.kept hk (fun e => e)
                    have HK : Hid (Kept No w wk19) := HK.out.then hk
                    clear hk
                    refine ⟨.bool false, by rw [q21], ?_⟩
                    try simp only [Act.put, List.setIfInBounds_toArray, List.set_cons_zero, List.set_cons_succ]
                    refine wp_takeW (o := { dst := some 81, op := Op.move (Operand.tmp 80), type := 4, pos := "ref.go:71", after := #[{ on := 2, ground := Ground.data }, { on := 2, ground := Ground.chain }], guard := none }) (.bool false) (by kernel_rfl) (by kernel_rfl) ?_
                    try simp only [Act.put, List.setIfInBounds_toArray, List.set_cons_zero, List.set_cons_succ]
                    refine wp_skip (o := { dst := some 82, op := Op.fieldAddr 27 (Operand.tmp 2) 6, type := 0, pos := "ref.go:71", after := #[{ on := 3, ground := Ground.guard }], guard := some (3, true) }) (by kernel_rfl) ?_
                    try simp only [Act.put, List.setIfInBounds_toArray, List.set_cons_zero, List.set_cons_succ]
                    refine wp_skip (o := { dst := some 83, op := Op.load 3 (Operand.tmp 82), type := 3, pos := "ref.go:71", after := #[{ on := 4, ground := Ground.data }, { on := 3, ground := Ground.guard }], guard := some (3, true) }) (by kernel_rfl) ?_
                    try simp only [Act.put, List.setIfInBounds_toArray, List.set_cons_zero, List.set_cons_succ]
                    refine wp_skip (o := { dst := some 84, op := Op.load 35 (Operand.tmp 3), type := 35, pos := "ref.go:71", after := #[{ on := 3, ground := Ground.guard }], guard := some (3, true) }) (by kernel_rfl) ?_
                    try simp only [Act.put, List.setIfInBounds_toArray, List.set_cons_zero, List.set_cons_succ]
                    refine wp_skip (o := { dst := some 85, op := Op.call { callee := Callee.value (Operand.func 30), args := #[Operand.tmp 83, Operand.tmp 84], argTypes := #[3, 35] }, type := 4, pos := "ref.go:71", after := #[{ on := 5, ground := Ground.data }, { on := 6, ground := Ground.data }, { on := 3, ground := Ground.chain }, { on := 3, ground := Ground.guard }], guard := some (3, true) }) (by kernel_rfl) ?_
                    try simp only [Act.put, List.setIfInBounds_toArray, List.set_cons_zero, List.set_cons_succ]
                    refine wp_takeW (o := { dst := some 86, op := Op.pick (Operand.tmp 81) (Operand.tmp 85) (Operand.const (Value.bool false)), type := 4, pos := "ref.go:71", after := #[{ on := 3, ground := Ground.data }, { on := 7, ground := Ground.data }], guard := none }) (.bool false) (by kernel_rfl) (by kernel_rfl) ?_
                    try simp only [Act.put, List.setIfInBounds_toArray, List.set_cons_zero, List.set_cons_succ]
                    refine wp_takeW (o := { dst := some 4, op := Op.assign (Operand.tmp 86), type := 4, pos := "ref.go:71", after := #[{ on := 8, ground := Ground.data }, { on := 7, ground := Ground.chain }, { on := 0, ground := Ground.phase }, { on := 1, ground := Ground.phase }, { on := 2, ground := Ground.phase }, { on := 3, ground := Ground.phase }, { on := 4, ground := Ground.phase }, { on := 5, ground := Ground.phase }, { on := 6, ground := Ground.phase }, { on := 7, ground := Ground.phase }, { on := 8, ground := Ground.phase }], guard := none }) (.bool false) (by kernel_rfl) (by kernel_rfl) ?_
                    try simp only [Act.put, List.setIfInBounds_toArray, List.set_cons_zero, List.set_cons_succ]
                    refine WL.nil ?_
                    try simp only [Act.put, List.setIfInBounds_toArray, List.set_cons_zero, List.set_cons_succ]
                    have hv : cmdB c = false := by first | (simp only [cmdB, q1, q2, q3, q4, q17, q18, q19, q20, q21]; rfl) | (unfold cmdB; rw [q1, q2, q3, q4, q17, q18, q19, q20, q21]; rfl) | simp [cmdB, q1, q2, q3, q4, q17, q18, q19, q20, q21]
                    go_wp2
                    go_ret
                    exact ⟨by rw [hv]; rfl, HK.out⟩
                  · skip
                    refine wp_callW (o := { dst := some 80, op := Op.call { callee := Callee.value (Operand.func 29), args := #[Operand.tmp 79], argTypes := #[25] }, type := 4, pos := "ref.go:71", after := #[{ on := 1, ground := Ground.data }], guard := none }) 29 #[.agg #[.int .i64 c.f0, .int .i64 c.f1]] (by kernel_rfl) _ (file_any c.f0 c.f1 _) (by kernel_rfl) ?_
                    rintro e wk20 ⟨rfl, hk⟩
                    have HC : Hid (Box wk20 N 27 c.cells) := HC.out.kept hk (fun e => e)
                    have HF : Hid (Box wk20 (N + 1) 35 (wideC wa)) := HF.out.kept hk (fun e => e)
                    have HK : Hid (Kept No w wk20) := HK.out.then hk
                    clear hk
                    refine ⟨.bool true, by rw [q21], ?_⟩
                    try simp only [Act.put, List.setIfInBounds_toArray, List.set_cons_zero, List.set_cons_succ]
                    refine wp_takeW (o := { dst := some 81, op := Op.move (Operand.tmp 80), type := 4, pos := "ref.go:71", after := #[{ on := 2, ground := Ground.data }, { on := 2, ground := Ground.chain }], guard := none }) (.bool true) (by kernel_rfl) (by kernel_rfl) ?_
                    try simp only [Act.put, List.setIfInBounds_toArray, List.set_cons_zero, List.set_cons_succ]
                    refine wp_takeW (o := { dst := some 82, op := Op.fieldAddr 27 (Operand.tmp 2) 6, type := 0, pos := "ref.go:71", after := #[{ on := 3, ground := Ground.guard }], guard := some (3, true) }) (.pointer (some ⟨N, 8, none⟩)) (by kernel_rfl) (by kernel_rfl) ?_
                    try simp only [Act.put, List.setIfInBounds_toArray, List.set_cons_zero, List.set_cons_succ]
                    refine wp_takeW (o := { dst := some 83, op := Op.load 3 (Operand.tmp 82), type := 3, pos := "ref.go:71", after := #[{ on := 4, ground := Ground.data }, { on := 3, ground := Ground.guard }], guard := some (3, true) }) (.int .i64 c.sz) (exec_load 3 _ rfl ⟨N, 8, none⟩ (by kernel_rfl) (.int .i64 c.sz) (load_N (Cm.cel HC.out).2.2.2.2)) (by kernel_rfl) ?_
                    try simp only [Act.put, List.setIfInBounds_toArray, List.set_cons_zero, List.set_cons_succ]
                    refine wp_takeW (o := { dst := some 84, op := Op.load 35 (Operand.tmp 3), type := 35, pos := "ref.go:71", after := #[{ on := 3, ground := Ground.guard }], guard := some (3, true) }) (.agg (wideC wa)) (exec_load 35 _ rfl ⟨N + 1, 0, none⟩ (by kernel_rfl) (.agg (wideC wa)) (load_W HF.out)) (by kernel_rfl) ?_
                    try simp only [Act.put, List.setIfInBounds_toArray, List.set_cons_zero, List.set_cons_succ]
                    cases q22 : (szB c.sz)
                    · skip
                      refine wp_callW (o := { dst := some 85, op := Op.call { callee := Callee.value (Operand.func 30), args := #[Operand.tmp 83, Operand.tmp 84], argTypes := #[3, 35] }, type := 4, pos := "ref.go:71", after := #[{ on := 5, ground := Ground.data }, { on := 6, ground := Ground.data }, { on := 3, ground := Ground.chain }, { on := 3, ground := Ground.guard }], guard := some (3, true) }) 30 #[.int .i64 c.sz, .agg (wideC wa)] (by kernel_rfl) _ (size_any c.sz wa _) (by kernel_rfl) ?_
                      rintro e wk21 ⟨rfl, hk⟩
                      have HC : Hid (Box wk21 N 27 c.cells) := HC.out.kept hk (fun e => e)
                      have HF : Hid (Box wk21 (N + 1) 35 (wideC wa)) := HF.out.kept hk (fun e => e)
                      have HK : Hid (Kept No w wk21) := HK.out.then hk
                      clear hk
                      refine ⟨.bool false, by rw [q22], ?_⟩
                      try simp only [Act.put, List.setIfInBounds_toArray, List.set_cons_zero, List.set_cons_succ]
                      refine wp_takeW (o := { dst := some 86, op := Op.pick (Operand.tmp 81) (Operand.tmp 85) (Operand.const (Value.bool false)), type := 4, pos := "ref.go:71", after := #[{ on := 3, ground := Ground.data }, { on := 7, ground := Ground.data }], guard := none }) (.bool false) (by kernel_rfl) (by kernel_rfl) ?_
                      try simp only [Act.put, List.setIfInBounds_toArray, List.set_cons_zero, List.set_cons_succ]
                      refine wp_takeW (o := { dst := some 4, op := Op.assign (Operand.tmp 86), type := 4, pos := "ref.go:71", after := #[{ on := 8, ground := Ground.data }, { on := 7, ground := Ground.chain }, { on := 0, ground := Ground.phase }, { on := 1, ground := Ground.phase }, { on := 2, ground := Ground.phase }, { on := 3, ground := Ground.phase }, { on := 4, ground := Ground.phase }, { on := 5, ground := Ground.phase }, { on := 6, ground := Ground.phase }, { on := 7, ground := Ground.phase }, { on := 8, ground := Ground.phase }], guard := none }) (.bool false) (by kernel_rfl) (by kernel_rfl) ?_
                      try simp only [Act.put, List.setIfInBounds_toArray, List.set_cons_zero, List.set_cons_succ]
                      refine WL.nil ?_
                      try simp only [Act.put, List.setIfInBounds_toArray, List.set_cons_zero, List.set_cons_succ]
                      have hv : cmdB c = false := by first | (simp only [cmdB, q1, q2, q3, q4, q17, q18, q19, q20, q21, q22]; rfl) | (unfold cmdB; rw [q1, q2, q3, q4, q17, q18, q19, q20, q21, q22]; rfl) | simp [cmdB, q1, q2, q3, q4, q17, q18, q19, q20, q21, q22]
                      go_wp2
                      go_ret
                      exact ⟨by rw [hv]; rfl, HK.out⟩
                    · skip
                      refine wp_callW (o := { dst := some 85, op := Op.call { callee := Callee.value (Operand.func 30), args := #[Operand.tmp 83, Operand.tmp 84], argTypes := #[3, 35] }, type := 4, pos := "ref.go:71", after := #[{ on := 5, ground := Ground.data }, { on := 6, ground := Ground.data }, { on := 3, ground := Ground.chain }, { on := 3, ground := Ground.guard }], guard := some (3, true) }) 30 #[.int .i64 c.sz, .agg (wideC wa)] (by kernel_rfl) _ (size_any c.sz wa _) (by kernel_rfl) ?_
                      rintro e wk22 ⟨rfl, hk⟩
                      have HC : Hid (Box wk22 N 27 c.cells) := HC.out.kept hk (fun e => e)
                      have HF : Hid (Box wk22 (N + 1) 35 (wideC wa)) := HF.out.kept hk (fun e => e)
                      have HK : Hid (Kept No w wk22) := HK.out.then hk
                      clear hk
                      refine ⟨.bool true, by rw [q22], ?_⟩
                      try simp only [Act.put, List.setIfInBounds_toArray, List.set_cons_zero, List.set_cons_succ]
                      refine wp_takeW (o := { dst := some 86, op := Op.pick (Operand.tmp 81) (Operand.tmp 85) (Operand.const (Value.bool false)), type := 4, pos := "ref.go:71", after := #[{ on := 3, ground := Ground.data }, { on := 7, ground := Ground.data }], guard := none }) (.bool true) (by kernel_rfl) (by kernel_rfl) ?_
                      try simp only [Act.put, List.setIfInBounds_toArray, List.set_cons_zero, List.set_cons_succ]
                      refine wp_takeW (o := { dst := some 4, op := Op.assign (Operand.tmp 86), type := 4, pos := "ref.go:71", after := #[{ on := 8, ground := Ground.data }, { on := 7, ground := Ground.chain }, { on := 0, ground := Ground.phase }, { on := 1, ground := Ground.phase }, { on := 2, ground := Ground.phase }, { on := 3, ground := Ground.phase }, { on := 4, ground := Ground.phase }, { on := 5, ground := Ground.phase }, { on := 6, ground := Ground.phase }, { on := 7, ground := Ground.phase }, { on := 8, ground := Ground.phase }], guard := none }) (.bool true) (by kernel_rfl) (by kernel_rfl) ?_
                      try simp only [Act.put, List.setIfInBounds_toArray, List.set_cons_zero, List.set_cons_succ]
                      refine WL.nil ?_
                      try simp only [Act.put, List.setIfInBounds_toArray, List.set_cons_zero, List.set_cons_succ]
                      have hv : cmdB c = true := by first | (simp only [cmdB, q1, q2, q3, q4, q17, q18, q19, q20, q21, q22]; rfl) | (unfold cmdB; rw [q1, q2, q3, q4, q17, q18, q19, q20, q21, q22]; rfl) | simp [cmdB, q1, q2, q3, q4, q17, q18, q19, q20, q21, q22]
                      go_wp2
                      go_ret
                      exact ⟨by rw [hv]; rfl, HK.out⟩
              · skip
                refine wp_takeW (o := { dst := some 60, op := Op.binOp BinOp.eql 3 (Operand.tmp 59) (Operand.const (Value.int IntKind.i64 7)) 3, type := 4, pos := "ref.go:68", after := #[{ on := 1, ground := Ground.data }], guard := none }) (.bool true) (exec_bin .eql 3 _ _ _ rfl (.int .i64 c.k) (.int .i64 7) (.bool true) (by kernel_rfl) (by kernel_rfl) (by kernel_rfl) (by rw [eqlN, q19]; try rfl)) (by kernel_rfl) ?_
                try simp only [Act.put, List.setIfInBounds_toArray, List.set_cons_zero, List.set_cons_succ]
                refine wp_takeW (o := { dst := some 61, op := Op.move (Operand.tmp 60), type := 4, pos := "ref.go:68", after := #[{ on := 2, ground := Ground.data }], guard := none }) (.bool true) (by kernel_rfl) (by kernel_rfl) ?_
                try simp only [Act.put, List.setIfInBounds_toArray, List.set_cons_zero, List.set_cons_succ]
                refine wp_takeW (o := { dst := some 62, op := Op.fieldAddr 27 (Operand.tmp 2) 5, type := 0, pos := "ref.go:68", after := #[{ on := 3, ground := Ground.guard }], guard := some (3, true) }) (.pointer (some ⟨N, 6, none⟩)) (by kernel_rfl) (by kernel_rfl) ?_
                try simp only [Act.put, List.setIfInBounds_toArray, List.set_cons_zero, List.set_cons_succ]
                refine wp_takeW (o := { dst := some 63, op := Op.load 25 (Operand.tmp 62), type := 25, pos := "ref.go:68", after := #[{ on := 4, ground := Ground.data }, { on := 3, ground := Ground.guard }], guard := some (3, true) }) (.agg #[.int .i64 c.g0, .int .i64 c.g1]) (exec_load 25 _ rfl ⟨N, 6, none⟩ (by kernel_rfl) (.agg #[.int .i64 c.g0, .int .i64 c.g1]) (load_F HC.out c.partG)) (by kernel_rfl) ?_
                try simp only [Act.put, List.setIfInBounds_toArray, List.set_cons_zero, List.set_cons_succ]
                cases q23 : (fileB c.g0 c.g1)
                · skip
                  refine wp_callW (o := { dst := some 64, op := Op.call { callee := Callee.value (Operand.func 29), args := #[Operand.tmp 63], argTypes := #[25] }, type := 4, pos := "ref.go:68", after := #[{ on := 5, ground := Ground.data }, { on := 3, ground := Ground.chain }, { on := 3, ground := Ground.guard }], guard := some (3, true) }) 29 #[.agg #[.int .i64 c.g0, .int .i64 c.g1]] (by kernel_rfl) _ (file_any c.g0 c.g1 _) (by kernel_rfl) ?_
                  rintro e wk23 ⟨rfl, hk⟩
                  have HC : Hid (Box wk23 N 27 c.cells) := HC.out.kept hk (fun e => e)
                  have HF : Hid (Box wk23 (N + 1) 35 (wideC wa)) := HF.out.kept hk (fun e => e)
                  have HK : Hid (Kept No w wk23) := HK.out.then hk
                  clear hk
                  refine ⟨.bool false, by rw [q23], ?_⟩
                  try simp only [Act.put, List.setIfInBounds_toArray, List.set_cons_zero, List.set_cons_succ]
                  refine wp_takeW (o := { dst := some 65, op := Op.unOp UnOp.not 4 (Operand.tmp 64), type := 4, pos := "ref.go:68", after := #[{ on := 6, ground := Ground.data }, { on := 3, ground := Ground.guard }], guard := some (3, true) }) (.bool true) (by kernel_rfl) (by kernel_rfl) ?_
                  try simp only [Act.put, List.setIfInBounds_toArray, List.set_cons_zero, List.set_cons_succ]
                  refine wp_takeW (o := { dst := some 66, op := Op.pick (Operand.tmp 61) (Operand.tmp 65) (Operand.const (Value.bool false)), type := 4, pos := "ref.go:68", after := #[{ on := 3, ground := Ground.data }, { on := 7, ground := Ground.data }], guard := none }) (.bool true) (by kernel_rfl) (by kernel_rfl) ?_
                  try simp only [Act.put, List.setIfInBounds_toArray, List.set_cons_zero, List.set_cons_succ]
                  refine wp_takeW (o := { dst := some 67, op := Op.move (Operand.tmp 66), type := 4, pos := "ref.go:68", after := #[{ on := 8, ground := Ground.data }, { on := 6, ground := Ground.chain }], guard := none }) (.bool true) (by kernel_rfl) (by kernel_rfl) ?_
                  try simp only [Act.put, List.setIfInBounds_toArray, List.set_cons_zero, List.set_cons_succ]
                  refine wp_skip (o := { dst := some 68, op := Op.fieldAddr 27 (Operand.tmp 2) 0, type := 0, pos := "ref.go:68", after := #[{ on := 9, ground := Ground.guard }], guard := some (9, false) }) (by kernel_rfl) ?_
                  try simp only [Act.put, List.setIfInBounds_toArray, List.set_cons_zero, List.set_cons_succ]
                  refine wp_skip (o := { dst := some 69, op := Op.load 3 (Operand.tmp 68), type := 3, pos := "ref.go:68", after := #[{ on := 10, ground := Ground.data }, { on := 9, ground := Ground.guard }], guard := some (9, false) }) (by kernel_rfl) ?_
                  try simp only [Act.put, List.setIfInBounds_toArray, List.set_cons_zero, List.set_cons_succ]
                  refine wp_skip (o := { dst := some 70, op := Op.binOp BinOp.neq 3 (Operand.tmp 69) (Operand.const (Value.int IntKind.i64 7)) 3, type := 4, pos := "ref.go:68", after := #[{ on := 11, ground := Ground.data }, { on := 9, ground := Ground.guard }], guard := some (9, false) }) (by kernel_rfl) ?_
                  try simp only [Act.put, List.setIfInBounds_toArray, List.set_cons_zero, List.set_cons_succ]
                  refine wp_skip (o := { dst := some 71, op := Op.move (Operand.tmp 70), type := 4, pos := "ref.go:68", after := #[{ on := 12, ground := Ground.data }, { on := 9, ground := Ground.chain }, { on := 9, ground := Ground.guard }], guard := some (9, false) }) (by kernel_rfl) ?_
                  try simp only [Act.put, List.setIfInBounds_toArray, List.set_cons_zero, List.set_cons_succ]
                  refine wp_skip (o := { dst := some 72, op := Op.fieldAddr 27 (Operand.tmp 2) 5, type := 0, pos := "ref.go:68", after := #[{ on := 13, ground := Ground.guard }], guard := some (13, true) }) (by kernel_rfl) ?_
                  try simp only [Act.put, List.setIfInBounds_toArray, List.set_cons_zero, List.set_cons_succ]
                  refine wp_skip (o := { dst := some 73, op := Op.load 25 (Operand.tmp 72), type := 25, pos := "ref.go:68", after := #[{ on := 14, ground := Ground.data }, { on := 13, ground := Ground.guard }], guard := some (13, true) }) (by kernel_rfl) ?_
                  try simp only [Act.put, List.setIfInBounds_toArray, List.set_cons_zero, List.set_cons_succ]
                  refine wp_skip (o := { dst := some 74, op := Op.build 25 #[], type := 25, pos := "ref.go:68", after := #[{ on := 13, ground := Ground.guard }], guard := some (13, true) }) (by kernel_rfl) ?_
                  try simp only [Act.put, List.setIfInBounds_toArray, List.set_cons_zero, List.set_cons_succ]
                  refine wp_skip (o := { dst := some 75, op := Op.binOp BinOp.neq 25 (Operand.tmp 73) (Operand.tmp 74) 25, type := 4, pos := "ref.go:68", after := #[{ on := 15, ground := Ground.data }, { on := 16, ground := Ground.data }, { on := 13, ground := Ground.guard }], guard := some (13, true) }) (by kernel_rfl) ?_
                  try simp only [Act.put, List.setIfInBounds_toArray, List.set_cons_zero, List.set_cons_succ]
                  refine wp_skip (o := { dst := some 76, op := Op.pick (Operand.tmp 71) (Operand.tmp 75) (Operand.const (Value.bool false)), type := 4, pos := "ref.go:68", after := #[{ on := 13, ground := Ground.data }, { on := 17, ground := Ground.data }, { on := 9, ground := Ground.guard }], guard := some (9, false) }) (by kernel_rfl) ?_
                  try simp only [Act.put, List.setIfInBounds_toArray, List.set_cons_zero, List.set_cons_succ]
                  refine wp_takeW (o := { dst := some 77, op := Op.pick (Operand.tmp 67) (Operand.const (Value.bool true)) (Operand.tmp 76), type := 4, pos := "ref.go:68", after := #[{ on := 9, ground := Ground.data }, { on := 18, ground := Ground.data }], guard := none }) (.bool true) (by kernel_rfl) (by kernel_rfl) ?_
                  try simp only [Act.put, List.setIfInBounds_toArray, List.set_cons_zero, List.set_cons_succ]
                  refine WL.nil ?_
                  try simp only [Act.put, List.setIfInBounds_toArray, List.set_cons_zero, List.set_cons_succ]
                  have hv : cmdB c = false := by first | (simp only [cmdB, q1, q2, q3, q4, q17, q18, q19, q23]; rfl) | (unfold cmdB; rw [q1, q2, q3, q4, q17, q18, q19, q23]; rfl) | simp [cmdB, q1, q2, q3, q4, q17, q18, q19, q23]
                  go_wp2
                  go_ret
                  exact ⟨by rw [hv]; rfl, HK.out⟩
                · skip
                  refine wp_callW (o := { dst := some 64, op := Op.call { callee := Callee.value (Operand.func 29), args := #[Operand.tmp 63], argTypes := #[25] }, type := 4, pos := "ref.go:68", after := #[{ on := 5, ground := Ground.data }, { on := 3, ground := Ground.chain }, { on := 3, ground := Ground.guard }], guard := some (3, true) }) 29 #[.agg #[.int .i64 c.g0, .int .i64 c.g1]] (by kernel_rfl) _ (file_any c.g0 c.g1 _) (by kernel_rfl) ?_
                  rintro e wk24 ⟨rfl, hk⟩
                  have HC : Hid (Box wk24 N 27 c.cells) := HC.out.kept hk (fun e => e)
                  have HF : Hid (Box wk24 (N + 1) 35 (wideC wa)) := HF.out.kept hk (fun e => e)
                  have HK : Hid (Kept No w wk24) := HK.out.then hk
                  clear hk
                  refine ⟨.bool true, by rw [q23], ?_⟩
                  try simp only [Act.put, List.setIfInBounds_toArray, List.set_cons_zero, List.set_cons_succ]
                  refine wp_takeW (o := { dst := some 65, op := Op.unOp UnOp.not 4 (Operand.tmp 64), type := 4, pos := "ref.go:68", after := #[{ on := 6, ground := Ground.data }, { on := 3, ground := Ground.guard }], guard := some (3, true) }) (.bool false) (by kernel_rfl) (by kernel_rfl) ?_
                  try simp only [Act.put, List.setIfInBounds_toArray, List.set_cons_zero, List.set_cons_succ]
                  refine wp_takeW (o := { dst := some 66, op := Op.pick (Operand.tmp 61) (Operand.tmp 65) (Operand.const (Value.bool false)), type := 4, pos := "ref.go:68", after := #[{ on := 3, ground := Ground.data }, { on := 7, ground := Ground.data }], guard := none }) (.bool false) (by kernel_rfl) (by kernel_rfl) ?_
                  try simp only [Act.put, List.setIfInBounds_toArray, List.set_cons_zero, List.set_cons_succ]
                  refine wp_takeW (o := { dst := some 67, op := Op.move (Operand.tmp 66), type := 4, pos := "ref.go:68", after := #[{ on := 8, ground := Ground.data }, { on := 6, ground := Ground.chain }], guard := none }) (.bool false) (by kernel_rfl) (by kernel_rfl) ?_
                  try simp only [Act.put, List.setIfInBounds_toArray, List.set_cons_zero, List.set_cons_succ]
                  refine wp_takeW (o := { dst := some 68, op := Op.fieldAddr 27 (Operand.tmp 2) 0, type := 0, pos := "ref.go:68", after := #[{ on := 9, ground := Ground.guard }], guard := some (9, false) }) (.pointer (some ⟨N, 0, none⟩)) (by kernel_rfl) (by kernel_rfl) ?_
                  try simp only [Act.put, List.setIfInBounds_toArray, List.set_cons_zero, List.set_cons_succ]
                  refine wp_takeW (o := { dst := some 69, op := Op.load 3 (Operand.tmp 68), type := 3, pos := "ref.go:68", after := #[{ on := 10, ground := Ground.data }, { on := 9, ground := Ground.guard }], guard := some (9, false) }) (.int .i64 c.k) (exec_load 3 _ rfl ⟨N, 0, none⟩ (by kernel_rfl) (.int .i64 c.k) (load_N (Cm.cel HC.out).1)) (by kernel_rfl) ?_
                  try simp only [Act.put, List.setIfInBounds_toArray, List.set_cons_zero, List.set_cons_succ]
                  refine wp_takeW (o := { dst := some 70, op := Op.binOp BinOp.neq 3 (Operand.tmp 69) (Operand.const (Value.int IntKind.i64 7)) 3, type := 4, pos := "ref.go:68", after := #[{ on := 11, ground := Ground.data }, { on := 9, ground := Ground.guard }], guard := some (9, false) }) (.bool false) (exec_bin .neq 3 _ _ _ rfl (.int .i64 c.k) (.int .i64 7) (.bool false) (by kernel_rfl) (by kernel_rfl) (by kernel_rfl) (by rw [neqN, q19]; try rfl)) (by kernel_rfl) ?_
                  try simp only [Act.put, List.setIfInBounds_toArray, List.set_cons_zero, List.set_cons_succ]
                  refine wp_takeW (o := { dst := some 71, op := Op.move (Operand.tmp 70), type := 4, pos := "ref.go:68", after := #[{ on := 12, ground := Ground.data }, { on := 9, ground := Ground.chain }, { on := 9, ground := Ground.guard }], guard := some (9, false) }) (.bool false) (by kernel_rfl) (by kernel_rfl) ?_
                  try simp only [Act.put, List.setIfInBounds_toArray, List.set_cons_zero, List.set_cons_succ]
                  refine wp_skip (o := { dst := some 72, op := Op.fieldAddr 27 (Operand.tmp 2) 5, type := 0, pos := "ref.go:68", after := #[{ on := 13, ground := Ground.guard }], guard := some (13, true) }) (by kernel_rfl) ?_
                  try simp only [Act.put, List.setIfInBounds_toArray, List.set_cons_zero, List.set_cons_succ]
                  refine wp_skip (o := { dst := some 73, op := Op.load 25 (Operand.tmp 72), type := 25, pos := "ref.go:68", after := #[{ on := 14, ground := Ground.data }, { on := 13, ground := Ground.guard }], guard := some (13, true) }) (by kernel_rfl) ?_
                  try simp only [Act.put, List.setIfInBounds_toArray, List.set_cons_zero, List.set_cons_succ]
                  refine wp_skip (o := { dst := some 74, op := Op.build 25 #[], type := 25, pos := "ref.go:68", after := #[{ on := 13, ground := Ground.guard }], guard := some (13, true) }) (by kernel_rfl) ?_
                  try simp only [Act.put, List.setIfInBounds_toArray, List.set_cons_zero, List.set_cons_succ]
                  refine wp_skip (o := { dst := some 75, op := Op.binOp BinOp.neq 25 (Operand.tmp 73) (Operand.tmp 74) 25, type := 4, pos := "ref.go:68", after := #[{ on := 15, ground := Ground.data }, { on := 16, ground := Ground.data }, { on := 13, ground := Ground.guard }], guard := some (13, true) }) (by kernel_rfl) ?_
                  try simp only [Act.put, List.setIfInBounds_toArray, List.set_cons_zero, List.set_cons_succ]
                  refine wp_takeW (o := { dst := some 76, op := Op.pick (Operand.tmp 71) (Operand.tmp 75) (Operand.const (Value.bool false)), type := 4, pos := "ref.go:68", after := #[{ on := 13, ground := Ground.data }, { on := 17, ground := Ground.data }, { on := 9, ground := Ground.guard }], guard := some (9, false) }) (.bool false) (by kernel_rfl) (by kernel_rfl) ?_
                  try simp only [Act.put, List.setIfInBounds_toArray, List.set_cons_zero, List.set_cons_succ]
                  refine wp_takeW (o := { dst := some 77, op := Op.pick (Operand.tmp 67) (Operand.const (Value.bool true)) (Operand.tmp 76), type := 4, pos := "ref.go:68", after := #[{ on := 9, ground := Ground.data }, { on := 18, ground := Ground.data }], guard := none }) (.bool false) (by kernel_rfl) (by kernel_rfl) ?_
                  try simp only [Act.put, List.setIfInBounds_toArray, List.set_cons_zero, List.set_cons_succ]
                  refine WL.nil ?_
                  try simp only [Act.put, List.setIfInBounds_toArray, List.set_cons_zero, List.set_cons_succ]
                  go_upto_region 9 with fail
                  refine WL.start ?_
                  refine wp_takeW (o := { dst := some 78, op := Op.fieldAddr 27 (Operand.tmp 2) 4, type := 0, pos := "ref.go:71", after := #[], guard := none }) (.pointer (some ⟨N, 4, none⟩)) (by kernel_rfl) (by kernel_rfl) ?_
                  try simp only [Act.put, List.setIfInBounds_toArray, List.set_cons_zero, List.set_cons_succ]
                  refine wp_takeW (o := { dst := some 79, op := Op.load 25 (Operand.tmp 78), type := 25, pos := "ref.go:71", after := #[{ on := 0, ground := Ground.data }], guard := none }) (.agg #[.int .i64 c.f0, .int .i64 c.f1]) (exec_load 25 _ rfl ⟨N, 4, none⟩ (by kernel_rfl) (.agg #[.int .i64 c.f0, .int .i64 c.f1]) (load_F HC.out c.partF)) (by kernel_rfl) ?_
                  try simp only [Act.put, List.setIfInBounds_toArray, List.set_cons_zero, List.set_cons_succ]
                  cases q24 : (fileB c.f0 c.f1)
                  · skip
                    refine wp_callW (o := { dst := some 80, op := Op.call { callee := Callee.value (Operand.func 29), args := #[Operand.tmp 79], argTypes := #[25] }, type := 4, pos := "ref.go:71", after := #[{ on := 1, ground := Ground.data }], guard := none }) 29 #[.agg #[.int .i64 c.f0, .int .i64 c.f1]] (by kernel_rfl) _ (file_any c.f0 c.f1 _) (by kernel_rfl) ?_
                    rintro e wk25 ⟨rfl, hk⟩
                    have HC : Hid (Box wk25 N 27 c.cells) := HC.out.kept hk (fun e => e)
                    have HF : Hid (Box wk25 (N + 1) 35 (wideC wa)) := HF.out.kept hk (fun e => e)
                    have HK : Hid (Kept No w wk25) := HK.out.then hk
                    clear hk
                    refine ⟨.bool false, by rw [q24], ?_⟩
                    try simp only [Act.put, List.setIfInBounds_toArray, List.set_cons_zero, List.set_cons_succ]
                    refine wp_takeW (o := { dst := some 81, op := Op.move (Operand.tmp 80), type := 4, pos := "ref.go:71", after := #[{ on := 2, ground := Ground.data }, { on := 2, ground := Ground.chain }], guard := none }) (.bool false) (by kernel_rfl) (by kernel_rfl) ?_
                    try simp only [Act.put, List.setIfInBounds_toArray, List.set_cons_zero, List.set_cons_succ]
                    refine wp_skip (o := { dst := some 82, op := Op.fieldAddr 27 (Operand.tmp 2) 6, type := 0, pos := "ref.go:71", after := #[{ on := 3, ground := Ground.guard }], guard := some (3, true) }) (by kernel_rfl) ?_
                    try simp only [Act.put, List.setIfInBounds_toArray, List.set_cons_zero, List.set_cons_succ]
                    refine wp_skip (o := { dst := some 83, op := Op.load 3 (Operand.tmp 82), type := 3, pos := "ref.go:71", after := #[{ on := 4, ground := Ground.data }, { on := 3, ground := Ground.guard }], guard := some (3, true) }) (by kernel_rfl) ?_
                    try simp only [Act.put, List.setIfInBounds_toArray, List.set_cons_zero, List.set_cons_succ]
                    refine wp_skip (o := { dst := some 84, op := Op.load 35 (Operand.tmp 3), type := 35, pos := "ref.go:71", after := #[{ on := 3, ground := Ground.guard }], guard := some (3, true) }) (by kernel_rfl) ?_
                    try simp only [Act.put, List.setIfInBounds_toArray, List.set_cons_zero, List.set_cons_succ]
                    refine wp_skip (o := { dst := some 85, op := Op.call { callee := Callee.value (Operand.func 30), args := #[Operand.tmp 83, Operand.tmp 84], argTypes := #[3, 35] }, type := 4, pos := "ref.go:71", after := #[{ on := 5, ground := Ground.data }, { on := 6, ground := Ground.data }, { on := 3, ground := Ground.chain }, { on := 3, ground := Ground.guard }], guard := some (3, true) }) (by kernel_rfl) ?_
                    try simp only [Act.put, List.setIfInBounds_toArray, List.set_cons_zero, List.set_cons_succ]
                    refine wp_takeW (o := { dst := some 86, op := Op.pick (Operand.tmp 81) (Operand.tmp 85) (Operand.const (Value.bool false)), type := 4, pos := "ref.go:71", after := #[{ on := 3, ground := Ground.data }, { on := 7, ground := Ground.data }], guard := none }) (.bool false) (by kernel_rfl) (by kernel_rfl) ?_
                    try simp only [Act.put, List.setIfInBounds_toArray, List.set_cons_zero, List.set_cons_succ]
                    refine wp_takeW (o := { dst := some 4, op := Op.assign (Operand.tmp 86), type := 4, pos := "ref.go:71", after := #[{ on := 8, ground := Ground.data }, { on := 7, ground := Ground.chain }, { on := 0, ground := Ground.phase }, { on := 1, ground := Ground.phase }, { on := 2, ground := Ground.phase }, { on := 3, ground := Ground.phase }, { on := 4, ground := Ground.phase }, { on := 5, ground := Ground.phase }, { on := 6, ground := Ground.phase }, { on := 7, ground := Ground.phase }, { on := 8, ground := Ground.phase }], guard := none }) (.bool false) (by kernel_rfl) (by kernel_rfl) ?_
                    try simp only [Act.put, List.setIfInBounds_toArray, List.set_cons_zero, List.set_cons_succ]
                    refine WL.nil ?_
                    try simp only [Act.put, List.setIfInBounds_toArray, List.set_cons_zero, List.set_cons_succ]
                    have hv : cmdB c = false := by first | (simp only [cmdB, q1, q2, q3, q4, q17, q18, q19, q23, q24]; rfl) | (unfold cmdB; rw [q1, q2, q3, q4, q17, q18, q19, q23, q24]; rfl) | simp [cmdB, q1, q2, q3, q4, q17, q18, q19, q23, q24]
                    go_wp2
                    go_ret
                    exact ⟨by rw [hv]; rfl, HK.out⟩
                  · skip
                    refine wp_callW (o := { dst := some 80, op := Op.call { callee := Callee.value (Operand.func 29), args := #[Operand.tmp 79], argTypes := #[25] }, type := 4, pos := "ref.go:71", after := #[{ on := 1, ground := Ground.data }], guard := none }) 29 #[.agg #[.int .i64 c.f0, .int .i64 c.f1]] (by kernel_rfl) _ (file_any c.f0 c.f1 _) (by kernel_rfl) ?_
                    rintro e wk26 ⟨rfl, hk⟩
                    have HC : Hid (Box wk26 N 27 c.cells) := HC.out.kept hk (fun e => e)
                    have HF : Hid (Box wk26 (N + 1) 35 (wideC wa)) := HF.out.kept hk (fun e => e)
                    have HK : Hid (Kept No w wk26) := HK.out.then hk
                    clear hk
                    refine ⟨.bool true, by rw [q24], ?_⟩
                    try simp only [Act.put, List.setIfInBounds_toArray, List.set_cons_zero, List.set_cons_succ]
                    refine wp_takeW (o := { dst := some 81, op := Op.move (Operand.tmp 80), type := 4, pos := "ref.go:71", after := #[{ on := 2, ground := Ground.data }, { on := 2, ground := Ground.chain }], guard := none }) (.bool true) (by kernel_rfl) (by kernel_rfl) ?_
                    try simp only [Act.put, List.setIfInBounds_toArray, List.set_cons_zero, List.set_cons_succ]
                    refine wp_takeW (o := { dst := some 82, op := Op.fieldAddr 27 (Operand.tmp 2) 6, type := 0, pos := "ref.go:71", after := #[{ on := 3, ground := Ground.guard }], guard := some (3, true) }) (.pointer (some ⟨N, 8, none⟩)) (by kernel_rfl) (by kernel_rfl) ?_
                    try simp only [Act.put, List.setIfInBounds_toArray, List.set_cons_zero, List.set_cons_succ]
                    refine wp_takeW (o := { dst := some 83, op := Op.load 3 (Operand.tmp 82), type := 3, pos := "ref.go:71", after := #[{ on := 4, ground := Ground.data }, { on := 3, ground := Ground.guard }], guard := some (3, true) }) (.int .i64 c.sz) (exec_load 3 _ rfl ⟨N, 8, none⟩ (by kernel_rfl) (.int .i64 c.sz) (load_N (Cm.cel HC.out).2.2.2.2)) (by kernel_rfl) ?_
                    try simp only [Act.put, List.setIfInBounds_toArray, List.set_cons_zero, List.set_cons_succ]
                    refine wp_takeW (o := { dst := some 84, op := Op.load 35 (Operand.tmp 3), type := 35, pos := "ref.go:71", after := #[{ on := 3, ground := Ground.guard }], guard := some (3, true) }) (.agg (wideC wa)) (exec_load 35 _ rfl ⟨N + 1, 0, none⟩ (by kernel_rfl) (.agg (wideC wa)) (load_W HF.out)) (by kernel_rfl) ?_
                    try simp only [Act.put, List.setIfInBounds_toArray, List.set_cons_zero, List.set_cons_succ]
                    cases q25 : (szB c.sz)
                    · skip
                      refine wp_callW (o := { dst := some 85, op := Op.call { callee := Callee.value (Operand.func 30), args := #[Operand.tmp 83, Operand.tmp 84], argTypes := #[3, 35] }, type := 4, pos := "ref.go:71", after := #[{ on := 5, ground := Ground.data }, { on := 6, ground := Ground.data }, { on := 3, ground := Ground.chain }, { on := 3, ground := Ground.guard }], guard := some (3, true) }) 30 #[.int .i64 c.sz, .agg (wideC wa)] (by kernel_rfl) _ (size_any c.sz wa _) (by kernel_rfl) ?_
                      rintro e wk27 ⟨rfl, hk⟩
                      have HC : Hid (Box wk27 N 27 c.cells) := HC.out.kept hk (fun e => e)
                      have HF : Hid (Box wk27 (N + 1) 35 (wideC wa)) := HF.out.kept hk (fun e => e)
                      have HK : Hid (Kept No w wk27) := HK.out.then hk
                      clear hk
                      refine ⟨.bool false, by rw [q25], ?_⟩
                      try simp only [Act.put, List.setIfInBounds_toArray, List.set_cons_zero, List.set_cons_succ]
                      refine wp_takeW (o := { dst := some 86, op := Op.pick (Operand.tmp 81) (Operand.tmp 85) (Operand.const (Value.bool false)), type := 4, pos := "ref.go:71", after := #[{ on := 3, ground := Ground.data }, { on := 7, ground := Ground.data }], guard := none }) (.bool false) (by kernel_rfl) (by kernel_rfl) ?_
                      try simp only [Act.put, List.setIfInBounds_toArray, List.set_cons_zero, List.set_cons_succ]
                      refine wp_takeW (o := { dst := some 4, op := Op.assign (Operand.tmp 86), type := 4, pos := "ref.go:71", after := #[{ on := 8, ground := Ground.data }, { on := 7, ground := Ground.chain }, { on := 0, ground := Ground.phase }, { on := 1, ground := Ground.phase }, { on := 2, ground := Ground.phase }, { on := 3, ground := Ground.phase }, { on := 4, ground := Ground.phase }, { on := 5, ground := Ground.phase }, { on := 6, ground := Ground.phase }, { on := 7, ground := Ground.phase }, { on := 8, ground := Ground.phase }], guard := none }) (.bool false) (by kernel_rfl) (by kernel_rfl) ?_
                      try simp only [Act.put, List.setIfInBounds_toArray, List.set_cons_zero, List.set_cons_succ]
                      refine WL.nil ?_
                      try simp only [Act.put, List.setIfInBounds_toArray, List.set_cons_zero, List.set_cons_succ]
                      have hv : cmdB c = false := by first | (simp only [cmdB, q1, q2, q3, q4, q17, q18, q19, q23, q24, q25]; rfl) | (unfold cmdB; rw [q1, q2, q3, q4, q17, q18, q19, q23, q24, q25]; rfl) | simp [cmdB, q1, q2, q3, q4, q17, q18, q19, q23, q24, q25]
                      go_wp2
                      go_ret
                      exact ⟨by rw [hv]; rfl, HK.out⟩
                    · skip
                      refine wp_callW (o := { dst := some 85, op := Op.call { callee := Callee.value (Operand.func 30), args := #[Operand.tmp 83, Operand.tmp 84], argTypes := #[3, 35] }, type := 4, pos := "ref.go:71", after := #[{ on := 5, ground := Ground.data }, { on := 6, ground := Ground.data }, { on := 3, ground := Ground.chain }, { on := 3, ground := Ground.guard }], guard := some (3, true) }) 30 #[.int .i64 c.sz, .agg (wideC wa)] (by kernel_rfl) _ (size_any c.sz wa _) (by kernel_rfl) ?_
                      rintro e wk28 ⟨rfl, hk⟩
                      have HC : Hid (Box wk28 N 27 c.cells) := HC.out.kept hk (fun e => e)
                      have HF : Hid (Box wk28 (N + 1) 35 (wideC wa)) := HF.out.kept hk (fun e => e)
                      have HK : Hid (Kept No w wk28) := HK.out.then hk
                      clear hk
                      refine ⟨.bool true, by rw [q25], ?_⟩
                      try simp only [Act.put, List.setIfInBounds_toArray, List.set_cons_zero, List.set_cons_succ]
                      refine wp_takeW (o := { dst := some 86, op := Op.pick (Operand.tmp 81) (Operand.tmp 85) (Operand.const (Value.bool false)), type := 4, pos := "ref.go:71", after := #[{ on := 3, ground := Ground.data }, { on := 7, ground := Ground.data }], guard := none }) (.bool true) (by kernel_rfl) (by kernel_rfl) ?_
                      try simp only [Act.put, List.setIfInBounds_toArray, List.set_cons_zero, List.set_cons_succ]
                      refine wp_takeW (o := { dst := some 4, op := Op.assign (Operand.tmp 86), type := 4, pos := "ref.go:71", after := #[{ on := 8, ground := Ground.data }, { on := 7, ground := Ground.chain }, { on := 0, ground := Ground.phase }, { on := 1, ground := Ground.phase }, { on := 2, ground := Ground.phase }, { on := 3, ground := Ground.phase }, { on := 4, ground := Ground.phase }, { on := 5, ground := Ground.phase }, { on := 6, ground := Ground.phase }, { on := 7, ground := Ground.phase }, { on := 8, ground := Ground.phase }], guard := none }) (.bool true) (by kernel_rfl) (by kernel_rfl) ?_
                      try simp only [Act.put, List.setIfInBounds_toArray, List.set_cons_zero, List.set_cons_succ]
                      refine WL.nil ?_
                      try simp only [Act.put, List.setIfInBounds_toArray, List.set_cons_zero, List.set_cons_succ]
                      have hv : cmdB c = true := by first | (simp only [cmdB, q1, q2, q3, q4, q17, q18, q19, q23, q24, q25]; rfl) | (unfold cmdB; rw [q1, q2, q3, q4, q17, q18, q19, q23, q24, q25]; rfl) | simp [cmdB, q1, q2, q3, q4, q17, q18, q19, q23, q24, q25]
                      go_wp2
                      go_ret
                      exact ⟨by rw [hv]; rfl, HK.out⟩
            · skip
              refine wp_takeW (o := { dst := some 42, op := Op.binOp BinOp.lss 3 (Operand.tmp 41) (Operand.const (Value.int IntKind.i64 5)) 3, type := 4, pos := "ref.go:65", after := #[{ on := 1, ground := Ground.data }], guard := none }) (.bool true) (exec_bin .lss 3 _ _ _ rfl (.int .i64 c.k) (.int .i64 5) (.bool true) (by kernel_rfl) (by kernel_rfl) (by kernel_rfl) (by rw [lssN, q18]; try rfl)) (by kernel_rfl) ?_
              try simp only [Act.put, List.setIfInBounds_toArray, List.set_cons_zero, List.set_cons_succ]
              refine WL.nil ?_
              try simp only [Act.put, List.setIfInBounds_toArray, List.set_cons_zero, List.set_cons_succ]
              go_upto_region 6 with fail
              refine WL.start ?_
              refine wp_takeW (o := { dst := some 43, op := Op.fieldAddr 27 (Operand.tmp 2) 4, type := 0, pos := "ref.go:66", after := #[], guard := none }) (.pointer (some ⟨N, 4, none⟩)) (by kernel_rfl) (by kernel_rfl) ?_
              try simp only [Act.put, List.setIfInBounds_toArray, List.set_cons_zero, List.set_cons_succ]
              refine wp_takeW (o := { dst := some 44, op := Op.load 25 (Operand.tmp 43), type := 25, pos := "ref.go:66", after := #[{ on := 0, ground := Ground.data }], guard := none }) (.agg #[.int .i64 c.f0, .int .i64 c.f1]) (exec_load 25 _ rfl ⟨N, 4, none⟩ (by kernel_rfl) (.agg #[.int .i64 c.f0, .int .i64 c.f1]) (load_F HC.out c.partF)) (by kernel_rfl) ?_
              try simp only [Act.put, List.setIfInBounds_toArray, List.set_cons_zero, List.set_cons_succ]
              refine wp_takeW (o := { dst := some 45, op := Op.build 25 #[], type := 25, pos := "ref.go:66", after := #[], guard := none }) (.agg (#[.int .i64 0, .int .i64 0])) (exec_build 25 _ rfl (#[.int .i64 0, .int .i64 0]) (by kernel_rfl)) (by kernel_rfl) ?_
              try simp only [Act.put, List.setIfInBounds_toArray, List.set_cons_zero, List.set_cons_succ]
              cases q26 : (c.f0 == 0 && c.f1 == 0)
              · skip
                refine wp_takeW (o := { dst := some 46, op := Op.binOp BinOp.eql 25 (Operand.tmp 44) (Operand.tmp 45) 25, type := 4, pos := "ref.go:66", after := #[{ on := 1, ground := Ground.data }, { on := 2, ground := Ground.data }], guard := none }) (.bool false) (exec_bin .eql 25 _ _ _ rfl (.agg #[.int .i64 c.f0, .int .i64 c.f1]) (.agg (#[.int .i64 0, .int .i64 0])) (.bool false) (by kernel_rfl) (by kernel_rfl) (guard_F _ (.inl rfl) _ _ _ _ _) (by rw [eqlF, q26]; try rfl)) (by kernel_rfl) ?_
                try simp only [Act.put, List.setIfInBounds_toArray, List.set_cons_zero, List.set_cons_succ]
                refine wp_takeW (o := { dst := some 47, op := Op.move (Operand.tmp 46), type := 4, pos := "ref.go:66", after := #[{ on := 3, ground := Ground.data }], guard := none }) (.bool false) (by kernel_rfl) (by kernel_rfl) ?_
                try simp only [Act.put, List.setIfInBounds_toArray, List.set_cons_zero, List.set_cons_succ]
                refine wp_skip (o := { dst := some 48, op := Op.fieldAddr 27 (Operand.tmp 2) 5, type := 0, pos := "ref.go:66", after := #[{ on := 4, ground := Ground.guard }], guard := some (4, true) }) (by kernel_rfl) ?_
                try simp only [Act.put, List.setIfInBounds_toArray, List.set_cons_zero, List.set_cons_succ]
                refine wp_skip (o := { dst := some 49, op := Op.load 25 (Operand.tmp 48), type := 25, pos := "ref.go:66", after := #[{ on := 5, ground := Ground.data }, { on := 4, ground := Ground.guard }], guard := some (4, true) }) (by kernel_rfl) ?_
                try simp only [Act.put, List.setIfInBounds_toArray, List.set_cons_zero, List.set_cons_succ]
                refine wp_skip (o := { dst := some 50, op := Op.build 25 #[], type := 25, pos := "ref.go:66", after := #[{ on := 4, ground := Ground.guard }], guard := some (4, true) }) (by kernel_rfl) ?_
                try simp only [Act.put, List.setIfInBounds_toArray, List.set_cons_zero, List.set_cons_succ]
                refine wp_skip (o := { dst := some 51, op := Op.binOp BinOp.eql 25 (Operand.tmp 49) (Operand.tmp 50) 25, type := 4, pos := "ref.go:66", after := #[{ on := 6, ground := Ground.data }, { on := 7, ground := Ground.data }, { on := 4, ground := Ground.guard }], guard := some (4, true) }) (by kernel_rfl) ?_
                try simp only [Act.put, List.setIfInBounds_toArray, List.set_cons_zero, List.set_cons_succ]
                refine wp_takeW (o := { dst := some 52, op := Op.pick (Operand.tmp 47) (Operand.tmp 51) (Operand.const (Value.bool false)), type := 4, pos := "ref.go:66", after := #[{ on := 4, ground := Ground.data }, { on := 8, ground := Ground.data }], guard := none }) (.bool false) (by kernel_rfl) (by kernel_rfl) ?_
                try simp only [Act.put, List.setIfInBounds_toArray, List.set_cons_zero, List.set_cons_succ]
                refine wp_takeW (o := { dst := some 53, op := Op.move (Operand.tmp 52), type := 4, pos := "ref.go:66", after := #[{ on := 9, ground := Ground.data }, { on := 4, ground := Ground.chain }], guard := none }) (.bool false) (by kernel_rfl) (by kernel_rfl) ?_
                try simp only [Act.put, List.setIfInBounds_toArray, List.set_cons_zero, List.set_cons_succ]
                refine wp_skip (o := { dst := some 54, op := Op.fieldAddr 27 (Operand.tmp 2) 6, type := 0, pos := "ref.go:66", after := #[{ on := 10, ground := Ground.guard }], guard := some (10, true) }) (by kernel_rfl) ?_
                try simp only [Act.put, List.setIfInBounds_toArray, List.set_cons_zero, List.set_cons_succ]
                refine wp_skip (o := { dst := some 55, op := Op.load 3 (Operand.tmp 54), type := 3, pos := "ref.go:66", after := #[{ on := 11, ground := Ground.data }, { on := 10, ground := Ground.guard }], guard := some (10, true) }) (by kernel_rfl) ?_
                try simp only [Act.put, List.setIfInBounds_toArray, List.set_cons_zero, List.set_cons_succ]
                refine wp_skip (o := { dst := some 56, op := Op.binOp BinOp.eql 3 (Operand.tmp 55) (Operand.const (Value.int IntKind.i64 0)) 3, type := 4, pos := "ref.go:66", after := #[{ on := 12, ground := Ground.data }, { on := 10, ground := Ground.guard }], guard := some (10, true) }) (by kernel_rfl) ?_
                try simp only [Act.put, List.setIfInBounds_toArray, List.set_cons_zero, List.set_cons_succ]
                refine wp_takeW (o := { dst := some 57, op := Op.pick (Operand.tmp 53) (Operand.tmp 56) (Operand.const (Value.bool false)), type := 4, pos := "ref.go:66", after := #[{ on := 10, ground := Ground.data }, { on := 13, ground := Ground.data }], guard := none }) (.bool false) (by kernel_rfl) (by kernel_rfl) ?_
                try simp only [Act.put, List.setIfInBounds_toArray, List.set_cons_zero, List.set_cons_succ]
                refine wp_takeW (o := { dst := some 4, op := Op.assign (Operand.tmp 57), type := 4, pos := "ref.go:66", after := #[{ on := 14, ground := Ground.data }, { on := 10, ground := Ground.chain }, { on := 0, ground := Ground.phase }, { on := 1, ground := Ground.phase }, { on := 2, ground := Ground.phase }, { on := 3, ground := Ground.phase }, { on := 4, ground := Ground.phase }, { on := 5, ground := Ground.phase }, { on := 6, ground := Ground.phase }, { on := 7, ground := Ground.phase }, { on := 8, ground := Ground.phase }, { on := 9, ground := Ground.phase }, { on := 10, ground := Ground.phase }, { on := 11, ground := Ground.phase }, { on := 12, ground := Ground.phase }, { on := 13, ground := Ground.phase }, { on := 14, ground := Ground.phase }], guard := none }) (.bool false) (by kernel_rfl) (by kernel_rfl) ?_
                try simp only [Act.put, List.setIfInBounds_toArray, List.set_cons_zero, List.set_cons_succ]
                refine WL.nil ?_
                try simp only [Act.put, List.setIfInBounds_toArray, List.set_cons_zero, List.set_cons_succ]
                have hv : cmdB c = false := by first | (simp only [cmdB, q1, q2, q3, q4, q17, q18, q26]; rfl) | (unfold cmdB; rw [q1, q2, q3, q4, q17, q18, q26]; rfl) | simp [cmdB, q1, q2, q3, q4, q17, q18, q26]
                go_wp2
                go_ret
                exact ⟨by rw [hv]; rfl, HK.out⟩
              · skip
                refine wp_takeW (o := { dst := some 46, op := Op.binOp BinOp.eql 25 (Operand.tmp 44) (Operand.tmp 45) 25, type := 4, pos := "ref.go:66", after := #[{ on := 1, ground := Ground.data }, { on := 2, ground := Ground.data }], guard := none }) (.bool true) (exec_bin .eql 25 _ _ _ rfl (.agg #[.int .i64 c.f0, .int .i64 c.f1]) (.agg (#[.int .i64 0, .int .i64 0])) (.bool true) (by kernel_rfl) (by kernel_rfl) (guard_F _ (.inl rfl) _ _ _ _ _) (by rw [eqlF, q26]; try rfl)) (by kernel_rfl) ?_
                try simp only [Act.put, List.setIfInBounds_toArray, List.set_cons_zero, List.set_cons_succ]
                refine wp_takeW (o := { dst := some 47, op := Op.move (Operand.tmp 46), type := 4, pos := "ref.go:66", after := #[{ on := 3, ground := Ground.data }], guard := none }) (.bool true) (by kernel_rfl) (by kernel_rfl) ?_
                try simp only [Act.put, List.setIfInBounds_toArray, List.set_cons_zero, List.set_cons_succ]
                refine wp_takeW (o := { dst := some 48, op := Op.fieldAddr 27 (Operand.tmp 2) 5, type := 0, pos := "ref.go:66", after := #[{ on := 4, ground := Ground.guard }], guard := some (4, true) }) (.pointer (some ⟨N, 6, none⟩)) (by kernel_rfl) (by kernel_rfl) ?_
                try simp only [Act.put, List.setIfInBounds_toArray, List.set_cons_zero, List.set_cons_succ]
                refine wp_takeW (o := { dst := some 49, op := Op.load 25 (Operand.tmp 48), type := 25, pos := "ref.go:66", after := #[{ on := 5, ground := Ground.data }, { on := 4, ground := Ground.guard }], guard := some (4, true) }) (.agg #[.int .i64 c.g0, .int .i64 c.g1]) (exec_load 25 _ rfl ⟨N, 6, none⟩ (by kernel_rfl) (.agg #[.int .i64 c.g0, .int .i64 c.g1]) (load_F HC.out c.partG)) (by kernel_rfl) ?_
                try simp only [Act.put, List.setIfInBounds_toArray, List.set_cons_zero, List.set_cons_succ]
                refine wp_takeW (o := { dst := some 50, op := Op.build 25 #[], type := 25, pos := "ref.go:66", after := #[{ on := 4, ground := Ground.guard }], guard := some (4, true) }) (.agg (#[.int .i64 0, .int .i64 0])) (exec_build 25 _ rfl (#[.int .i64 0, .int .i64 0]) (by kernel_rfl)) (by kernel_rfl) ?_
                try simp only [Act.put, List.setIfInBounds_toArray, List.set_cons_zero, List.set_cons_succ]
                cases q27 : (c.g0 == 0 && c.g1 == 0)
                · skip
                  refine wp_takeW (o := { dst := some 51, op := Op.binOp BinOp.eql 25 (Operand.tmp 49) (Operand.tmp 50) 25, type := 4, pos := "ref.go:66", after := #[{ on := 6, ground := Ground.data }, { on := 7, ground := Ground.data }, { on := 4, ground := Ground.guard }], guard := some (4, true) }) (.bool false) (exec_bin .eql 25 _ _ _ rfl (.agg #[.int .i64 c.g0, .int .i64 c.g1]) (.agg (#[.int .i64 0, .int .i64 0])) (.bool false) (by kernel_rfl) (by kernel_rfl) (guard_F _ (.inl rfl) _ _ _ _ _) (by rw [eqlF, q27]; try rfl)) (by kernel_rfl) ?_
                  try simp only [Act.put, List.setIfInBounds_toArray, List.set_cons_zero, List.set_cons_succ]
                  refine wp_takeW (o := { dst := some 52, op := Op.pick (Operand.tmp 47) (Operand.tmp 51) (Operand.const (Value.bool false)), type := 4, pos := "ref.go:66", after := #[{ on := 4, ground := Ground.data }, { on := 8, ground := Ground.data }], guard := none }) (.bool false) (by kernel_rfl) (by kernel_rfl) ?_
                  try simp only [Act.put, List.setIfInBounds_toArray, List.set_cons_zero, List.set_cons_succ]
                  refine wp_takeW (o := { dst := some 53, op := Op.move (Operand.tmp 52), type := 4, pos := "ref.go:66", after := #[{ on := 9, ground := Ground.data }, { on := 4, ground := Ground.chain }], guard := none }) (.bool false) (by kernel_rfl) (by kernel_rfl) ?_
                  try simp only [Act.put, List.setIfInBounds_toArray, List.set_cons_zero, List.set_cons_succ]
                  refine wp_skip (o := { dst := some 54, op := Op.fieldAddr 27 (Operand.tmp 2) 6, type := 0, pos := "ref.go:66", after := #[{ on := 10, ground := Ground.guard }], guard := some (10, true) }) (by kernel_rfl) ?_
                  try simp only [Act.put, List.setIfInBounds_toArray, List.set_cons_zero, List.set_cons_succ]
                  refine wp_skip (o := { dst := some 55, op := Op.load 3 (Operand.tmp 54), type := 3, pos := "ref.go:66", after := #[{ on := 11, ground := Ground.data }, { on := 10, ground := Ground.guard }], guard := some (10, true) }) (by kernel_rfl) ?_
                  try simp only [Act.put, List.setIfInBounds_toArray, List.set_cons_zero, List.set_cons_succ]
                  refine wp_skip (o := { dst := some 56, op := Op.binOp BinOp.eql 3 (Operand.tmp 55) (Operand.const (Value.int IntKind.i64 0)) 3, type := 4, pos := "ref.go:66", after := #[{ on := 12, ground := Ground.data }, { on := 10, ground := Ground.guard }], guard := some (10, true) }) (by kernel_rfl) ?_
                  try simp only [Act.put, List.setIfInBounds_toArray, List.set_cons_zero, List.set_cons_succ]
                  refine wp_takeW (o := { dst := some 57, op := Op.pick (Operand.tmp 53) (Operand.tmp 56) (Operand.const (Value.bool false)), type := 4, pos := "ref.go:66", after := #[{ on := 10, ground := Ground.data }, { on := 13, ground := Ground.data }], guard := none }) (.bool false) (by kernel_rfl) (by kernel_rfl) ?_
                  try simp only [Act.put, List.setIfInBounds_toArray, List.set_cons_zero, List.set_cons_succ]
                  refine wp_takeW (o := { dst := some 4, op := Op.assign (Operand.tmp 57), type := 4, pos := "ref.go:66", after := #[{ on := 14, ground := Ground.data }, { on := 10, ground := Ground.chain }, { on := 0, ground := Ground.phase }, { on := 1, ground := Ground.phase }, { on := 2, ground := Ground.phase }, { on := 3, ground := Ground.phase }, { on := 4, ground := Ground.phase }, { on := 5, ground := Ground.phase }, { on := 6, ground := Ground.phase }, { on := 7, ground := Ground.phase }, { on := 8, ground := Ground.phase }, { on := 9, ground := Ground.phase }, { on := 10, ground := Ground.phase }, { on := 11, ground := Ground.phase }, { on := 12, ground := Ground.phase }, { on := 13, ground := Ground.phase }, { on := 14, ground := Ground.phase }], guard := none }) (.bool false) (by kernel_rfl) (by kernel_rfl) ?_
                  try simp only [Act.put, List.setIfInBounds_toArray, List.set_cons_zero, List.set_cons_succ]
                  refine WL.nil ?_
                  try simp only [Act.put, List.setIfInBounds_toArray, List.set_cons_zero, List.set_cons_succ]
                  have hv : cmdB c = false := by first | (simp only [cmdB, q1, q2, q3, q4, q17, q18, q26, q27]; rfl) | (unfold cmdB; rw [q1, q2, q3, q4, q17, q18, q26, q27]; rfl) | simp [cmdB, q1, q2, q3, q4, q17, q18, q26, q27]
                  go_wp2
                  go_ret
                  exact ⟨by rw [hv]; rfl, HK.out⟩
                · skip
                  refine wp_takeW (o := { dst := some 51, op := Op.binOp BinOp.eql 25 (Operand.tmp 49) (Operand.tmp 50) 25, type := 4, pos := "ref.go:66", after := #[{ on := 6, ground := Ground.data }, { on := 7, ground := Ground.data }, { on := 4, ground := Ground.guard }], guard := some (4, true) }) (.bool true) (exec_bin .eql 25 _ _ _ rfl (.agg #[.int .i64 c.g0, .int .i64 c.g1]) (.agg (#[.int .i64 0, .int .i64 0])) (.bool true) (by kernel_rfl) (by kernel_rfl) (guard_F _ (.inl rfl) _ _ _ _ _) (by rw [eqlF, q27]; try rfl)) (by kernel_rfl) ?_
                  try simp only [Act.put, List.setIfInBounds_toArray, List.set_cons_zero, List.set_cons_succ]
                  refine wp_takeW (o := { dst := some 52, op := Op.pick (Operand.tmp 47) (Operand.tmp 51) (Operand.const (Value.bool false)), type := 4, pos := "ref.go:66", after := #[{ on := 4, ground := Ground.data }, { on := 8, ground := Ground.data }], guard := none }) (.bool true) (by kernel_rfl) (by kernel_rfl) ?_
                  try simp only [Act.put, List.setIfInBounds_toArray, List.set_cons_zero, List.set_cons_succ]
                  refine wp_takeW (o := { dst := some 53, op := Op.move (Operand.tmp 52), type := 4, pos := "ref.go:66", after := #[{ on := 9, ground := Ground.data }, { on := 4, ground := Ground.chain }], guard := none }) (.bool true) (by kernel_rfl) (by kernel_rfl) ?_
                  try simp only [Act.put, List.setIfInBounds_toArray, List.set_cons_zero, List.set_cons_succ]
                  refine wp_takeW (o := { dst := some 54, op := Op.fieldAddr 27 (Operand.tmp 2) 6, type := 0, pos := "ref.go:66", after := #[{ on := 10, ground := Ground.guard }], guard := some (10, true) }) (.pointer (some ⟨N, 8, none⟩)) (by kernel_rfl) (by kernel_rfl) ?_
                  try simp only [Act.put, List.setIfInBounds_toArray, List.set_cons_zero, List.set_cons_succ]
                  refine wp_takeW (o := { dst := some 55, op := Op.load 3 (Operand.tmp 54), type := 3, pos := "ref.go:66", after := #[{ on := 11, ground := Ground.data }, { on := 10, ground := Ground.guard }], guard := some (10, true) }) (.int .i64 c.sz) (exec_load 3 _ rfl ⟨N, 8, none⟩ (by kernel_rfl) (.int .i64 c.sz) (load_N (Cm.cel HC.out).2.2.2.2)) (by kernel_rfl) ?_
                  try simp only [Act.put, List.setIfInBounds_toArray, List.set_cons_zero, List.set_cons_succ]
                  cases q28 : (c.sz == 0)
                  · skip
                    refine wp_takeW (o := { dst := some 56, op := Op.binOp BinOp.eql 3 (Operand.tmp 55) (Operand.const (Value.int IntKind.i64 0)) 3, type := 4, pos := "ref.go:66", after := #[{ on := 12, ground := Ground.data }, { on := 10, ground := Ground.guard }], guard := some (10, true) }) (.bool false) (exec_bin .eql 3 _ _ _ rfl (.int .i64 c.sz) (.int .i64 0) (.bool false) (by kernel_rfl) (by kernel_rfl) (by kernel_rfl) (by rw [eqlN, q28]; try rfl)) (by kernel_rfl) ?_
                    try simp only [Act.put, List.setIfInBounds_toArray, List.set_cons_zero, List.set_cons_succ]
                    refine wp_takeW (o := { dst := some 57, op := Op.pick (Operand.tmp 53) (Operand.tmp 56) (Operand.const (Value.bool false)), type := 4, pos := "ref.go:66", after := #[{ on := 10, ground := Ground.data }, { on := 13, ground := Ground.data }], guard := none }) (.bool false) (by kernel_rfl) (by kernel_rfl) ?_
                    try simp only [Act.put, List.setIfInBounds_toArray, List.set_cons_zero, List.set_cons_succ]
                    refine wp_takeW (o := { dst := some 4, op := Op.assign (Operand.tmp 57), type := 4, pos := "ref.go:66", after := #[{ on := 14, ground := Ground.data }, { on := 10, ground := Ground.chain }, { on := 0, ground := Ground.phase }, { on := 1, ground := Ground.phase }, { on := 2, ground := Ground.phase }, { on := 3, ground := Ground.phase }, { on := 4, ground := Ground.phase }, { on := 5, ground := Ground.phase }, { on := 6, ground := Ground.phase }, { on := 7, ground := Ground.phase }, { on := 8, ground := Ground.phase }, { on := 9, ground := Ground.phase }, { on := 10, ground := Ground.phase }, { on := 11, ground := Ground.phase }, { on := 12, ground := Ground.phase }, { on := 13, ground := Ground.phase }, { on := 14, ground := Ground.phase }], guard := none }) (.bool false) (by kernel_rfl) (by kernel_rfl) ?_
                    try simp only [Act.put, List.setIfInBounds_toArray, List.set_cons_zero, List.set_cons_succ]
                    refine WL.nil ?_
                    try simp only [Act.put, List.setIfInBounds_toArray, List.set_cons_zero, List.set_cons_succ]
                    have hv : cmdB c = false := by first | (simp only [cmdB, q1, q2, q3, q4, q17, q18, q26, q27, q28]; rfl) | (unfold cmdB; rw [q1, q2, q3, q4, q17, q18, q26, q27, q28]; rfl) | simp [cmdB, q1, q2, q3, q4, q17, q18, q26, q27, q28]
                    go_wp2
                    go_ret
                    exact ⟨by rw [hv]; rfl, HK.out⟩
                  · skip
                    refine wp_takeW (o := { dst := some 56, op := Op.binOp BinOp.eql 3 (Operand.tmp 55) (Operand.const (Value.int IntKind.i64 0)) 3, type := 4, pos := "ref.go:66", after := #[{ on := 12, ground := Ground.data }, { on := 10, ground := Ground.guard }], guard := some (10, true) }) (.bool true) (exec_bin .eql 3 _ _ _ rfl (.int .i64 c.sz) (.int .i64 0) (.bool true) (by kernel_rfl) (by kernel_rfl) (by kernel_rfl) (by rw [eqlN, q28]; try rfl)) (by kernel_rfl) ?_
                    try simp only [Act.put, List.setIfInBounds_toArray, List.set_cons_zero, List.set_cons_succ]
                    refine wp_takeW (o := { dst := some 57, op := Op.pick (Operand.tmp 53) (Operand.tmp 56) (Operand.const (Value.bool false)), type := 4, pos := "ref.go:66", after := #[{ on := 10, ground := Ground.data }, { on := 13, ground := Ground.data }], guard := none }) (.bool true) (by kernel_rfl) (by kernel_rfl) ?_
                    try simp only [Act.put, List.setIfInBounds_toArray, List.set_cons_zero, List.set_cons_succ]
                    refine wp_takeW (o := { dst := some 4, op := Op.assign (Operand.tmp 57), type := 4, pos := "ref.go:66", after := #[{ on := 14, ground := Ground.data }, { on := 10, ground := Ground.chain }, { on := 0, ground := Ground.phase }, { on := 1, ground := Ground.phase }, { on := 2, ground := Ground.phase }, { on := 3, ground := Ground.phase }, { on := 4, ground := Ground.phase }, { on := 5, ground := Ground.phase }, { on := 6, ground := Ground.phase }, { on := 7, ground := Ground.phase }, { on := 8, ground := Ground.phase }, { on := 9, ground := Ground.phase }, { on := 10, ground := Ground.phase }, { on := 11, ground := Ground.phase }, { on := 12, ground := Ground.phase }, { on := 13, ground := Ground.phase }, { on := 14, ground := Ground.phase }], guard := none }) (.bool true) (by kernel_rfl) (by kernel_rfl) ?_
                    try simp only [Act.put, List.setIfInBounds_toArray, List.set_cons_zero, List.set_cons_succ]
                    refine WL.nil ?_
                    try simp only [Act.put, List.setIfInBounds_toArray, List.set_cons_zero, List.set_cons_succ]
                    have hv : cmdB c = true := by first | (simp only [cmdB, q1, q2, q3, q4, q17, q18, q26, q27, q28]; rfl) | (unfold cmdB; rw [q1, q2, q3, q4, q17, q18, q26, q27, q28]; rfl) | simp [cmdB, q1, q2, q3, q4, q17, q18, q26, q27, q28]
                    go_wp2
                    go_ret
                    exact ⟨by rw [hv]; rfl, HK.out⟩

end Go.Proofs.Ytapjnanenfcdjaa
