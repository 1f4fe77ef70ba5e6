import Derived.Test.YtapjnanenfcdjaaJa
namespace Go.Proofs.Ytapjnanenfcdjaa
open Go.RowKit
set_option linter.unusedVariables false
set_option linter.unusedSimpArgs false

set_option maxRecDepth 100000 in
set_option maxHeartbeats 1000000 in
theorem sameB0 (w : World) : Calls Try.prog 33 #[.slice none 0 0, .slice none 0 0] w (fun e w' => e = .returned (.bool true) ∧ w' = w) := by
  go_enter Try.func33, Try.ntmps33
  go_wp2
  go_loopw [5] (fun vi wr => vi = .int .i64 0 ∧ wr = w) (fun _ _ => 0)
  case atStart => exact ⟨rfl, rfl⟩
  case round =>
    obtain ⟨rfl, rfl⟩ := hrel
    go_wp2
    go_ret
    exact ⟨rfl, rfl⟩

set_option maxRecDepth 100000 in
set_option maxHeartbeats 1000000 in
theorem sameC0 (w : World) : Calls Try.prog 35 #[.slice none 0 0, .slice none 0 0] w (fun e w' => e = .returned (.bool true) ∧ w' = w) := by
  go_enter Try.func35, Try.ntmps35
  go_wp2
  go_loopw [5] (fun vi wr => vi = .int .i64 0 ∧ wr = w) (fun _ _ => 0)
  case atStart => exact ⟨rfl, rfl⟩
  case round =>
    obtain ⟨rfl, rfl⟩ := hrel
    go_wp2
    go_ret
    exact ⟨rfl, rfl⟩

set_option maxRecDepth 100000 in
set_option maxHeartbeats 1000000 in
theorem sameK0 (w : World) : Calls Try.prog 34 #[.agg #[.int .i64 0, .slice none 0 0, .slice none 0 0], .agg #[.int .i64 0, .slice none 0 0, .slice none 0 0]] w (fun e w' => e = .returned (.bool true) ∧ Kept No w w') := by
  obtain ⟨w1, hw1⟩ : ∃ w1, w1 = (w.alloc (.cells #[.int .i64 0, .slice none 0 0, .slice none 0 0] 49)).alloc (.cells #[.int .i64 0, .slice none 0 0, .slice none 0 0] 49) := ⟨_, rfl⟩
  have HK : Hid (Kept No w w1) := by rw [hw1]; exact ((Kept.refl No w).alloc _).alloc _
  obtain ⟨N, hN⟩ : ∃ N, N = w.heap.size := ⟨_, rfl⟩
  have hal := al2 w #[.int .i64 0, .slice none 0 0, .slice none 0 0] 49 #[.int .i64 0, .slice none 0 0, .slice none 0 0] 49
  rw [← hw1, ← hN] at hal
  have a0 := hal.2.1.cell 0
  have a1 := hal.2.1.cell 1
  have a2 := hal.2.1.cell 2
  have b0 := hal.2.2.1.cell 0
  have b1 := hal.2.2.1.cell 1
  have b2 := hal.2.2.1.cell 2
  simp only [List.getElem?_toArray, List.getElem?_cons_zero, List.getElem?_cons_succ] at a0 a1 a2 b0 b1 b2
  clear hal
  go_enter Try.func34, Try.ntmps34
  go_upto_region 1 with fail
  rw [← hw1, ← hN]
  clear hw1 hN
  go_wp2
  go_loopw [5] (fun vi wr => vi = .int .i64 0 ∧ wr = w1) (fun _ _ => 0)
  case atStart => exact ⟨rfl, rfl⟩
  case round =>
    obtain ⟨rfl, rfl⟩ := hrel
    go_wp2
    go_loopw [6] (fun vi wr' => vi = .int .i64 0 ∧ wr' = wr) (fun _ _ => 0)
    case atStart => exact ⟨rfl, rfl⟩
    case round =>
      obtain ⟨rfl, rfl⟩ := hrel
      go_wp2
      go_ret
      exact ⟨rfl, HK.out⟩

theorem Mg.partFrom (m : Mg) : Part m.cs 1 [.bool false, .int .i64 0] := fun j v h => by
  match j, h with
  | 0, h => exact h
  | 1, h => exact h
theorem Mg.partTo (m : Mg) : Part m.cs 3 [.bool false, .int .i64 0] := fun j v h => by
  match j, h with
  | 0, h => exact h
  | 1, h => exact h
theorem Mg.partKey (m : Mg) : Part m.cs 7 [.int .i64 0, .int .i64 0, .int .i64 0, .int .i64 0] := fun j v h => by
  match j, h with
  | 0, h => exact h
  | 1, h => exact h
  | 2, h => exact h
  | 3, h => exact h
theorem Mg.partBkt (m : Mg) : Part m.cs 25 [.int .i64 0, .slice none 0 0, .slice none 0 0] := fun j v h => by
  match j, h with
  | 0, h => exact h
  | 1, h => exact h
  | 2, h => exact h
theorem Try.und42 : Try.prog.underlying 42 = some (.struct (Try.prog.fieldsOf 42)) := by kernel_rfl
theorem Try.und44 : Try.prog.underlying 44 = some (.struct (Try.prog.fieldsOf 44)) := by kernel_rfl
theorem Try.und49 : Try.prog.underlying 49 = some (.struct (Try.prog.fieldsOf 49)) := by kernel_rfl
theorem Try.size42 : (Try.prog.info? 42).map (·.size) = some 2 := by kernel_rfl
theorem Try.size44 : (Try.prog.info? 44).map (·.size) = some 4 := by kernel_rfl
theorem Try.size49 : (Try.prog.info? 49).map (·.size) = some 3 := by kernel_rfl
theorem Try.und45 : Try.prog.underlying 45 = some (.slice 5) := by kernel_rfl
theorem Try.und50 : Try.prog.underlying 50 = some (.slice 27) := by kernel_rfl
theorem neq42 (w : World) : (binOp .neq 42 (.agg #[.bool false, .int .i64 0]) (.agg #[.bool false, .int .i64 0])).run Try.prog w = .ok (.bool false) w := by kernel_rfl
theorem neq44 (w : World) : (binOp .neq 44 (.agg #[.int .i64 0, .int .i64 0, .int .i64 0, .int .i64 0]) (.agg #[.int .i64 0, .int .i64 0, .int .i64 0, .int .i64 0])).run Try.prog w = .ok (.bool false) w := by kernel_rfl

set_option maxRecDepth 100000 in
set_option maxHeartbeats 4000000 in
theorem same_any (m : Mg) (w : World) : Calls Try.prog 17 #[.agg m.cells, .agg m.cells] w (fun e w' => e = .returned (.bool true) ∧ Kept No w w') := by
  obtain ⟨w1, hw1⟩ : ∃ w1, w1 = (w.alloc (.cells m.cells 52)).alloc (.cells m.cells 52) := ⟨_, rfl⟩
  obtain ⟨N, hN⟩ : ∃ N, N = w.heap.size := ⟨_, rfl⟩
  have hal := al2 w m.cells 52 m.cells 52
  rw [← hw1, ← hN] at hal
  obtain ⟨hk1, hb0, hb1, -⟩ := hal
  have HK : Hid (Kept No w w1) := hk1
  have HA : Hid (Box w1 N 52 m.cells) := hb0
  have HB : Hid (Box w1 (N + 1) 52 m.cells) := hb1
  clear hk1 hb0 hb1
  go_enter Try.func17, Try.ntmps17
  go_upto_region 1 with (first
    | (refine wp_boxV rfl 52 _ rfl m.cells rfl w.heap.size rfl ?_)
    | (refine wp_boxV rfl 52 _ rfl m.cells rfl (w.heap.size + 1) (by simp) ?_))
  rw [← hw1, ← hN]
  clear hw1 hN
  refine WL.start ?_
  refine wp_takeW (o := { dst := some 5, op := Op.fieldAddr 52 (Operand.tmp 2) 0, type := 0, pos := "law.go:62", after := #[], guard := none }) (.pointer (some ⟨N, 0, none⟩)) (by kernel_rfl) (by kernel_rfl) ?_
  try simp only [Act.put, List.setIfInBounds_toArray, List.set_cons_zero, List.set_cons_succ]
  refine wp_takeW (o := { dst := some 6, op := Op.load 3 (Operand.tmp 5), type := 3, pos := "law.go:62", after := #[{ on := 0, ground := Ground.data }], guard := none }) (.int .i64 m.k) (exec_load 3 _ rfl ⟨N, 0, none⟩ (by kernel_rfl) (.int .i64 m.k) (load_N (HA.out.cell 0))) (by kernel_rfl) ?_
  try simp only [Act.put, List.setIfInBounds_toArray, List.set_cons_zero, List.set_cons_succ]
  refine wp_takeW (o := { dst := some 7, op := Op.fieldAddr 52 (Operand.tmp 3) 0, type := 0, pos := "law.go:62", after := #[], guard := none }) (.pointer (some ⟨N + 1, 0, none⟩)) (by kernel_rfl) (by kernel_rfl) ?_
  try simp only [Act.put, List.setIfInBounds_toArray, List.set_cons_zero, List.set_cons_succ]
  refine wp_takeW (o := { dst := some 8, op := Op.load 3 (Operand.tmp 7), type := 3, pos := "law.go:62", after := #[{ on := 2, ground := Ground.data }], guard := none }) (.int .i64 m.k) (exec_load 3 _ rfl ⟨N + 1, 0, none⟩ (by kernel_rfl) (.int .i64 m.k) (load_N (HB.out.cell 0))) (by kernel_rfl) ?_
  try simp only [Act.put, List.setIfInBounds_toArray, List.set_cons_zero, List.set_cons_succ]
  refine wp_takeW (o := { dst := some 9, op := Op.binOp BinOp.neq 3 (Operand.tmp 6) (Operand.tmp 8) 3, type := 4, pos := "law.go:62", after := #[{ on := 1, ground := Ground.data }, { on := 3, ground := Ground.data }], guard := none }) (.bool false) (exec_bin .neq 3 _ _ _ rfl (.int .i64 m.k) (.int .i64 m.k) (.bool false) (by kernel_rfl) (by kernel_rfl) (by kernel_rfl) (by rw [neqN, beq_self_eq_true]; rfl)) (by kernel_rfl) ?_
  try simp only [Act.put, List.setIfInBounds_toArray, List.set_cons_zero, List.set_cons_succ]
  refine wp_takeW (o := { dst := some 10, op := Op.move (Operand.tmp 9), type := 4, pos := "law.go:62", after := #[{ on := 4, ground := Ground.data }], guard := none }) (.bool false) (by kernel_rfl) (by kernel_rfl) ?_
  try simp only [Act.put, List.setIfInBounds_toArray, List.set_cons_zero, List.set_cons_succ]
  refine wp_takeW (o := { dst := some 11, op := Op.fieldAddr 52 (Operand.tmp 2) 1, type := 0, pos := "law.go:62", after := #[{ on := 5, ground := Ground.guard }], guard := some (5, false) }) (.pointer (some ⟨N, 1, none⟩)) (by kernel_rfl) (by kernel_rfl) ?_
  try simp only [Act.put, List.setIfInBounds_toArray, List.set_cons_zero, List.set_cons_succ]
  refine wp_takeW (o := { dst := some 12, op := Op.load 42 (Operand.tmp 11), type := 42, pos := "law.go:62", after := #[{ on := 6, ground := Ground.data }, { on := 5, ground := Ground.guard }], guard := some (5, false) }) (.agg #[.bool false, .int .i64 0]) (exec_load 42 _ rfl ⟨N, 1, none⟩ (by kernel_rfl) (.agg #[.bool false, .int .i64 0]) (run_load_part HA.out m.partFrom Try.und42 rfl Try.size42)) (by kernel_rfl) ?_
  try simp only [Act.put, List.setIfInBounds_toArray, List.set_cons_zero, List.set_cons_succ]
  refine wp_takeW (o := { dst := some 13, op := Op.fieldAddr 52 (Operand.tmp 3) 1, type := 0, pos := "law.go:62", after := #[{ on := 5, ground := Ground.guard }], guard := some (5, false) }) (.pointer (some ⟨N + 1, 1, none⟩)) (by kernel_rfl) (by kernel_rfl) ?_
  try simp only [Act.put, List.setIfInBounds_toArray, List.set_cons_zero, List.set_cons_succ]
  refine wp_takeW (o := { dst := some 14, op := Op.load 42 (Operand.tmp 13), type := 42, pos := "law.go:62", after := #[{ on := 8, ground := Ground.data }, { on := 5, ground := Ground.guard }], guard := some (5, false) }) (.agg #[.bool false, .int .i64 0]) (exec_load 42 _ rfl ⟨N + 1, 1, none⟩ (by kernel_rfl) (.agg #[.bool false, .int .i64 0]) (run_load_part HB.out m.partFrom Try.und42 rfl Try.size42)) (by kernel_rfl) ?_
  try simp only [Act.put, List.setIfInBounds_toArray, List.set_cons_zero, List.set_cons_succ]
  refine wp_takeW (o := { dst := some 15, op := Op.binOp BinOp.neq 42 (Operand.tmp 12) (Operand.tmp 14) 42, type := 4, pos := "law.go:62", after := #[{ on := 7, ground := Ground.data }, { on := 9, ground := Ground.data }, { on := 5, ground := Ground.guard }], guard := some (5, false) }) (.bool false) (exec_bin .neq 42 _ _ _ rfl (.agg #[.bool false, .int .i64 0]) (.agg #[.bool false, .int .i64 0]) (.bool false) (by kernel_rfl) (by kernel_rfl) (by kernel_rfl) (neq42 _)) (by kernel_rfl) ?_
  try simp only [Act.put, List.setIfInBounds_toArray, List.set_cons_zero, List.set_cons_succ]
  refine wp_takeW (o := { dst := some 16, op := Op.pick (Operand.tmp 10) (Operand.const (Value.bool true)) (Operand.tmp 15), type := 4, pos := "law.go:62", after := #[{ on := 5, ground := Ground.data }, { on := 10, ground := Ground.data }], guard := none }) (.bool false) (by kernel_rfl) (by kernel_rfl) ?_
  try simp only [Act.put, List.setIfInBounds_toArray, List.set_cons_zero, List.set_cons_succ]
  refine wp_takeW (o := { dst := some 17, op := Op.move (Operand.tmp 16), type := 4, pos := "law.go:62", after := #[{ on := 11, ground := Ground.data }, { on := 5, ground := Ground.chain }], guard := none }) (.bool false) (by kernel_rfl) (by kernel_rfl) ?_
  try simp only [Act.put, List.setIfInBounds_toArray, List.set_cons_zero, List.set_cons_succ]
  refine wp_takeW (o := { dst := some 18, op := Op.fieldAddr 52 (Operand.tmp 2) 2, type := 0, pos := "law.go:62", after := #[{ on := 12, ground := Ground.guard }], guard := some (12, false) }) (.pointer (some ⟨N, 3, none⟩)) (by kernel_rfl) (by kernel_rfl) ?_
  try simp only [Act.put, List.setIfInBounds_toArray, List.set_cons_zero, List.set_cons_succ]
  refine wp_takeW (o := { dst := some 19, op := Op.load 42 (Operand.tmp 18), type := 42, pos := "law.go:62", after := #[{ on := 13, ground := Ground.data }, { on := 12, ground := Ground.guard }], guard := some (12, false) }) (.agg #[.bool false, .int .i64 0]) (exec_load 42 _ rfl ⟨N, 3, none⟩ (by kernel_rfl) (.agg #[.bool false, .int .i64 0]) (run_load_part HA.out m.partTo Try.und42 rfl Try.size42)) (by kernel_rfl) ?_
  try simp only [Act.put, List.setIfInBounds_toArray, List.set_cons_zero, List.set_cons_succ]
  refine wp_takeW (o := { dst := some 20, op := Op.fieldAddr 52 (Operand.tmp 3) 2, type := 0, pos := "law.go:62", after := #[{ on := 12, ground := Ground.guard }], guard := some (12, false) }) (.pointer (some ⟨N + 1, 3, none⟩)) (by kernel_rfl) (by kernel_rfl) ?_
  try simp only [Act.put, List.setIfInBounds_toArray, List.set_cons_zero, List.set_cons_succ]
  refine wp_takeW (o := { dst := some 21, op := Op.load 42 (Operand.tmp 20), type := 42, pos := "law.go:62", after := #[{ on := 15, ground := Ground.data }, { on := 12, ground := Ground.guard }], guard := some (12, false) }) (.agg #[.bool false, .int .i64 0]) (exec_load 42 _ rfl ⟨N + 1, 3, none⟩ (by kernel_rfl) (.agg #[.bool false, .int .i64 0]) (run_load_part HB.out m.partTo Try.und42 rfl Try.size42)) (by kernel_rfl) ?_
  try simp only [Act.put, List.setIfInBounds_toArray, List.set_cons_zero, List.set_cons_succ]
  refine wp_takeW (o := { dst := some 22, op := Op.binOp BinOp.neq 42 (Operand.tmp 19) (Operand.tmp 21) 42, type := 4, pos := "law.go:62", after := #[{ on := 14, ground := Ground.data }, { on := 16, ground := Ground.data }, { on := 12, ground := Ground.guard }], guard := some (12, false) }) (.bool false) (exec_bin .neq 42 _ _ _ rfl (.agg #[.bool false, .int .i64 0]) (.agg #[.bool false, .int .i64 0]) (.bool false) (by kernel_rfl) (by kernel_rfl) (by kernel_rfl) (neq42 _)) (by kernel_rfl) ?_
  try simp only [Act.put, List.setIfInBounds_toArray, List.set_cons_zero, List.set_cons_succ]
  refine wp_takeW (o := { dst := some 23, op := Op.pick (Operand.tmp 17) (Operand.const (Value.bool true)) (Operand.tmp 22), type := 4, pos := "law.go:62", after := #[{ on := 12, ground := Ground.data }, { on := 17, ground := Ground.data }], guard := none }) (.bool false) (by kernel_rfl) (by kernel_rfl) ?_
  try simp only [Act.put, List.setIfInBounds_toArray, List.set_cons_zero, List.set_cons_succ]
  refine wp_takeW (o := { dst := some 24, op := Op.move (Operand.tmp 23), type := 4, pos := "law.go:62", after := #[{ on := 18, ground := Ground.data }, { on := 12, ground := Ground.chain }], guard := none }) (.bool false) (by kernel_rfl) (by kernel_rfl) ?_
  try simp only [Act.put, List.setIfInBounds_toArray, List.set_cons_zero, List.set_cons_succ]
  refine wp_takeW (o := { dst := some 25, op := Op.fieldAddr 52 (Operand.tmp 2) 3, type := 0, pos := "law.go:62", after := #[{ on := 19, ground := Ground.guard }], guard := some (19, false) }) (.pointer (some ⟨N, 5, none⟩)) (by kernel_rfl) (by kernel_rfl) ?_
  try simp only [Act.put, List.setIfInBounds_toArray, List.set_cons_zero, List.set_cons_succ]
  refine wp_takeW (o := { dst := some 26, op := Op.load 3 (Operand.tmp 25), type := 3, pos := "law.go:62", after := #[{ on := 20, ground := Ground.data }, { on := 19, ground := Ground.guard }], guard := some (19, false) }) (.int .i64 0) (exec_load 3 _ rfl ⟨N, 5, none⟩ (by kernel_rfl) (.int .i64 0) (load_N (HA.out.cell 5))) (by kernel_rfl) ?_
  try simp only [Act.put, List.setIfInBounds_toArray, List.set_cons_zero, List.set_cons_succ]
  refine wp_takeW (o := { dst := some 27, op := Op.fieldAddr 52 (Operand.tmp 3) 3, type := 0, pos := "law.go:62", after := #[{ on := 19, ground := Ground.guard }], guard := some (19, false) }) (.pointer (some ⟨N + 1, 5, none⟩)) (by kernel_rfl) (by kernel_rfl) ?_
  try simp only [Act.put, List.setIfInBounds_toArray, List.set_cons_zero, List.set_cons_succ]
  refine wp_takeW (o := { dst := some 28, op := Op.load 3 (Operand.tmp 27), type := 3, pos := "law.go:62", after := #[{ on := 22, ground := Ground.data }, { on := 19, ground := Ground.guard }], guard := some (19, false) }) (.int .i64 0) (exec_load 3 _ rfl ⟨N + 1, 5, none⟩ (by kernel_rfl) (.int .i64 0) (load_N (HB.out.cell 5))) (by kernel_rfl) ?_
  try simp only [Act.put, List.setIfInBounds_toArray, List.set_cons_zero, List.set_cons_succ]
  refine wp_takeW (o := { dst := some 29, op := Op.binOp BinOp.neq 3 (Operand.tmp 26) (Operand.tmp 28) 3, type := 4, pos := "law.go:62", after := #[{ on := 21, ground := Ground.data }, { on := 23, ground := Ground.data }, { on := 19, ground := Ground.guard }], guard := some (19, false) }) (.bool false) (exec_bin .neq 3 _ _ _ rfl (.int .i64 0) (.int .i64 0) (.bool false) (by kernel_rfl) (by kernel_rfl) (by kernel_rfl) (by rw [neqN, beq_self_eq_true]; rfl)) (by kernel_rfl) ?_
  try simp only [Act.put, List.setIfInBounds_toArray, List.set_cons_zero, List.set_cons_succ]
  refine wp_takeW (o := { dst := some 30, op := Op.pick (Operand.tmp 24) (Operand.const (Value.bool true)) (Operand.tmp 29), type := 4, pos := "law.go:62", after := #[{ on := 19, ground := Ground.data }, { on := 24, ground := Ground.data }], guard := none }) (.bool false) (by kernel_rfl) (by kernel_rfl) ?_
  try simp only [Act.put, List.setIfInBounds_toArray, List.set_cons_zero, List.set_cons_succ]
  refine wp_takeW (o := { dst := some 31, op := Op.move (Operand.tmp 30), type := 4, pos := "law.go:62", after := #[{ on := 25, ground := Ground.data }, { on := 19, ground := Ground.chain }], guard := none }) (.bool false) (by kernel_rfl) (by kernel_rfl) ?_
  try simp only [Act.put, List.setIfInBounds_toArray, List.set_cons_zero, List.set_cons_succ]
  refine wp_takeW (o := { dst := some 32, op := Op.fieldAddr 52 (Operand.tmp 2) 4, type := 0, pos := "law.go:62", after := #[{ on := 26, ground := Ground.guard }], guard := some (26, false) }) (.pointer (some ⟨N, 6, none⟩)) (by kernel_rfl) (by kernel_rfl) ?_
  try simp only [Act.put, List.setIfInBounds_toArray, List.set_cons_zero, List.set_cons_succ]
  refine wp_takeW (o := { dst := some 33, op := Op.load 3 (Operand.tmp 32), type := 3, pos := "law.go:62", after := #[{ on := 27, ground := Ground.data }, { on := 26, ground := Ground.guard }], guard := some (26, false) }) (.int .i64 0) (exec_load 3 _ rfl ⟨N, 6, none⟩ (by kernel_rfl) (.int .i64 0) (load_N (HA.out.cell 6))) (by kernel_rfl) ?_
  try simp only [Act.put, List.setIfInBounds_toArray, List.set_cons_zero, List.set_cons_succ]
  refine wp_takeW (o := { dst := some 34, op := Op.fieldAddr 52 (Operand.tmp 3) 4, type := 0, pos := "law.go:62", after := #[{ on := 26, ground := Ground.guard }], guard := some (26, false) }) (.pointer (some ⟨N + 1, 6, none⟩)) (by kernel_rfl) (by kernel_rfl) ?_
  try simp only [Act.put, List.setIfInBounds_toArray, List.set_cons_zero, List.set_cons_succ]
  refine wp_takeW (o := { dst := some 35, op := Op.load 3 (Operand.tmp 34), type := 3, pos := "law.go:62", after := #[{ on := 29, ground := Ground.data }, { on := 26, ground := Ground.guard }], guard := some (26, false) }) (.int .i64 0) (exec_load 3 _ rfl ⟨N + 1, 6, none⟩ (by kernel_rfl) (.int .i64 0) (load_N (HB.out.cell 6))) (by kernel_rfl) ?_
  try simp only [Act.put, List.setIfInBounds_toArray, List.set_cons_zero, List.set_cons_succ]
  refine wp_takeW (o := { dst := some 36, op := Op.binOp BinOp.neq 3 (Operand.tmp 33) (Operand.tmp 35) 3, type := 4, pos := "law.go:62", after := #[{ on := 28, ground := Ground.data }, { on := 30, ground := Ground.data }, { on := 26, ground := Ground.guard }], guard := some (26, false) }) (.bool false) (exec_bin .neq 3 _ _ _ rfl (.int .i64 0) (.int .i64 0) (.bool false) (by kernel_rfl) (by kernel_rfl) (by kernel_rfl) (by rw [neqN, beq_self_eq_true]; rfl)) (by kernel_rfl) ?_
  try simp only [Act.put, List.setIfInBounds_toArray, List.set_cons_zero, List.set_cons_succ]
  refine wp_takeW (o := { dst := some 37, op := Op.pick (Operand.tmp 31) (Operand.const (Value.bool true)) (Operand.tmp 36), type := 4, pos := "law.go:62", after := #[{ on := 26, ground := Ground.data }, { on := 31, ground := Ground.data }], guard := none }) (.bool false) (by kernel_rfl) (by kernel_rfl) ?_
  try simp only [Act.put, List.setIfInBounds_toArray, List.set_cons_zero, List.set_cons_succ]
  refine wp_takeW (o := { dst := some 38, op := Op.move (Operand.tmp 37), type := 4, pos := "law.go:62", after := #[{ on := 32, ground := Ground.data }, { on := 26, ground := Ground.chain }], guard := none }) (.bool false) (by kernel_rfl) (by kernel_rfl) ?_
  try simp only [Act.put, List.setIfInBounds_toArray, List.set_cons_zero, List.set_cons_succ]
  refine wp_takeW (o := { dst := some 39, op := Op.fieldAddr 52 (Operand.tmp 2) 5, type := 0, pos := "law.go:62", after := #[{ on := 33, ground := Ground.guard }], guard := some (33, false) }) (.pointer (some ⟨N, 7, none⟩)) (by kernel_rfl) (by kernel_rfl) ?_
  try simp only [Act.put, List.setIfInBounds_toArray, List.set_cons_zero, List.set_cons_succ]
  refine wp_takeW (o := { dst := some 40, op := Op.load 44 (Operand.tmp 39), type := 44, pos := "law.go:62", after := #[{ on := 34, ground := Ground.data }, { on := 33, ground := Ground.guard }], guard := some (33, false) }) (.agg #[.int .i64 0, .int .i64 0, .int .i64 0, .int .i64 0]) (exec_load 44 _ rfl ⟨N, 7, none⟩ (by kernel_rfl) (.agg #[.int .i64 0, .int .i64 0, .int .i64 0, .int .i64 0]) (run_load_part HA.out m.partKey Try.und44 rfl Try.size44)) (by kernel_rfl) ?_
  try simp only [Act.put, List.setIfInBounds_toArray, List.set_cons_zero, List.set_cons_succ]
  refine wp_takeW (o := { dst := some 41, op := Op.fieldAddr 52 (Operand.tmp 3) 5, type := 0, pos := "law.go:62", after := #[{ on := 33, ground := Ground.guard }], guard := some (33, false) }) (.pointer (some ⟨N + 1, 7, none⟩)) (by kernel_rfl) (by kernel_rfl) ?_
  try simp only [Act.put, List.setIfInBounds_toArray, List.set_cons_zero, List.set_cons_succ]
  refine wp_takeW (o := { dst := some 42, op := Op.load 44 (Operand.tmp 41), type := 44, pos := "law.go:62", after := #[{ on := 36, ground := Ground.data }, { on := 33, ground := Ground.guard }], guard := some (33, false) }) (.agg #[.int .i64 0, .int .i64 0, .int .i64 0, .int .i64 0]) (exec_load 44 _ rfl ⟨N + 1, 7, none⟩ (by kernel_rfl) (.agg #[.int .i64 0, .int .i64 0, .int .i64 0, .int .i64 0]) (run_load_part HB.out m.partKey Try.und44 rfl Try.size44)) (by kernel_rfl) ?_
  try simp only [Act.put, List.setIfInBounds_toArray, List.set_cons_zero, List.set_cons_succ]
  refine wp_takeW (o := { dst := some 43, op := Op.binOp BinOp.neq 44 (Operand.tmp 40) (Operand.tmp 42) 44, type := 4, pos := "law.go:62", after := #[{ on := 35, ground := Ground.data }, { on := 37, ground := Ground.data }, { on := 33, ground := Ground.guard }], guard := some (33, false) }) (.bool false) (exec_bin .neq 44 _ _ _ rfl (.agg #[.int .i64 0, .int .i64 0, .int .i64 0, .int .i64 0]) (.agg #[.int .i64 0, .int .i64 0, .int .i64 0, .int .i64 0]) (.bool false) (by kernel_rfl) (by kernel_rfl) (by kernel_rfl) (neq44 _)) (by kernel_rfl) ?_
  try simp only [Act.put, List.setIfInBounds_toArray, List.set_cons_zero, List.set_cons_succ]
  refine wp_takeW (o := { dst := some 44, op := Op.pick (Operand.tmp 38) (Operand.const (Value.bool true)) (Operand.tmp 43), type := 4, pos := "law.go:62", after := #[{ on := 33, ground := Ground.data }, { on := 38, ground := Ground.data }], guard := none }) (.bool false) (by kernel_rfl) (by kernel_rfl) ?_
  try simp only [Act.put, List.setIfInBounds_toArray, List.set_cons_zero, List.set_cons_succ]
  refine wp_takeW (o := { dst := some 45, op := Op.move (Operand.tmp 44), type := 4, pos := "law.go:62", after := #[{ on := 39, ground := Ground.data }, { on := 33, ground := Ground.chain }], guard := none }) (.bool false) (by kernel_rfl) (by kernel_rfl) ?_
  try simp only [Act.put, List.setIfInBounds_toArray, List.set_cons_zero, List.set_cons_succ]
  refine wp_takeW (o := { dst := some 46, op := Op.fieldAddr 52 (Operand.tmp 2) 6, type := 0, pos := "law.go:62", after := #[{ on := 40, ground := Ground.guard }], guard := some (40, false) }) (.pointer (some ⟨N, 11, none⟩)) (by kernel_rfl) (by kernel_rfl) ?_
  try simp only [Act.put, List.setIfInBounds_toArray, List.set_cons_zero, List.set_cons_succ]
  refine wp_takeW (o := { dst := some 47, op := Op.load 23 (Operand.tmp 46), type := 23, pos := "law.go:62", after := #[{ on := 41, ground := Ground.data }, { on := 40, ground := Ground.guard }], guard := some (40, false) }) (.agg #[.int .i64 m.s.n, .int .i64 m.s.c]) (exec_load 23 _ rfl ⟨N, 11, none⟩ (by kernel_rfl) (.agg #[.int .i64 m.s.n, .int .i64 m.s.c]) (load_S HA.out m.partS)) (by kernel_rfl) ?_
  try simp only [Act.put, List.setIfInBounds_toArray, List.set_cons_zero, List.set_cons_succ]
  refine wp_takeW (o := { dst := some 48, op := Op.fieldAddr 52 (Operand.tmp 3) 6, type := 0, pos := "law.go:62", after := #[{ on := 40, ground := Ground.guard }], guard := some (40, false) }) (.pointer (some ⟨N + 1, 11, none⟩)) (by kernel_rfl) (by kernel_rfl) ?_
  try simp only [Act.put, List.setIfInBounds_toArray, List.set_cons_zero, List.set_cons_succ]
  refine wp_takeW (o := { dst := some 49, op := Op.load 23 (Operand.tmp 48), type := 23, pos := "law.go:62", after := #[{ on := 43, ground := Ground.data }, { on := 40, ground := Ground.guard }], guard := some (40, false) }) (.agg #[.int .i64 m.s.n, .int .i64 m.s.c]) (exec_load 23 _ rfl ⟨N + 1, 11, none⟩ (by kernel_rfl) (.agg #[.int .i64 m.s.n, .int .i64 m.s.c]) (load_S HB.out m.partS)) (by kernel_rfl) ?_
  try simp only [Act.put, List.setIfInBounds_toArray, List.set_cons_zero, List.set_cons_succ]
  refine wp_takeW (o := { dst := some 50, op := Op.binOp BinOp.neq 23 (Operand.tmp 47) (Operand.tmp 49) 23, type := 4, pos := "law.go:62", after := #[{ on := 42, ground := Ground.data }, { on := 44, ground := Ground.data }, { on := 40, ground := Ground.guard }], guard := some (40, false) }) (.bool false) (exec_bin .neq 23 _ _ _ rfl (.agg #[.int .i64 m.s.n, .int .i64 m.s.c]) (.agg #[.int .i64 m.s.n, .int .i64 m.s.c]) (.bool false) (by kernel_rfl) (by kernel_rfl) (guard_S _ (.inr rfl) _ _ _ _ _) (by rw [neqS m.s m.s, eqS_refl]; rfl)) (by kernel_rfl) ?_
  try simp only [Act.put, List.setIfInBounds_toArray, List.set_cons_zero, List.set_cons_succ]
  refine wp_takeW (o := { dst := some 51, op := Op.pick (Operand.tmp 45) (Operand.const (Value.bool true)) (Operand.tmp 50), type := 4, pos := "law.go:62", after := #[{ on := 40, ground := Ground.data }, { on := 45, ground := Ground.data }], guard := none }) (.bool false) (by kernel_rfl) (by kernel_rfl) ?_
  try simp only [Act.put, List.setIfInBounds_toArray, List.set_cons_zero, List.set_cons_succ]
  refine wp_takeW (o := { dst := some 52, op := Op.move (Operand.tmp 51), type := 4, pos := "law.go:62", after := #[{ on := 46, ground := Ground.data }, { on := 40, ground := Ground.chain }], guard := none }) (.bool false) (by kernel_rfl) (by kernel_rfl) ?_
  try simp only [Act.put, List.setIfInBounds_toArray, List.set_cons_zero, List.set_cons_succ]
  refine wp_takeW (o := { dst := some 53, op := Op.fieldAddr 52 (Operand.tmp 2) 7, type := 0, pos := "law.go:62", after := #[{ on := 47, ground := Ground.guard }], guard := some (47, false) }) (.pointer (some ⟨N, 13, none⟩)) (by kernel_rfl) (by kernel_rfl) ?_
  try simp only [Act.put, List.setIfInBounds_toArray, List.set_cons_zero, List.set_cons_succ]
  refine wp_takeW (o := { dst := some 54, op := Op.load 23 (Operand.tmp 53), type := 23, pos := "law.go:62", after := #[{ on := 48, ground := Ground.data }, { on := 47, ground := Ground.guard }], guard := some (47, false) }) (.agg #[.int .i64 m.h.n, .int .i64 m.h.c]) (exec_load 23 _ rfl ⟨N, 13, none⟩ (by kernel_rfl) (.agg #[.int .i64 m.h.n, .int .i64 m.h.c]) (load_S HA.out m.partH)) (by kernel_rfl) ?_
  try simp only [Act.put, List.setIfInBounds_toArray, List.set_cons_zero, List.set_cons_succ]
  refine wp_takeW (o := { dst := some 55, op := Op.fieldAddr 52 (Operand.tmp 3) 7, type := 0, pos := "law.go:62", after := #[{ on := 47, ground := Ground.guard }], guard := some (47, false) }) (.pointer (some ⟨N + 1, 13, none⟩)) (by kernel_rfl) (by kernel_rfl) ?_
  try simp only [Act.put, List.setIfInBounds_toArray, List.set_cons_zero, List.set_cons_succ]
  refine wp_takeW (o := { dst := some 56, op := Op.load 23 (Operand.tmp 55), type := 23, pos := "law.go:62", after := #[{ on := 50, ground := Ground.data }, { on := 47, ground := Ground.guard }], guard := some (47, false) }) (.agg #[.int .i64 m.h.n, .int .i64 m.h.c]) (exec_load 23 _ rfl ⟨N + 1, 13, none⟩ (by kernel_rfl) (.agg #[.int .i64 m.h.n, .int .i64 m.h.c]) (load_S HB.out m.partH)) (by kernel_rfl) ?_
  try simp only [Act.put, List.setIfInBounds_toArray, List.set_cons_zero, List.set_cons_succ]
  refine wp_takeW (o := { dst := some 57, op := Op.binOp BinOp.neq 23 (Operand.tmp 54) (Operand.tmp 56) 23, type := 4, pos := "law.go:62", after := #[{ on := 49, ground := Ground.data }, { on := 51, ground := Ground.data }, { on := 47, ground := Ground.guard }], guard := some (47, false) }) (.bool false) (exec_bin .neq 23 _ _ _ rfl (.agg #[.int .i64 m.h.n, .int .i64 m.h.c]) (.agg #[.int .i64 m.h.n, .int .i64 m.h.c]) (.bool false) (by kernel_rfl) (by kernel_rfl) (guard_S _ (.inr rfl) _ _ _ _ _) (by rw [neqS m.h m.h, eqS_refl]; rfl)) (by kernel_rfl) ?_
  try simp only [Act.put, List.setIfInBounds_toArray, List.set_cons_zero, List.set_cons_succ]
  refine wp_takeW (o := { dst := some 58, op := Op.pick (Operand.tmp 52) (Operand.const (Value.bool true)) (Operand.tmp 57), type := 4, pos := "law.go:62", after := #[{ on := 47, ground := Ground.data }, { on := 52, ground := Ground.data }], guard := none }) (.bool false) (by kernel_rfl) (by kernel_rfl) ?_
  try simp only [Act.put, List.setIfInBounds_toArray, List.set_cons_zero, List.set_cons_succ]
  refine WL.nil ?_
  try simp only [Act.put, List.setIfInBounds_toArray, List.set_cons_zero, List.set_cons_succ]
  go_upto_region 3 with fail
  refine WL.start ?_
  refine wp_takeW (o := { dst := some 59, op := Op.fieldAddr 52 (Operand.tmp 2) 9, type := 0, pos := "law.go:65", after := #[], guard := none }) (.pointer (some ⟨N, 16, none⟩)) (by kernel_rfl) (by kernel_rfl) ?_
  try simp only [Act.put, List.setIfInBounds_toArray, List.set_cons_zero, List.set_cons_succ]
  refine wp_takeW (o := { dst := some 60, op := Op.load 27 (Operand.tmp 59), type := 27, pos := "law.go:65", after := #[{ on := 0, ground := Ground.data }], guard := none }) (.agg m.c.cells) (exec_load 27 _ rfl ⟨N, 16, none⟩ (by kernel_rfl) (.agg m.c.cells) (load_MC HA.out)) (by kernel_rfl) ?_
  try simp only [Act.put, List.setIfInBounds_toArray, List.set_cons_zero, List.set_cons_succ]
  refine wp_takeW (o := { dst := some 61, op := Op.fieldAddr 52 (Operand.tmp 3) 9, type := 0, pos := "law.go:65", after := #[], guard := none }) (.pointer (some ⟨N + 1, 16, none⟩)) (by kernel_rfl) (by kernel_rfl) ?_
  try simp only [Act.put, List.setIfInBounds_toArray, List.set_cons_zero, List.set_cons_succ]
  refine wp_takeW (o := { dst := some 62, op := Op.load 27 (Operand.tmp 61), type := 27, pos := "law.go:65", after := #[{ on := 2, ground := Ground.data }], guard := none }) (.agg m.c.cells) (exec_load 27 _ rfl ⟨N + 1, 16, none⟩ (by kernel_rfl) (.agg m.c.cells) (load_MC HB.out)) (by kernel_rfl) ?_
  try simp only [Act.put, List.setIfInBounds_toArray, List.set_cons_zero, List.set_cons_succ]
  refine wp_takeW (o := { dst := some 63, op := Op.binOp BinOp.eql 27 (Operand.tmp 60) (Operand.tmp 62) 27, type := 4, pos := "law.go:65", after := #[{ on := 1, ground := Ground.data }, { on := 3, ground := Ground.data }], guard := none }) (.bool true) (exec_bin .eql 27 _ _ _ rfl (.agg m.c.cells) (.agg m.c.cells) (.bool true) (by kernel_rfl) (by kernel_rfl) (guard_C _ (.inl rfl) _ _ _ _ _) (by rw [eqlC, eqC_refl])) (by kernel_rfl) ?_
  try simp only [Act.put, List.setIfInBounds_toArray, List.set_cons_zero, List.set_cons_succ]
  refine wp_takeW (o := { dst := some 64, op := Op.move (Operand.tmp 63), type := 4, pos := "law.go:65", after := #[{ on := 4, ground := Ground.data }], guard := none }) (.bool true) (by kernel_rfl) (by kernel_rfl) ?_
  try simp only [Act.put, List.setIfInBounds_toArray, List.set_cons_zero, List.set_cons_succ]
  refine wp_takeW (o := { dst := some 65, op := Op.fieldAddr 52 (Operand.tmp 2) 12, type := 0, pos := "law.go:65", after := #[{ on := 5, ground := Ground.guard }], guard := some (5, true) }) (.pointer (some ⟨N, 29, none⟩)) (by kernel_rfl) (by kernel_rfl) ?_
  try simp only [Act.put, List.setIfInBounds_toArray, List.set_cons_zero, List.set_cons_succ]
  refine wp_takeW (o := { dst := some 66, op := Op.load 4 (Operand.tmp 65), type := 4, pos := "law.go:65", after := #[{ on := 6, ground := Ground.data }, { on := 5, ground := Ground.guard }], guard := some (5, true) }) (.bool false) (exec_load 4 _ rfl ⟨N, 29, none⟩ (by kernel_rfl) (.bool false) (load_B (HA.out.cell 29))) (by kernel_rfl) ?_
  try simp only [Act.put, List.setIfInBounds_toArray, List.set_cons_zero, List.set_cons_succ]
  refine wp_takeW (o := { dst := some 67, op := Op.fieldAddr 52 (Operand.tmp 3) 12, type := 0, pos := "law.go:65", after := #[{ on := 5, ground := Ground.guard }], guard := some (5, true) }) (.pointer (some ⟨N + 1, 29, none⟩)) (by kernel_rfl) (by kernel_rfl) ?_
  try simp only [Act.put, List.setIfInBounds_toArray, List.set_cons_zero, List.set_cons_succ]
  refine wp_takeW (o := { dst := some 68, op := Op.load 4 (Operand.tmp 67), type := 4, pos := "law.go:65", after := #[{ on := 8, ground := Ground.data }, { on := 5, ground := Ground.guard }], guard := some (5, true) }) (.bool false) (exec_load 4 _ rfl ⟨N + 1, 29, none⟩ (by kernel_rfl) (.bool false) (load_B (HB.out.cell 29))) (by kernel_rfl) ?_
  try simp only [Act.put, List.setIfInBounds_toArray, List.set_cons_zero, List.set_cons_succ]
  refine wp_takeW (o := { dst := some 69, op := Op.binOp BinOp.eql 4 (Operand.tmp 66) (Operand.tmp 68) 4, type := 4, pos := "law.go:65", after := #[{ on := 7, ground := Ground.data }, { on := 9, ground := Ground.data }, { on := 5, ground := Ground.guard }], guard := some (5, true) }) (.bool true) (exec_bin .eql 4 _ _ _ rfl (.bool false) (.bool false) (.bool true) (by kernel_rfl) (by kernel_rfl) (by kernel_rfl) (by kernel_rfl)) (by kernel_rfl) ?_
  try simp only [Act.put, List.setIfInBounds_toArray, List.set_cons_zero, List.set_cons_succ]
  refine wp_takeW (o := { dst := some 70, op := Op.pick (Operand.tmp 64) (Operand.tmp 69) (Operand.const (Value.bool false)), type := 4, pos := "law.go:65", after := #[{ on := 5, ground := Ground.data }, { on := 10, ground := Ground.data }], guard := none }) (.bool true) (by kernel_rfl) (by kernel_rfl) ?_
  try simp only [Act.put, List.setIfInBounds_toArray, List.set_cons_zero, List.set_cons_succ]
  refine wp_takeW (o := { dst := some 71, op := Op.move (Operand.tmp 70), type := 4, pos := "law.go:65", after := #[{ on := 11, ground := Ground.data }, { on := 5, ground := Ground.chain }], guard := none }) (.bool true) (by kernel_rfl) (by kernel_rfl) ?_
  try simp only [Act.put, List.setIfInBounds_toArray, List.set_cons_zero, List.set_cons_succ]
  refine wp_takeW (o := { dst := some 72, op := Op.fieldAddr 52 (Operand.tmp 2) 8, type := 0, pos := "law.go:65", after := #[{ on := 12, ground := Ground.guard }], guard := some (12, true) }) (.pointer (some ⟨N, 15, none⟩)) (by kernel_rfl) (by kernel_rfl) ?_
  try simp only [Act.put, List.setIfInBounds_toArray, List.set_cons_zero, List.set_cons_succ]
  refine wp_takeW (o := { dst := some 73, op := Op.load 45 (Operand.tmp 72), type := 45, pos := "law.go:65", after := #[{ on := 13, ground := Ground.data }, { on := 12, ground := Ground.guard }], guard := some (12, true) }) (.slice none 0 0) (exec_load 45 _ rfl ⟨N, 15, none⟩ (by kernel_rfl) (.slice none 0 0) (load_one (HA.out.cell 15) Try.und45 rfl)) (by kernel_rfl) ?_
  try simp only [Act.put, List.setIfInBounds_toArray, List.set_cons_zero, List.set_cons_succ]
  refine wp_takeW (o := { dst := some 74, op := Op.fieldAddr 52 (Operand.tmp 3) 8, type := 0, pos := "law.go:65", after := #[{ on := 12, ground := Ground.guard }], guard := some (12, true) }) (.pointer (some ⟨N + 1, 15, none⟩)) (by kernel_rfl) (by kernel_rfl) ?_
  try simp only [Act.put, List.setIfInBounds_toArray, List.set_cons_zero, List.set_cons_succ]
  refine wp_takeW (o := { dst := some 75, op := Op.load 45 (Operand.tmp 74), type := 45, pos := "law.go:65", after := #[{ on := 15, ground := Ground.data }, { on := 12, ground := Ground.guard }], guard := some (12, true) }) (.slice none 0 0) (exec_load 45 _ rfl ⟨N + 1, 15, none⟩ (by kernel_rfl) (.slice none 0 0) (load_one (HB.out.cell 15) Try.und45 rfl)) (by kernel_rfl) ?_
  try simp only [Act.put, List.setIfInBounds_toArray, List.set_cons_zero, List.set_cons_succ]
  refine wp_callW (o := { dst := some 76, op := Op.call { callee := Callee.value (Operand.func 33), args := #[Operand.tmp 73, Operand.tmp 75], argTypes := #[45, 45] }, type := 4, pos := "law.go:65", after := #[{ on := 14, ground := Ground.data }, { on := 16, ground := Ground.data }, { on := 12, ground := Ground.chain }, { on := 12, ground := Ground.guard }], guard := some (12, true) }) 33 #[.slice none 0 0, .slice none 0 0] (by kernel_rfl) _ (sameB0 _) (by kernel_rfl) ?_
  rintro e _ ⟨rfl, rfl⟩
  refine ⟨.bool true, rfl, ?_⟩
  try simp only [Act.put, List.setIfInBounds_toArray, List.set_cons_zero, List.set_cons_succ]
  refine wp_takeW (o := { dst := some 77, op := Op.pick (Operand.tmp 71) (Operand.tmp 76) (Operand.const (Value.bool false)), type := 4, pos := "law.go:65", after := #[{ on := 12, ground := Ground.data }, { on := 17, ground := Ground.data }], guard := none }) (.bool true) (by kernel_rfl) (by kernel_rfl) ?_
  try simp only [Act.put, List.setIfInBounds_toArray, List.set_cons_zero, List.set_cons_succ]
  refine wp_takeW (o := { dst := some 78, op := Op.move (Operand.tmp 77), type := 4, pos := "law.go:65", after := #[{ on := 18, ground := Ground.data }, { on := 17, ground := Ground.chain }], guard := none }) (.bool true) (by kernel_rfl) (by kernel_rfl) ?_
  try simp only [Act.put, List.setIfInBounds_toArray, List.set_cons_zero, List.set_cons_succ]
  refine wp_takeW (o := { dst := some 79, op := Op.fieldAddr 52 (Operand.tmp 2) 10, type := 0, pos := "law.go:65", after := #[{ on := 19, ground := Ground.guard }], guard := some (19, true) }) (.pointer (some ⟨N, 25, none⟩)) (by kernel_rfl) (by kernel_rfl) ?_
  try simp only [Act.put, List.setIfInBounds_toArray, List.set_cons_zero, List.set_cons_succ]
  refine wp_takeW (o := { dst := some 80, op := Op.load 49 (Operand.tmp 79), type := 49, pos := "law.go:65", after := #[{ on := 20, ground := Ground.data }, { on := 19, ground := Ground.guard }], guard := some (19, true) }) (.agg #[.int .i64 0, .slice none 0 0, .slice none 0 0]) (exec_load 49 _ rfl ⟨N, 25, none⟩ (by kernel_rfl) (.agg #[.int .i64 0, .slice none 0 0, .slice none 0 0]) (run_load_part HA.out m.partBkt Try.und49 rfl Try.size49)) (by kernel_rfl) ?_
  try simp only [Act.put, List.setIfInBounds_toArray, List.set_cons_zero, List.set_cons_succ]
  refine wp_takeW (o := { dst := some 81, op := Op.fieldAddr 52 (Operand.tmp 3) 10, type := 0, pos := "law.go:65", after := #[{ on := 19, ground := Ground.guard }], guard := some (19, true) }) (.pointer (some ⟨N + 1, 25, none⟩)) (by kernel_rfl) (by kernel_rfl) ?_
  try simp only [Act.put, List.setIfInBounds_toArray, List.set_cons_zero, List.set_cons_succ]
  refine wp_takeW (o := { dst := some 82, op := Op.load 49 (Operand.tmp 81), type := 49, pos := "law.go:65", after := #[{ on := 22, ground := Ground.data }, { on := 19, ground := Ground.guard }], guard := some (19, true) }) (.agg #[.int .i64 0, .slice none 0 0, .slice none 0 0]) (exec_load 49 _ rfl ⟨N + 1, 25, none⟩ (by kernel_rfl) (.agg #[.int .i64 0, .slice none 0 0, .slice none 0 0]) (run_load_part HB.out m.partBkt Try.und49 rfl Try.size49)) (by kernel_rfl) ?_
  try simp only [Act.put, List.setIfInBounds_toArray, List.set_cons_zero, List.set_cons_succ]
  refine wp_callW (o := { dst := some 83, op := Op.call { callee := Callee.value (Operand.func 34), args := #[Operand.tmp 80, Operand.tmp 82], argTypes := #[49, 49] }, type := 4, pos := "law.go:65", after := #[{ on := 21, ground := Ground.data }, { on := 23, ground := Ground.data }, { on := 19, ground := Ground.chain }, { on := 19, ground := Ground.guard }], guard := some (19, true) }) 34 #[.agg #[.int .i64 0, .slice none 0 0, .slice none 0 0], .agg #[.int .i64 0, .slice none 0 0, .slice none 0 0]] (by kernel_rfl) _ (sameK0 _) (by kernel_rfl) ?_
  rintro e wk2 ⟨rfl, hk⟩
  have HA : Hid (Box wk2 N 52 m.cells) := HA.out.kept hk (fun e => e)
  have HB : Hid (Box wk2 (N + 1) 52 m.cells) := HB.out.kept hk (fun e => e)
  have HK : Hid (Kept No w wk2) := HK.out.then hk
  clear hk
  refine ⟨.bool true, rfl, ?_⟩
  try simp only [Act.put, List.setIfInBounds_toArray, List.set_cons_zero, List.set_cons_succ]
  refine wp_takeW (o := { dst := some 84, op := Op.pick (Operand.tmp 78) (Operand.tmp 83) (Operand.const (Value.bool false)), type := 4, pos := "law.go:65", after := #[{ on := 19, ground := Ground.data }, { on := 24, ground := Ground.data }], guard := none }) (.bool true) (by kernel_rfl) (by kernel_rfl) ?_
  try simp only [Act.put, List.setIfInBounds_toArray, List.set_cons_zero, List.set_cons_succ]
  refine wp_takeW (o := { dst := some 85, op := Op.move (Operand.tmp 84), type := 4, pos := "law.go:65", after := #[{ on := 25, ground := Ground.data }, { on := 24, ground := Ground.chain }], guard := none }) (.bool true) (by kernel_rfl) (by kernel_rfl) ?_
  try simp only [Act.put, List.setIfInBounds_toArray, List.set_cons_zero, List.set_cons_succ]
  refine wp_takeW (o := { dst := some 86, op := Op.fieldAddr 52 (Operand.tmp 2) 11, type := 0, pos := "law.go:65", after := #[{ on := 26, ground := Ground.guard }], guard := some (26, true) }) (.pointer (some ⟨N, 28, none⟩)) (by kernel_rfl) (by kernel_rfl) ?_
  try simp only [Act.put, List.setIfInBounds_toArray, List.set_cons_zero, List.set_cons_succ]
  refine wp_takeW (o := { dst := some 87, op := Op.load 50 (Operand.tmp 86), type := 50, pos := "law.go:65", after := #[{ on := 27, ground := Ground.data }, { on := 26, ground := Ground.guard }], guard := some (26, true) }) (.slice none 0 0) (exec_load 50 _ rfl ⟨N, 28, none⟩ (by kernel_rfl) (.slice none 0 0) (load_one (HA.out.cell 28) Try.und50 rfl)) (by kernel_rfl) ?_
  try simp only [Act.put, List.setIfInBounds_toArray, List.set_cons_zero, List.set_cons_succ]
  refine wp_takeW (o := { dst := some 88, op := Op.fieldAddr 52 (Operand.tmp 3) 11, type := 0, pos := "law.go:65", after := #[{ on := 26, ground := Ground.guard }], guard := some (26, true) }) (.pointer (some ⟨N + 1, 28, none⟩)) (by kernel_rfl) (by kernel_rfl) ?_
  try simp only [Act.put, List.setIfInBounds_toArray, List.set_cons_zero, List.set_cons_succ]
  refine wp_takeW (o := { dst := some 89, op := Op.load 50 (Operand.tmp 88), type := 50, pos := "law.go:65", after := #[{ on := 29, ground := Ground.data }, { on := 26, ground := Ground.guard }], guard := some (26, true) }) (.slice none 0 0) (exec_load 50 _ rfl ⟨N + 1, 28, none⟩ (by kernel_rfl) (.slice none 0 0) (load_one (HB.out.cell 28) Try.und50 rfl)) (by kernel_rfl) ?_
  try simp only [Act.put, List.setIfInBounds_toArray, List.set_cons_zero, List.set_cons_succ]
  refine wp_callW (o := { dst := some 90, op := Op.call { callee := Callee.value (Operand.func 35), args := #[Operand.tmp 87, Operand.tmp 89], argTypes := #[50, 50] }, type := 4, pos := "law.go:65", after := #[{ on := 28, ground := Ground.data }, { on := 30, ground := Ground.data }, { on := 26, ground := Ground.chain }, { on := 26, ground := Ground.guard }], guard := some (26, true) }) 35 #[.slice none 0 0, .slice none 0 0] (by kernel_rfl) _ (sameC0 _) (by kernel_rfl) ?_
  rintro e _ ⟨rfl, rfl⟩
  refine ⟨.bool true, rfl, ?_⟩
  try simp only [Act.put, List.setIfInBounds_toArray, List.set_cons_zero, List.set_cons_succ]
  refine wp_takeW (o := { dst := some 91, op := Op.pick (Operand.tmp 85) (Operand.tmp 90) (Operand.const (Value.bool false)), type := 4, pos := "law.go:65", after := #[{ on := 26, ground := Ground.data }, { on := 31, ground := Ground.data }], guard := none }) (.bool true) (by kernel_rfl) (by kernel_rfl) ?_
  try simp only [Act.put, List.setIfInBounds_toArray, List.set_cons_zero, List.set_cons_succ]
  refine wp_takeW (o := { dst := some 4, op := Op.assign (Operand.tmp 91), type := 4, pos := "law.go:65", after := #[{ on := 32, ground := Ground.data }, { on := 31, ground := Ground.chain }, { on := 0, ground := Ground.phase }, { on := 1, ground := Ground.phase }, { on := 2, ground := Ground.phase }, { on := 3, ground := Ground.phase }, { on := 4, ground := Ground.phase }, { on := 5, ground := Ground.phase }, { on := 6, ground := Ground.phase }, { on := 7, ground := Ground.phase }, { on := 8, ground := Ground.phase }, { on := 9, ground := Ground.phase }, { on := 10, ground := Ground.phase }, { on := 11, ground := Ground.phase }, { on := 12, ground := Ground.phase }, { on := 13, ground := Ground.phase }, { on := 14, ground := Ground.phase }, { on := 15, ground := Ground.phase }, { on := 16, ground := Ground.phase }, { on := 17, ground := Ground.phase }, { on := 18, ground := Ground.phase }, { on := 19, ground := Ground.phase }, { on := 20, ground := Ground.phase }, { on := 21, ground := Ground.phase }, { on := 22, ground := Ground.phase }, { on := 23, ground := Ground.phase }, { on := 24, ground := Ground.phase }, { on := 25, ground := Ground.phase }, { on := 26, ground := Ground.phase }, { on := 27, ground := Ground.phase }, { on := 28, ground := Ground.phase }, { on := 29, ground := Ground.phase }, { on := 30, ground := Ground.phase }, { on := 31, ground := Ground.phase }, { on := 32, ground := Ground.phase }], guard := none }) (.bool true) (by kernel_rfl) (by kernel_rfl) ?_
  try simp only [Act.put, List.setIfInBounds_toArray, List.set_cons_zero, List.set_cons_succ]
  refine WL.nil ?_
  try simp only [Act.put, List.setIfInBounds_toArray, List.set_cons_zero, List.set_cons_succ]
  go_wp2
  go_ret
  exact ⟨rfl, HK.out⟩

end Go.Proofs.Ytapjnanenfcdjaa
