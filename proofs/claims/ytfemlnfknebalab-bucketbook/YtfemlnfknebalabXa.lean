import Derived.Test.YtfemlnfknebalabV
namespace Go.Proofs.Ytfemlnfknebalab
open Go.RowKit
set_option linter.unusedVariables false
set_option linter.unusedSimpArgs false
@[reducible] def opX0 : Oper := { dst := some 44, op := Op.fieldAddr 34 (Operand.tmp 4) 0, type := 0, pos := "ref.go:75", after := #[], guard := none }
@[reducible] def opX1 : Oper := { dst := some 45, op := Op.load 9 (Operand.tmp 44), type := 9, pos := "ref.go:75", after := #[{ on := 0, ground := Ground.data }], guard := none }
@[reducible] def opX2 : Oper := { dst := some 46, op := Op.call { callee := Callee.value (Operand.func 20), args := #[Operand.tmp 45], argTypes := #[9] }, type := 4, pos := "ref.go:75", after := #[{ on := 1, ground := Ground.data }], guard := none }
@[reducible] def opX3 : Oper := { dst := some 47, op := Op.unOp UnOp.not 4 (Operand.tmp 46), type := 4, pos := "ref.go:75", after := #[{ on := 2, ground := Ground.data }], guard := none }
@[reducible] def opX4 : Oper := { dst := some 48, op := Op.move (Operand.tmp 47), type := 4, pos := "ref.go:75", after := #[{ on := 3, ground := Ground.data }, { on := 2, ground := Ground.chain }], guard := none }
@[reducible] def opX5 : Oper := { dst := some 49, op := Op.move (Operand.tmp 3), type := 3, pos := "ref.go:75", after := #[{ on := 4, ground := Ground.guard }], guard := some (4, false) }
@[reducible] def opX6 : Oper := { dst := some 50, op := Op.binOp BinOp.gtr 3 (Operand.tmp 49) (Operand.const (Value.int IntKind.i64 0)) 3, type := 4, pos := "ref.go:75", after := #[{ on := 5, ground := Ground.data }, { on := 4, ground := Ground.guard }], guard := some (4, false) }
@[reducible] def opX7 : Oper := { dst := some 51, op := Op.move (Operand.tmp 50), type := 4, pos := "ref.go:75", after := #[{ on := 6, ground := Ground.data }, { on := 4, ground := Ground.chain }, { on := 4, ground := Ground.guard }], guard := some (4, false) }
@[reducible] def opX8 : Oper := { dst := some 52, op := Op.fieldAddr 26 (Operand.tmp 1) 1, type := 0, pos := "ref.go:75", after := #[{ on := 7, ground := Ground.guard }], guard := some (7, true) }
@[reducible] def opX9 : Oper := { dst := some 53, op := Op.load 23 (Operand.tmp 52), type := 23, pos := "ref.go:75", after := #[{ on := 8, ground := Ground.data }, { on := 7, ground := Ground.guard }], guard := some (7, true) }
@[reducible] def opX10 : Oper := { dst := some 54, op := Op.move (Operand.tmp 3), type := 3, pos := "ref.go:75", after := #[{ on := 7, ground := Ground.guard }], guard := some (7, true) }
@[reducible] def opX11 : Oper := { dst := some 55, op := Op.binOp BinOp.sub 3 (Operand.tmp 54) (Operand.const (Value.int IntKind.i64 1)) 3, type := 3, pos := "ref.go:75", after := #[{ on := 10, ground := Ground.data }, { on := 7, ground := Ground.guard }], guard := some (7, true) }
@[reducible] def opX12 : Oper := { dst := some 56, op := Op.indexAddr 23 (Operand.tmp 53) (Operand.tmp 55), type := 0, pos := "ref.go:75", after := #[{ on := 9, ground := Ground.data }, { on := 11, ground := Ground.data }, { on := 7, ground := Ground.guard }], guard := some (7, true) }
@[reducible] def opX13 : Oper := { dst := some 57, op := Op.fieldAddr 34 (Operand.tmp 56) 0, type := 0, pos := "ref.go:75", after := #[{ on := 12, ground := Ground.data }, { on := 7, ground := Ground.guard }], guard := some (7, true) }
@[reducible] def opX14 : Oper := { dst := some 58, op := Op.load 9 (Operand.tmp 57), type := 9, pos := "ref.go:75", after := #[{ on := 13, ground := Ground.data }, { on := 7, ground := Ground.guard }], guard := some (7, true) }
@[reducible] def opX15 : Oper := { dst := some 59, op := Op.fieldAddr 34 (Operand.tmp 4) 0, type := 0, pos := "ref.go:75", after := #[{ on := 7, ground := Ground.guard }], guard := some (7, true) }
@[reducible] def opX16 : Oper := { dst := some 60, op := Op.load 9 (Operand.tmp 59), type := 9, pos := "ref.go:75", after := #[{ on := 15, ground := Ground.data }, { on := 7, ground := Ground.guard }], guard := some (7, true) }
@[reducible] def opX17 : Oper := { dst := some 61, op := Op.binOp BinOp.geq 9 (Operand.tmp 58) (Operand.tmp 60) 9, type := 4, pos := "ref.go:75", after := #[{ on := 14, ground := Ground.data }, { on := 16, ground := Ground.data }, { on := 7, ground := Ground.guard }], guard := some (7, true) }
@[reducible] def opX18 : Oper := { dst := some 62, op := Op.pick (Operand.tmp 51) (Operand.tmp 61) (Operand.const (Value.bool false)), type := 4, pos := "ref.go:75", after := #[{ on := 7, ground := Ground.data }, { on := 17, ground := Ground.data }, { on := 4, ground := Ground.guard }], guard := some (4, false) }
@[reducible] def opX19 : Oper := { dst := some 63, op := Op.pick (Operand.tmp 48) (Operand.const (Value.bool true)) (Operand.tmp 62), type := 4, pos := "ref.go:75", after := #[{ on := 4, ground := Ground.data }, { on := 18, ground := Ground.data }], guard := none }
@[reducible] def opX20 : Oper := { dst := some 64, op := Op.move (Operand.tmp 63), type := 4, pos := "ref.go:75", after := #[{ on := 19, ground := Ground.data }, { on := 7, ground := Ground.chain }], guard := none }
@[reducible] def opX21 : Oper := { dst := some 65, op := Op.fieldAddr 34 (Operand.tmp 4) 1, type := 0, pos := "ref.go:75", after := #[{ on := 20, ground := Ground.guard }], guard := some (20, false) }
@[reducible] def opX22 : Oper := { dst := some 66, op := Op.load 29 (Operand.tmp 65), type := 29, pos := "ref.go:75", after := #[{ on := 21, ground := Ground.data }, { on := 20, ground := Ground.guard }], guard := some (20, false) }
@[reducible] def opX23 : Oper := { dst := some 67, op := Op.call { callee := Callee.value (Operand.func 21), args := #[Operand.tmp 66], argTypes := #[29] }, type := 4, pos := "ref.go:75", after := #[{ on := 22, ground := Ground.data }, { on := 20, ground := Ground.chain }, { on := 20, ground := Ground.guard }], guard := some (20, false) }
@[reducible] def opX24 : Oper := { dst := some 68, op := Op.unOp UnOp.not 4 (Operand.tmp 67), type := 4, pos := "ref.go:75", after := #[{ on := 23, ground := Ground.data }, { on := 20, ground := Ground.guard }], guard := some (20, false) }
@[reducible] def opX25 : Oper := { dst := some 69, op := Op.pick (Operand.tmp 64) (Operand.const (Value.bool true)) (Operand.tmp 68), type := 4, pos := "ref.go:75", after := #[{ on := 20, ground := Ground.data }, { on := 24, ground := Ground.data }], guard := none }
@[reducible] def opX26 : Oper := { dst := some 70, op := Op.move (Operand.tmp 69), type := 4, pos := "ref.go:75", after := #[{ on := 25, ground := Ground.data }, { on := 23, ground := Ground.chain }], guard := none }
@[reducible] def opX27 : Oper := { dst := some 71, op := Op.fieldAddr 34 (Operand.tmp 4) 2, type := 0, pos := "ref.go:75", after := #[{ on := 26, ground := Ground.guard }], guard := some (26, false) }
@[reducible] def opX28 : Oper := { dst := some 72, op := Op.load 3 (Operand.tmp 71), type := 3, pos := "ref.go:75", after := #[{ on := 27, ground := Ground.data }, { on := 26, ground := Ground.guard }], guard := some (26, false) }
@[reducible] def opX29 : Oper := { dst := some 73, op := Op.call { callee := Callee.value (Operand.func 19), args := #[Operand.tmp 72, Operand.const (Value.int IntKind.i64 0), Operand.const (Value.int IntKind.i64 4294967296)], argTypes := #[3, 3, 3] }, type := 4, pos := "ref.go:75", after := #[{ on := 28, ground := Ground.data }, { on := 26, ground := Ground.chain }, { on := 26, ground := Ground.guard }], guard := some (26, false) }
@[reducible] def opX30 : Oper := { dst := some 74, op := Op.unOp UnOp.not 4 (Operand.tmp 73), type := 4, pos := "ref.go:75", after := #[{ on := 29, ground := Ground.data }, { on := 26, ground := Ground.guard }], guard := some (26, false) }
@[reducible] def opX31 : Oper := { dst := some 75, op := Op.pick (Operand.tmp 70) (Operand.const (Value.bool true)) (Operand.tmp 74), type := 4, pos := "ref.go:75", after := #[{ on := 26, ground := Ground.data }, { on := 30, ground := Ground.data }], guard := none }
@[reducible] def opX32 : Oper := { dst := some 88, op := Op.fieldAddr 67 (Operand.tmp 6) 0, type := 0, pos := "ref.go:81", after := #[], guard := none }
@[reducible] def opX33 : Oper := { dst := some 89, op := Op.load 3 (Operand.tmp 88), type := 3, pos := "ref.go:81", after := #[{ on := 0, ground := Ground.data }], guard := none }
@[reducible] def opX34 : Oper := { dst := some 90, op := Op.call { callee := Callee.value (Operand.func 19), args := #[Operand.tmp 89, Operand.const (Value.int IntKind.i64 1), Operand.const (Value.int IntKind.i64 255)], argTypes := #[3, 3, 3] }, type := 4, pos := "ref.go:81", after := #[{ on := 1, ground := Ground.data }], guard := none }
@[reducible] def opX35 : Oper := { dst := some 91, op := Op.unOp UnOp.not 4 (Operand.tmp 90), type := 4, pos := "ref.go:81", after := #[{ on := 2, ground := Ground.data }], guard := none }
@[reducible] def opX36 : Oper := { dst := some 92, op := Op.move (Operand.tmp 91), type := 4, pos := "ref.go:81", after := #[{ on := 3, ground := Ground.data }, { on := 2, ground := Ground.chain }], guard := none }
@[reducible] def opX37 : Oper := { dst := some 93, op := Op.fieldAddr 67 (Operand.tmp 6) 1, type := 0, pos := "ref.go:81", after := #[{ on := 4, ground := Ground.guard }], guard := some (4, false) }
@[reducible] def opX38 : Oper := { dst := some 94, op := Op.load 3 (Operand.tmp 93), type := 3, pos := "ref.go:81", after := #[{ on := 5, ground := Ground.data }, { on := 4, ground := Ground.guard }], guard := some (4, false) }
@[reducible] def opX39 : Oper := { dst := some 95, op := Op.call { callee := Callee.value (Operand.func 19), args := #[Operand.tmp 94, Operand.const (Value.int IntKind.i64 1), Operand.const (Value.int IntKind.i64 1099511627776)], argTypes := #[3, 3, 3] }, type := 4, pos := "ref.go:81", after := #[{ on := 6, ground := Ground.data }, { on := 4, ground := Ground.chain }, { on := 4, ground := Ground.guard }], guard := some (4, false) }
@[reducible] def opX40 : Oper := { dst := some 96, op := Op.unOp UnOp.not 4 (Operand.tmp 95), type := 4, pos := "ref.go:81", after := #[{ on := 7, ground := Ground.data }, { on := 4, ground := Ground.guard }], guard := some (4, false) }
@[reducible] def opX41 : Oper := { dst := some 97, op := Op.pick (Operand.tmp 92) (Operand.const (Value.bool true)) (Operand.tmp 96), type := 4, pos := "ref.go:81", after := #[{ on := 4, ground := Ground.data }, { on := 8, ground := Ground.data }], guard := none }
@[reducible] def opX42 : Oper := { dst := some 98, op := Op.move (Operand.tmp 97), type := 4, pos := "ref.go:81", after := #[{ on := 9, ground := Ground.data }, { on := 7, ground := Ground.chain }], guard := none }
@[reducible] def opX43 : Oper := { dst := some 99, op := Op.fieldAddr 67 (Operand.tmp 6) 2, type := 0, pos := "ref.go:81", after := #[{ on := 10, ground := Ground.guard }], guard := some (10, false) }
@[reducible] def opX44 : Oper := { dst := some 100, op := Op.load 3 (Operand.tmp 99), type := 3, pos := "ref.go:81", after := #[{ on := 11, ground := Ground.data }, { on := 10, ground := Ground.guard }], guard := some (10, false) }
@[reducible] def opX45 : Oper := { dst := some 101, op := Op.fieldAddr 26 (Operand.tmp 1) 0, type := 0, pos := "ref.go:81", after := #[{ on := 10, ground := Ground.guard }], guard := some (10, false) }
@[reducible] def opX46 : Oper := { dst := some 102, op := Op.load 3 (Operand.tmp 101), type := 3, pos := "ref.go:81", after := #[{ on := 13, ground := Ground.data }, { on := 10, ground := Ground.guard }], guard := some (10, false) }
@[reducible] def opX47 : Oper := { dst := some 103, op := Op.call { callee := Callee.value (Operand.func 19), args := #[Operand.tmp 100, Operand.const (Value.int IntKind.i64 1), Operand.tmp 102], argTypes := #[3, 3, 3] }, type := 4, pos := "ref.go:81", after := #[{ on := 12, ground := Ground.data }, { on := 14, ground := Ground.data }, { on := 10, ground := Ground.chain }, { on := 10, ground := Ground.guard }], guard := some (10, false) }
@[reducible] def opX48 : Oper := { dst := some 104, op := Op.unOp UnOp.not 4 (Operand.tmp 103), type := 4, pos := "ref.go:81", after := #[{ on := 15, ground := Ground.data }, { on := 10, ground := Ground.guard }], guard := some (10, false) }
@[reducible] def opX49 : Oper := { dst := some 105, op := Op.pick (Operand.tmp 98) (Operand.const (Value.bool true)) (Operand.tmp 104), type := 4, pos := "ref.go:81", after := #[{ on := 10, ground := Ground.data }, { on := 16, ground := Ground.data }], guard := none }
@[reducible] def opX50 : Oper := { dst := some 106, op := Op.move (Operand.tmp 105), type := 4, pos := "ref.go:81", after := #[{ on := 17, ground := Ground.data }, { on := 15, ground := Ground.chain }], guard := none }
@[reducible] def opX51 : Oper := { dst := some 107, op := Op.move (Operand.tmp 5), type := 3, pos := "ref.go:81", after := #[{ on := 18, ground := Ground.guard }], guard := some (18, false) }
@[reducible] def opX52 : Oper := { dst := some 108, op := Op.binOp BinOp.gtr 3 (Operand.tmp 107) (Operand.const (Value.int IntKind.i64 0)) 3, type := 4, pos := "ref.go:81", after := #[{ on := 19, ground := Ground.data }, { on := 18, ground := Ground.guard }], guard := some (18, false) }
@[reducible] def opX53 : Oper := { dst := some 109, op := Op.move (Operand.tmp 108), type := 4, pos := "ref.go:81", after := #[{ on := 20, ground := Ground.data }, { on := 18, ground := Ground.chain }, { on := 18, ground := Ground.guard }], guard := some (18, false) }
@[reducible] def opX54 : Oper := { dst := some 110, op := Op.fieldAddr 26 (Operand.tmp 1) 2, type := 0, pos := "ref.go:81", after := #[{ on := 21, ground := Ground.guard }], guard := some (21, true) }
@[reducible] def opX55 : Oper := { dst := some 111, op := Op.load 24 (Operand.tmp 110), type := 24, pos := "ref.go:81", after := #[{ on := 22, ground := Ground.data }, { on := 21, ground := Ground.guard }], guard := some (21, true) }
@[reducible] def opX56 : Oper := { dst := some 112, op := Op.move (Operand.tmp 5), type := 3, pos := "ref.go:81", after := #[{ on := 21, ground := Ground.guard }], guard := some (21, true) }
@[reducible] def opX57 : Oper := { dst := some 113, op := Op.binOp BinOp.sub 3 (Operand.tmp 112) (Operand.const (Value.int IntKind.i64 1)) 3, type := 3, pos := "ref.go:81", after := #[{ on := 24, ground := Ground.data }, { on := 21, ground := Ground.guard }], guard := some (21, true) }
@[reducible] def opX58 : Oper := { dst := some 114, op := Op.indexAddr 24 (Operand.tmp 111) (Operand.tmp 113), type := 0, pos := "ref.go:81", after := #[{ on := 23, ground := Ground.data }, { on := 25, ground := Ground.data }, { on := 21, ground := Ground.guard }], guard := some (21, true) }
@[reducible] def opX59 : Oper := { dst := some 115, op := Op.fieldAddr 67 (Operand.tmp 114) 0, type := 0, pos := "ref.go:81", after := #[{ on := 26, ground := Ground.data }, { on := 21, ground := Ground.guard }], guard := some (21, true) }
@[reducible] def opX60 : Oper := { dst := some 116, op := Op.load 3 (Operand.tmp 115), type := 3, pos := "ref.go:81", after := #[{ on := 27, ground := Ground.data }, { on := 21, ground := Ground.guard }], guard := some (21, true) }
@[reducible] def opX61 : Oper := { dst := some 117, op := Op.fieldAddr 67 (Operand.tmp 6) 0, type := 0, pos := "ref.go:81", after := #[{ on := 21, ground := Ground.guard }], guard := some (21, true) }
@[reducible] def opX62 : Oper := { dst := some 118, op := Op.load 3 (Operand.tmp 117), type := 3, pos := "ref.go:81", after := #[{ on := 29, ground := Ground.data }, { on := 21, ground := Ground.guard }], guard := some (21, true) }
@[reducible] def opX63 : Oper := { dst := some 119, op := Op.binOp BinOp.geq 3 (Operand.tmp 116) (Operand.tmp 118) 3, type := 4, pos := "ref.go:81", after := #[{ on := 28, ground := Ground.data }, { on := 30, ground := Ground.data }, { on := 21, ground := Ground.guard }], guard := some (21, true) }
@[reducible] def opX64 : Oper := { dst := some 120, op := Op.pick (Operand.tmp 109) (Operand.tmp 119) (Operand.const (Value.bool false)), type := 4, pos := "ref.go:81", after := #[{ on := 21, ground := Ground.data }, { on := 31, ground := Ground.data }, { on := 18, ground := Ground.guard }], guard := some (18, false) }
@[reducible] def opX65 : Oper := { dst := some 121, op := Op.pick (Operand.tmp 106) (Operand.const (Value.bool true)) (Operand.tmp 120), type := 4, pos := "ref.go:81", after := #[{ on := 18, ground := Ground.data }, { on := 32, ground := Ground.data }], guard := none }
@[reducible] def opX66 : Oper := { dst := some 122, op := Op.move (Operand.tmp 121), type := 4, pos := "ref.go:81", after := #[{ on := 33, ground := Ground.data }, { on := 21, ground := Ground.chain }], guard := none }
@[reducible] def opX67 : Oper := { dst := some 123, op := Op.load 67 (Operand.tmp 6), type := 67, pos := "ref.go:81", after := #[{ on := 34, ground := Ground.guard }], guard := some (34, false) }
@[reducible] def opX68 : Oper := { dst := some 124, op := Op.call { callee := Callee.value (Operand.func 25), args := #[Operand.tmp 123], argTypes := #[67] }, type := 4, pos := "ref.go:81", after := #[{ on := 35, ground := Ground.data }, { on := 34, ground := Ground.chain }, { on := 34, ground := Ground.guard }], guard := some (34, false) }
@[reducible] def opX69 : Oper := { dst := some 125, op := Op.unOp UnOp.not 4 (Operand.tmp 124), type := 4, pos := "ref.go:81", after := #[{ on := 36, ground := Ground.data }, { on := 34, ground := Ground.guard }], guard := some (34, false) }
@[reducible] def opX70 : Oper := { dst := some 126, op := Op.pick (Operand.tmp 122) (Operand.const (Value.bool true)) (Operand.tmp 125), type := 4, pos := "ref.go:81", after := #[{ on := 34, ground := Ground.data }, { on := 37, ground := Ground.data }], guard := none }

theorem dec_flip (a b : Int) : decide (a < b) = !decide (b ≤ a) := by
  by_cases h : a < b
  · rw [decide_eq_true h, decide_eq_false (by omega)]; rfl
  · rw [decide_eq_false h, decide_eq_true (by omega)]; rfl
set_option maxRecDepth 100000 in
set_option maxHeartbeats 4000000 in
theorem bucket_any (up : Int) (ea : Option Addr) (en ec : Nat) (la : Option Addr) (ln lc : Nat) (es : List En) (ls : List La) (w : World) (he : RdE w ⟨ea, en, ec⟩ es) (hl : RdL w ⟨la, ln, lc⟩ ls) (hbe : en ≤ 140737488355328) (hbl : ln ≤ 140737488355328) : Calls Try.prog 7 #[.agg (Bv.cells ⟨up, ⟨ea, en, ec⟩, ⟨la, ln, lc⟩⟩)] w (fun e w' => e = .returned (.bool (bktB up es ls)) ∧ Kept No w w') := by
  obtain ⟨C, hC⟩ : ∃ C : Ending → World → Prop, C = (fun e w' => e = .returned (.bool (bktB up es ls)) ∧ Kept No w w') := ⟨_, rfl⟩
  have HC : Hid (C = (fun e w' => e = .returned (.bool (bktB up es ls)) ∧ Kept No w w')) := hC
  rw [← hC]
  clear hC
  have hel : es.length = en := he.len
  have hll : ls.length = ln := hl.len
  have HE : Hid (Es w ea es) := he.row
  have HL : Hid (Ls w la ls) := hl.row
  obtain ⟨bad, hbad⟩ : ∃ bad, bad = (!inB up 0 1048576 || (decide (256 < ((en : Nat) : Int)) || (up == 0 && decide (0 < (((en + ln) : Nat) : Int))))) := ⟨_, rfl⟩
  have HBad : Hid (bad = (!inB up 0 1048576 || (decide (256 < ((en : Nat) : Int)) || (up == 0 && decide (0 < (((en + ln) : Nat) : Int)))))) := hbad
  have hd : decide (0 < (((en + ln) : Nat) : Int)) = decide (0 < es.length + ls.length) := by rw [hel, hll]; by_cases h : 0 < en + ln <;> simp [h] <;> omega
  have hd2 : decide (256 < ((en : Nat) : Int)) = !decide (es.length ≤ 256) := by
    rw [hel]
    by_cases h : en ≤ 256
    · rw [decide_eq_true h, decide_eq_false (by omega)]; rfl
    · rw [decide_eq_false h, decide_eq_true (by omega)]; rfl
  have HBf : Hid (bad = true → bktB up es ls = false) := fun h => by
    rw [hbad, hd, hd2] at h
    unfold bktB
    generalize inB up 0 1048576 = p1 at h ⊢
    generalize decide (es.length ≤ 256) = p2 at h ⊢
    generalize (up == 0 && decide (0 < es.length + ls.length)) = p3 at h ⊢
    cases p1 <;> cases p2 <;> cases p3 <;> simp_all
  have HB4 : Hid (bad = false → (∀ i, i < en → entB es i = true) → (∀ i, i < ln → lasB up ls i = true) → bktB up es ls = true) := fun h h4 h5 => by
    rw [hbad, hd, hd2] at h
    simp only [Bool.or_eq_false_iff, Bool.not_eq_false'] at h
    exact bktB_t h.1 (by have := h.2.1; simpa using this) h.2.2 (fun i hi => h4 i (by omega)) (fun i hi => h5 i (by omega))
  have HB5 : Hid (∀ i, i < en → entB es i = false → bktB up es ls = false) := fun i hi h => bktB_e (by omega) h
  have HB6 : Hid (∀ i, i < ln → lasB up ls i = false → bktB up es ls = false) := fun i hi h => bktB_l (by omega) h
  have HEL : Hid (es.length = en) := hel
  have HLL : Hid (ls.length = ln) := hll
  clear he hl hel hll hbad hd hd2
  have HF : Hid (Fr No w w []) := Fr.start _ _
  go_enter Try.func7, Try.ntmps7
  go_upto_region 0 with fail
  refine WL.start ?_
  refine wp_runW (.pointer (some ⟨w.heap.size, 0, none⟩)) (w.alloc (.cells (Bv.cells ⟨up, ⟨ea, en, ec⟩, ⟨la, ln, lc⟩⟩) 26)) (exec_box 26 _ rfl (Bv.cells ⟨up, ⟨ea, en, ec⟩, ⟨la, ln, lc⟩⟩) (by kernel_rfl)) (by kernel_rfl) ?_
  try simp only [pA, pB, p1, p2, p3]
  have HF : Hid (Fr No w (w.alloc (.cells (Bv.cells ⟨up, ⟨ea, en, ec⟩, ⟨la, ln, lc⟩⟩) 26)) [(w.heap.size, 26, Bv.cells ⟨up, ⟨ea, en, ec⟩, ⟨la, ln, lc⟩⟩)]) := HF.out.alloc _ _
  generalize w.alloc (.cells (Bv.cells ⟨up, ⟨ea, en, ec⟩, ⟨la, ln, lc⟩⟩) 26) = wk2 at HF ⊢
  generalize w.heap.size = gk1 at HF ⊢
  refine tK (.bool false) ?_
  try simp only [pA, pB, p1, p2, p3]
  refine WL.nil ?_
  try simp only [pA, pB, p1, p2, p3]
  go_upto_region 1 with fail
  go_cut [31] from 7 to 31 (fun v31 wc => v31 = .bool bad ∧ wc = wk2)
  case first =>
   rename_i J0 K0 hJ0 hK0
   refine WL.start ?_
   refine tK (.pointer (some ⟨gk1, 0, none⟩)) ?_
   try simp only [pA, pB, p1, p2, p3]
   refine tW (.int .i64 up) (exec_load 3 _ rfl ⟨gk1, 0, none⟩ (by kernel_rfl) (.int .i64 up) (ld3 ((HF.out.box 0 _ _ _ rfl).cell 0))) ?_
   try simp only [pA, pB, p1, p2, p3]
   cases q1 : (inB up 0 1048576)
   ·skip
    refine wp_callW 19 #[.int .i64 up, .int .i64 0, .int .i64 1048576] (by kernel_rfl) _ (within_any _ _ _ _) (by kernel_rfl) ?_
    rintro e wq ⟨rfl, hwq⟩
    rw [hwq]
    clear hwq wq
    refine ⟨.bool false, by rw [q1], ?_⟩
    try simp only [pA, pB, p1, p2, p3]
    refine tK (.bool true) ?_
    try simp only [pA, pB, p1, p2, p3]
    refine tK (.bool true) ?_
    try simp only [pA, pB, p1, p2, p3]
    refine sK ?_
    try simp only [pA, pB, p1, p2, p3]
    refine sK ?_
    try simp only [pA, pB, p1, p2, p3]
    refine sK ?_
    try simp only [pA, pB, p1, p2, p3]
    refine sK ?_
    try simp only [pA, pB, p1, p2, p3]
    refine tK (.bool true) ?_
    try simp only [pA, pB, p1, p2, p3]
    refine tK (.bool true) ?_
    try simp only [pA, pB, p1, p2, p3]
    refine sK ?_
    try simp only [pA, pB, p1, p2, p3]
    refine sK ?_
    try simp only [pA, pB, p1, p2, p3]
    refine sK ?_
    try simp only [pA, pB, p1, p2, p3]
    refine sK ?_
    try simp only [pA, pB, p1, p2, p3]
    refine sK ?_
    try simp only [pA, pB, p1, p2, p3]
    refine sK ?_
    try simp only [pA, pB, p1, p2, p3]
    refine sK ?_
    try simp only [pA, pB, p1, p2, p3]
    refine sK ?_
    try simp only [pA, pB, p1, p2, p3]
    refine sK ?_
    try simp only [pA, pB, p1, p2, p3]
    refine sK ?_
    try simp only [pA, pB, p1, p2, p3]
    refine sK ?_
    try simp only [pA, pB, p1, p2, p3]
    refine sK ?_
    try simp only [pA, pB, p1, p2, p3]
    refine sK ?_
    try simp only [pA, pB, p1, p2, p3]
    refine tK (.bool true) ?_
    try simp only [pA, pB, p1, p2, p3]
    refine WL.nil ?_
    try simp only [pA, pB, p1, p2, p3]
    refine hK0 _ _ (Met.intro (hJ0 _ _ ?_))
    (repeat apply Exists.intro)
    refine ⟨?_, rfl⟩
    exact ⟨by rw [HBad.out, q1]; rfl, rfl⟩
   ·skip
    refine wp_callW 19 #[.int .i64 up, .int .i64 0, .int .i64 1048576] (by kernel_rfl) _ (within_any _ _ _ _) (by kernel_rfl) ?_
    rintro e wq ⟨rfl, hwq⟩
    rw [hwq]
    clear hwq wq
    refine ⟨.bool true, by rw [q1], ?_⟩
    try simp only [pA, pB, p1, p2, p3]
    refine tK (.bool false) ?_
    try simp only [pA, pB, p1, p2, p3]
    refine tK (.bool false) ?_
    try simp only [pA, pB, p1, p2, p3]
    refine tK (.pointer (some ⟨gk1, 1, none⟩)) ?_
    try simp only [pA, pB, p1, p2, p3]
    refine tW (.slice ea en ec) (exec_load 23 _ rfl ⟨gk1, 1, none⟩ (by kernel_rfl) (.slice ea en ec) (ld22 ((HF.out.box 0 _ _ _ rfl).cell 1))) ?_
    try simp only [pA, pB, p1, p2, p3]
    refine tK (.int .i64 ((en : Nat) : Int)) ?_
    try simp only [pA, pB, p1, p2, p3]
    cases q2 : (decide (256 < ((en : Nat) : Int)))
    ·skip
     refine tW (.bool false) (exec_bin .gtr 3 _ _ _ rfl (.int .i64 ((en : Nat) : Int)) (.int .i64 256) (.bool false) (by kernel_rfl) (by kernel_rfl) (by kernel_rfl) (by rw [b_gtr, q2]; try rfl)) ?_
     try simp only [pA, pB, p1, p2, p3]
     refine tK (.bool false) ?_
     try simp only [pA, pB, p1, p2, p3]
     refine tK (.bool false) ?_
     try simp only [pA, pB, p1, p2, p3]
     refine tK (.pointer (some ⟨gk1, 0, none⟩)) ?_
     try simp only [pA, pB, p1, p2, p3]
     refine tW (.int .i64 up) (exec_load 3 _ rfl ⟨gk1, 0, none⟩ (by kernel_rfl) (.int .i64 up) (ld3 ((HF.out.box 0 _ _ _ rfl).cell 0))) ?_
     try simp only [pA, pB, p1, p2, p3]
     cases q3 : (up == 0)
     ·skip
      refine tW (.bool false) (exec_bin .eql 3 _ _ _ rfl (.int .i64 up) (.int .i64 0) (.bool false) (by kernel_rfl) (by kernel_rfl) (by kernel_rfl) (by rw [b_eql, q3]; try rfl)) ?_
      try simp only [pA, pB, p1, p2, p3]
      refine tK (.bool false) ?_
      try simp only [pA, pB, p1, p2, p3]
      refine sK ?_
      try simp only [pA, pB, p1, p2, p3]
      refine sK ?_
      try simp only [pA, pB, p1, p2, p3]
      refine sK ?_
      try simp only [pA, pB, p1, p2, p3]
      refine sK ?_
      try simp only [pA, pB, p1, p2, p3]
      refine sK ?_
      try simp only [pA, pB, p1, p2, p3]
      refine sK ?_
      try simp only [pA, pB, p1, p2, p3]
      refine sK ?_
      try simp only [pA, pB, p1, p2, p3]
      refine sK ?_
      try simp only [pA, pB, p1, p2, p3]
      refine tK (.bool false) ?_
      try simp only [pA, pB, p1, p2, p3]
      refine tK (.bool false) ?_
      try simp only [pA, pB, p1, p2, p3]
      refine WL.nil ?_
      try simp only [pA, pB, p1, p2, p3]
      refine hK0 _ _ (Met.intro (hJ0 _ _ ?_))
      (repeat apply Exists.intro)
      refine ⟨?_, rfl⟩
      exact ⟨by rw [HBad.out, q1, q2, q3]; rfl, rfl⟩
     ·skip
      refine tW (.bool true) (exec_bin .eql 3 _ _ _ rfl (.int .i64 up) (.int .i64 0) (.bool true) (by kernel_rfl) (by kernel_rfl) (by kernel_rfl) (by rw [b_eql, q3]; try rfl)) ?_
      try simp only [pA, pB, p1, p2, p3]
      refine tK (.bool true) ?_
      try simp only [pA, pB, p1, p2, p3]
      refine tK (.pointer (some ⟨gk1, 1, none⟩)) ?_
      try simp only [pA, pB, p1, p2, p3]
      refine tW (.slice ea en ec) (exec_load 23 _ rfl ⟨gk1, 1, none⟩ (by kernel_rfl) (.slice ea en ec) (ld22 ((HF.out.box 0 _ _ _ rfl).cell 1))) ?_
      try simp only [pA, pB, p1, p2, p3]
      refine tK (.int .i64 ((en : Nat) : Int)) ?_
      try simp only [pA, pB, p1, p2, p3]
      refine tK (.pointer (some ⟨gk1, 2, none⟩)) ?_
      try simp only [pA, pB, p1, p2, p3]
      refine tW (.slice la ln lc) (exec_load 24 _ rfl ⟨gk1, 2, none⟩ (by kernel_rfl) (.slice la ln lc) (ld23 ((HF.out.box 0 _ _ _ rfl).cell 2))) ?_
      try simp only [pA, pB, p1, p2, p3]
      refine tK (.int .i64 ((ln : Nat) : Int)) ?_
      try simp only [pA, pB, p1, p2, p3]
      refine tW (.int .i64 (((en + ln) : Nat) : Int)) (exec_bin .add 3 _ _ _ rfl (.int .i64 ((en : Nat) : Int)) (.int .i64 ((ln : Nat) : Int)) (.int .i64 (((en + ln) : Nat) : Int)) (by kernel_rfl) (by kernel_rfl) (by kernel_rfl) (b_addN en ln (en + ln) rfl (by omega) _)) ?_
      try simp only [pA, pB, p1, p2, p3]
      cases q4 : (decide (0 < (((en + ln) : Nat) : Int)))
      ·skip
       refine tW (.bool false) (exec_bin .gtr 3 _ _ _ rfl (.int .i64 (((en + ln) : Nat) : Int)) (.int .i64 0) (.bool false) (by kernel_rfl) (by kernel_rfl) (by kernel_rfl) (by rw [b_gtr, q4]; try rfl)) ?_
       try simp only [pA, pB, p1, p2, p3]
       refine tK (.bool false) ?_
       try simp only [pA, pB, p1, p2, p3]
       refine tK (.bool false) ?_
       try simp only [pA, pB, p1, p2, p3]
       refine WL.nil ?_
       try simp only [pA, pB, p1, p2, p3]
       refine hK0 _ _ (Met.intro (hJ0 _ _ ?_))
       (repeat apply Exists.intro)
       refine ⟨?_, rfl⟩
       exact ⟨by rw [HBad.out, q1, q2, q3, q4]; rfl, rfl⟩
      ·skip
       refine tW (.bool true) (exec_bin .gtr 3 _ _ _ rfl (.int .i64 (((en + ln) : Nat) : Int)) (.int .i64 0) (.bool true) (by kernel_rfl) (by kernel_rfl) (by kernel_rfl) (by rw [b_gtr, q4]; try rfl)) ?_
       try simp only [pA, pB, p1, p2, p3]
       refine tK (.bool true) ?_
       try simp only [pA, pB, p1, p2, p3]
       refine tK (.bool true) ?_
       try simp only [pA, pB, p1, p2, p3]
       refine WL.nil ?_
       try simp only [pA, pB, p1, p2, p3]
       refine hK0 _ _ (Met.intro (hJ0 _ _ ?_))
       (repeat apply Exists.intro)
       refine ⟨?_, rfl⟩
       exact ⟨by rw [HBad.out, q1, q2, q3, q4]; rfl, rfl⟩
    ·skip
     refine tW (.bool true) (exec_bin .gtr 3 _ _ _ rfl (.int .i64 ((en : Nat) : Int)) (.int .i64 256) (.bool true) (by kernel_rfl) (by kernel_rfl) (by kernel_rfl) (by rw [b_gtr, q2]; try rfl)) ?_
     try simp only [pA, pB, p1, p2, p3]
     refine tK (.bool true) ?_
     try simp only [pA, pB, p1, p2, p3]
     refine tK (.bool true) ?_
     try simp only [pA, pB, p1, p2, p3]
     refine sK ?_
     try simp only [pA, pB, p1, p2, p3]
     refine sK ?_
     try simp only [pA, pB, p1, p2, p3]
     refine sK ?_
     try simp only [pA, pB, p1, p2, p3]
     refine sK ?_
     try simp only [pA, pB, p1, p2, p3]
     refine sK ?_
     try simp only [pA, pB, p1, p2, p3]
     refine sK ?_
     try simp only [pA, pB, p1, p2, p3]
     refine sK ?_
     try simp only [pA, pB, p1, p2, p3]
     refine sK ?_
     try simp only [pA, pB, p1, p2, p3]
     refine sK ?_
     try simp only [pA, pB, p1, p2, p3]
     refine sK ?_
     try simp only [pA, pB, p1, p2, p3]
     refine sK ?_
     try simp only [pA, pB, p1, p2, p3]
     refine sK ?_
     try simp only [pA, pB, p1, p2, p3]
     refine sK ?_
     try simp only [pA, pB, p1, p2, p3]
     refine tK (.bool true) ?_
     try simp only [pA, pB, p1, p2, p3]
     refine WL.nil ?_
     try simp only [pA, pB, p1, p2, p3]
     refine hK0 _ _ (Met.intro (hJ0 _ _ ?_))
     (repeat apply Exists.intro)
     refine ⟨?_, rfl⟩
     exact ⟨by rw [HBad.out, q1, q2]; rfl, rfl⟩
  case rest =>
   obtain ⟨rfl, rfl⟩ := hcut
   clear HBad
   cases hb0 : bad
   ·skip
    have HB4 : Hid ((∀ i, i < en → entB es i = true) → (∀ i, i < ln → lasB up ls i = true) → bktB up es ls = true) := HB4.out hb0
    clear HBf hb0
    go_upto_region 3 with fail
    refine WL.start ?_
    refine tK (.int .i64 0) ?_
    try simp only [pA, pB, p1, p2, p3]
    refine WL.nil ?_
    try simp only [pA, pB, p1, p2, p3]
    go_wp2
    go_loopw [3] (fun v wr => ∃ i : Nat, v = .int .i64 ((i : Nat) : Int) ∧ i ≤ en ∧ Hid (∀ j, j < i → entB es j = true) ∧ Hid (Fr No w wr [(gk1, 26, Bv.cells ⟨up, ⟨ea, en, ec⟩, ⟨la, ln, lc⟩⟩)])) (fun i _ => en - (intOf i).toNat)
    case atStart => exact ⟨0, by go_num, by omega, fun j hj => absurd hj (Nat.not_lt_zero _), HF⟩
    case round =>
      obtain ⟨i, rfl, hi, HP, HF⟩ := hrel
      by_cases hlt : i < en
      ·skip
       obtain ⟨xb, xo, e0, hcx⟩ := Es.at HE.out (i := i) (by rw [HEL.out]; exact hlt)
       subst e0
       have HCX : Hid (∀ (j : Nat) v, (eAt es i).cs[j]? = some v → w.cell? ⟨xb, xo + i * 4 + j, none⟩ = some v) := hcx
       have HCY : Hid (0 < i → w.cell? ⟨xb, xo + (i - 1) * 4, none⟩ = some (.string (eAt es (i - 1)).nm)) := fun h => by
         obtain ⟨b', o', e1, h1⟩ := Es.at HE.out (i := i - 1) (by rw [HEL.out]; omega)
         cases e1
         have := h1 0 _ rfl
         simpa using this
       have HEN : Hid (entB es i = (nameB (eAt es i).nm && (decide (i = 0) || ltN (eAt es (i - 1)).nm (eAt es i).nm) && fileB (eAt es i).f0 (eAt es i).f1 && inB (eAt es i).sz 0 4294967296)) := rfl
       have HNo : Hid (entB es i = false → bktB up es ls = false) := HB5.out i hlt
       have HYes : Hid (entB es i = true → ∀ j, j < i + 1 → entB es j = true) := fun h j hj => by
         by_cases e : j = i
         · rw [e]; exact h
         · exact HP.out j (by omega)
       clear hcx
       generalize eAt es i = x at HCX HEN
       generalize eAt es (i - 1) = y at HCY HEN
       go_upto_region 4 with fail
       refine WL.start ?_
       refine tK (.int .i64 ((i : Nat) : Int)) ?_
       try simp only [pA, pB, p1, p2, p3]
       refine tK (.pointer (some ⟨gk1, 1, none⟩)) ?_
       try simp only [pA, pB, p1, p2, p3]
       refine tW (.slice (some ⟨xb, xo, none⟩) en ec) (exec_load 23 _ rfl ⟨gk1, 1, none⟩ (by kernel_rfl) (.slice (some ⟨xb, xo, none⟩) en ec) (ld22 ((HF.out.box 0 _ _ _ rfl).cell 1))) ?_
       try simp only [pA, pB, p1, p2, p3]
       refine tK (.int .i64 ((en : Nat) : Int)) ?_
       try simp only [pA, pB, p1, p2, p3]
       refine tW (.bool true) (exec_bin .lss 3 _ _ _ rfl (.int .i64 ((i : Nat) : Int)) (.int .i64 ((en : Nat) : Int)) (.bool true) (by kernel_rfl) (by kernel_rfl) (by kernel_rfl) (by rw [b_lss, decide_eq_true (by omega)])) ?_
       try simp only [pA, pB, p1, p2, p3]
       refine WL.nil ?_
       try simp only [pA, pB, p1, p2, p3]
       go_upto_region 6 with fail
       refine WL.start ?_
       refine tK (.pointer (some ⟨gk1, 1, none⟩)) ?_
       try simp only [pA, pB, p1, p2, p3]
       refine tW (.slice (some ⟨xb, xo, none⟩) en ec) (exec_load 23 _ rfl ⟨gk1, 1, none⟩ (by kernel_rfl) (.slice (some ⟨xb, xo, none⟩) en ec) (ld22 ((HF.out.box 0 _ _ _ rfl).cell 1))) ?_
       try simp only [pA, pB, p1, p2, p3]
       refine tK (.int .i64 ((i : Nat) : Int)) ?_
       try simp only [pA, pB, p1, p2, p3]
       refine tW (.pointer (some ⟨xb, xo + i * 4, none⟩)) (exec_ixA 23 4 Try.und22e Try.size22e _ _ rfl xb xo en ec i (by kernel_rfl) (by kernel_rfl) (by omega)) ?_
       try simp only [pA, pB, p1, p2, p3]
       refine tW (.agg (En.cells x)) (exec_load 34 _ rfl ⟨xb, xo + i * 4, none⟩ (by kernel_rfl) (.agg (En.cells x)) (load_E (fun j v h => HF.out.kept.cell (HCX.out j v h) (fun e => e)))) ?_
       try simp only [pA, pB, p1, p2, p3]
       refine wp_runW (.pointer (some ⟨wr.heap.size, 0, none⟩)) (wr.alloc (.cells (En.cells enZ) 34)) (exec_alloc 34 rfl (En.cells enZ) zero54) (by kernel_rfl) ?_
       try simp only [pA, pB, p1, p2, p3]
       have HF : Hid (Fr No w (wr.alloc (.cells (En.cells enZ) 34)) [(gk1, 26, Bv.cells ⟨up, ⟨(some ⟨xb, xo, none⟩), en, ec⟩, ⟨la, ln, lc⟩⟩), (wr.heap.size, 34, En.cells enZ)]) := HF.out.alloc _ _
       generalize wr.alloc (.cells (En.cells enZ) 34) = wk4 at HF ⊢
       generalize wr.heap.size = gk3 at HF ⊢
       refine wp_storeW 34 _ _ rfl ⟨gk3, 0, none⟩ (.agg (En.cells x)) (by kernel_rfl) (by kernel_rfl) (wk4.setRow gk3 (En.cells x)) (st54 (HF.out.box 1 _ _ _ rfl) rfl) (by kernel_rfl) ?_
       try simp only [pA, pB, p1, p2, p3]
       have HF : Hid (Fr No w (wk4.setRow gk3 (En.cells x)) [(gk1, 26, Bv.cells ⟨up, ⟨(some ⟨xb, xo, none⟩), en, ec⟩, ⟨la, ln, lc⟩⟩), (gk3, 34, En.cells x)]) := HF.out.set 1 rfl _
       generalize wk4.setRow gk3 (En.cells x) = wk5 at HF ⊢
       refine WL.nil ?_
       try simp only [pA, pB, p1, p2, p3]
       by_cases hi0 : 0 < i
       ·skip
        have HCY := HCY.out hi0
        have HCY : Hid (_ = _) := HCY
        have hid : decide (i = 0) = false := by simp; omega
        go_upto_region 7 with fail
        refine wp_region_held_drew (S := fun w' => Box w' gk1 26 (Bv.cells ⟨up, ⟨(some ⟨xb, xo, none⟩), en, ec⟩, ⟨la, ln, lc⟩⟩) ∧ Box w' gk3 34 (En.cells x) ∧ w'.cell? ⟨xb, xo + (i - 1) * 4, none⟩ = some (.string y.nm)) rfl ⟨HF.out.box 0 _ _ _ rfl, HF.out.box 1 _ _ _ rfl, HF.out.kept.drew.cell HCY.out (fun e => e)⟩ (fun hH => ?_)
        have HF : Hid (Fr No w (wk5.drew) [(gk1, 26, Bv.cells ⟨up, ⟨(some ⟨xb, xo, none⟩), en, ec⟩, ⟨la, ln, lc⟩⟩), (gk3, 34, En.cells x)]) := HF.out.drew
        generalize wk5.drew = wk6 at HF hH ⊢
        refine aK (i := 0) (oi := opX0) (v := .pointer (some ⟨gk3, 0, none⟩)) hH ?_
        try simp only [pA, pB, p1, p2, p3]
        refine aT (i := 1) (oi := opX1) (v := .string x.nm) (fun w' hw => exec_load 9 _ rfl ⟨gk3, 0, none⟩ (by kernel_rfl) (.string x.nm) (ld9 (hw.2.1.cell 0))) hH ?_
        try simp only [pA, pB, p1, p2, p3]
        cases q5 : (nameB x.nm)
        ·skip
         refine any_call (i := 2) (o := opX2) rfl (by kernel_rfl) (by kernel_rfl) 20 #[.string x.nm] (by kernel_rfl) _ (name_any _ _) ?_
         rintro e wq ⟨rfl, hwq⟩
         rw [hwq]
         clear hwq wq
         refine ⟨.bool false, by rw [q5], hH, fun hH => ?_⟩
         try simp only [pA, pB, p1, p2, p3]
         refine aK (i := 3) (oi := opX3) (v := .bool true) hH ?_
         try simp only [pA, pB, p1, p2, p3]
         refine aK (i := 4) (oi := opX4) (v := .bool true) hH ?_
         try simp only [pA, pB, p1, p2, p3]
         refine aS (i := 5) (oi := opX5) hH ?_
         try simp only [pA, pB, p1, p2, p3]
         refine aS (i := 6) (oi := opX6) hH ?_
         try simp only [pA, pB, p1, p2, p3]
         refine aS (i := 7) (oi := opX7) hH ?_
         try simp only [pA, pB, p1, p2, p3]
         refine aS (i := 8) (oi := opX8) hH ?_
         try simp only [pA, pB, p1, p2, p3]
         refine aS (i := 9) (oi := opX9) hH ?_
         try simp only [pA, pB, p1, p2, p3]
         refine aS (i := 10) (oi := opX10) hH ?_
         try simp only [pA, pB, p1, p2, p3]
         refine aS (i := 11) (oi := opX11) hH ?_
         try simp only [pA, pB, p1, p2, p3]
         refine aS (i := 12) (oi := opX12) hH ?_
         try simp only [pA, pB, p1, p2, p3]
         refine aS (i := 13) (oi := opX13) hH ?_
         try simp only [pA, pB, p1, p2, p3]
         refine aS (i := 14) (oi := opX14) hH ?_
         try simp only [pA, pB, p1, p2, p3]
         refine aS (i := 15) (oi := opX15) hH ?_
         try simp only [pA, pB, p1, p2, p3]
         refine aS (i := 16) (oi := opX16) hH ?_
         try simp only [pA, pB, p1, p2, p3]
         refine aS (i := 17) (oi := opX17) hH ?_
         try simp only [pA, pB, p1, p2, p3]
         refine aS (i := 18) (oi := opX18) hH ?_
         try simp only [pA, pB, p1, p2, p3]
         refine aK (i := 19) (oi := opX19) (v := .bool true) hH ?_
         try simp only [pA, pB, p1, p2, p3]
         refine aK (i := 20) (oi := opX20) (v := .bool true) hH ?_
         try simp only [pA, pB, p1, p2, p3]
         refine aS (i := 21) (oi := opX21) hH ?_
         try simp only [pA, pB, p1, p2, p3]
         refine aS (i := 22) (oi := opX22) hH ?_
         try simp only [pA, pB, p1, p2, p3]
         refine aS (i := 23) (oi := opX23) hH ?_
         try simp only [pA, pB, p1, p2, p3]
         refine aS (i := 24) (oi := opX24) hH ?_
         try simp only [pA, pB, p1, p2, p3]
         refine aK (i := 25) (oi := opX25) (v := .bool true) hH ?_
         try simp only [pA, pB, p1, p2, p3]
         refine aK (i := 26) (oi := opX26) (v := .bool true) hH ?_
         try simp only [pA, pB, p1, p2, p3]
         refine aS (i := 27) (oi := opX27) hH ?_
         try simp only [pA, pB, p1, p2, p3]
         refine aS (i := 28) (oi := opX28) hH ?_
         try simp only [pA, pB, p1, p2, p3]
         refine aS (i := 29) (oi := opX29) hH ?_
         try simp only [pA, pB, p1, p2, p3]
         refine aS (i := 30) (oi := opX30) hH ?_
         try simp only [pA, pB, p1, p2, p3]
         refine aK (i := 31) (oi := opX31) (v := .bool true) hH ?_
         try simp only [pA, pB, p1, p2, p3]
         refine wpAnyH_done (by kernel_rfl) ?_ _
         try simp only [pA, pB, p1, p2, p3]
         clear hH
         have hv : entB es i = false := by rw [HEN.out]; simp [hid, q5]
         go_upto_region 8 with fail
         refine WL.start ?_
         refine tK (.bool false) ?_
         try simp only [pA, pB, p1, p2, p3]
         refine WL.nil ?_
         try simp only [pA, pB, p1, p2, p3]
         have hv : bktB up es ls = false := HNo.out hv
         go_wp2
         rw [HC.out]
         exact ⟨by rw [hv]; rfl, HF.out.kept⟩
        ·skip
         refine any_call (i := 2) (o := opX2) rfl (by kernel_rfl) (by kernel_rfl) 20 #[.string x.nm] (by kernel_rfl) _ (name_any _ _) ?_
         rintro e wq ⟨rfl, hwq⟩
         rw [hwq]
         clear hwq wq
         refine ⟨.bool true, by rw [q5], hH, fun hH => ?_⟩
         try simp only [pA, pB, p1, p2, p3]
         refine aK (i := 3) (oi := opX3) (v := .bool false) hH ?_
         try simp only [pA, pB, p1, p2, p3]
         refine aK (i := 4) (oi := opX4) (v := .bool false) hH ?_
         try simp only [pA, pB, p1, p2, p3]
         refine aK (i := 5) (oi := opX5) (v := .int .i64 ((i : Nat) : Int)) hH ?_
         try simp only [pA, pB, p1, p2, p3]
         refine aT (i := 6) (oi := opX6) (v := .bool true) (fun w' hw => exec_bin .gtr 3 _ _ _ rfl (.int .i64 ((i : Nat) : Int)) (.int .i64 0) (.bool true) (by kernel_rfl) (by kernel_rfl) (by kernel_rfl) (by rw [b_gtr, decide_eq_true (by omega)])) hH ?_
         try simp only [pA, pB, p1, p2, p3]
         refine aK (i := 7) (oi := opX7) (v := .bool true) hH ?_
         try simp only [pA, pB, p1, p2, p3]
         refine aK (i := 8) (oi := opX8) (v := .pointer (some ⟨gk1, 1, none⟩)) hH ?_
         try simp only [pA, pB, p1, p2, p3]
         refine aT (i := 9) (oi := opX9) (v := .slice (some ⟨xb, xo, none⟩) en ec) (fun w' hw => exec_load 23 _ rfl ⟨gk1, 1, none⟩ (by kernel_rfl) (.slice (some ⟨xb, xo, none⟩) en ec) (ld22 (hw.1.cell 1))) hH ?_
         try simp only [pA, pB, p1, p2, p3]
         refine aK (i := 10) (oi := opX10) (v := .int .i64 ((i : Nat) : Int)) hH ?_
         try simp only [pA, pB, p1, p2, p3]
         refine aT (i := 11) (oi := opX11) (v := .int .i64 (((i - 1) : Nat) : Int)) (fun w' hw => exec_bin .sub 3 _ _ _ rfl (.int .i64 ((i : Nat) : Int)) (.int .i64 1) (.int .i64 (((i - 1) : Nat) : Int)) (by kernel_rfl) (by kernel_rfl) (by kernel_rfl) (b_subN i 1 (i - 1) (by omega) (by omega) _)) hH ?_
         try simp only [pA, pB, p1, p2, p3]
         refine aT (i := 12) (oi := opX12) (v := .pointer (some ⟨xb, xo + (i - 1) * 4, none⟩)) (fun w' hw => exec_ixA 23 4 Try.und22e Try.size22e _ _ rfl xb xo en ec (i - 1) (by kernel_rfl) (by kernel_rfl) (by omega)) hH ?_
         try simp only [pA, pB, p1, p2, p3]
         refine aK (i := 13) (oi := opX13) (v := .pointer (some ⟨xb, xo + (i - 1) * 4, none⟩)) hH ?_
         try simp only [pA, pB, p1, p2, p3]
         refine aT (i := 14) (oi := opX14) (v := .string y.nm) (fun w' hw => exec_load 9 _ rfl ⟨xb, xo + (i - 1) * 4, none⟩ (by kernel_rfl) (.string y.nm) (ld9 hw.2.2)) hH ?_
         try simp only [pA, pB, p1, p2, p3]
         refine aK (i := 15) (oi := opX15) (v := .pointer (some ⟨gk3, 0, none⟩)) hH ?_
         try simp only [pA, pB, p1, p2, p3]
         refine aT (i := 16) (oi := opX16) (v := .string x.nm) (fun w' hw => exec_load 9 _ rfl ⟨gk3, 0, none⟩ (by kernel_rfl) (.string x.nm) (ld9 (hw.2.1.cell 0))) hH ?_
         try simp only [pA, pB, p1, p2, p3]
         cases q6 : (ltN y.nm x.nm)
         ·skip
          refine aT (i := 17) (oi := opX17) (v := .bool true) (fun w' hw => exec_bin .geq 9 _ _ _ rfl (.string y.nm) (.string x.nm) (.bool true) (by kernel_rfl) (by kernel_rfl) (by kernel_rfl) (by rw [ltN_geq, q6]; try rfl)) hH ?_
          try simp only [pA, pB, p1, p2, p3]
          refine aK (i := 18) (oi := opX18) (v := .bool true) hH ?_
          try simp only [pA, pB, p1, p2, p3]
          refine aK (i := 19) (oi := opX19) (v := .bool true) hH ?_
          try simp only [pA, pB, p1, p2, p3]
          refine aK (i := 20) (oi := opX20) (v := .bool true) hH ?_
          try simp only [pA, pB, p1, p2, p3]
          refine aS (i := 21) (oi := opX21) hH ?_
          try simp only [pA, pB, p1, p2, p3]
          refine aS (i := 22) (oi := opX22) hH ?_
          try simp only [pA, pB, p1, p2, p3]
          refine aS (i := 23) (oi := opX23) hH ?_
          try simp only [pA, pB, p1, p2, p3]
          refine aS (i := 24) (oi := opX24) hH ?_
          try simp only [pA, pB, p1, p2, p3]
          refine aK (i := 25) (oi := opX25) (v := .bool true) hH ?_
          try simp only [pA, pB, p1, p2, p3]
          refine aK (i := 26) (oi := opX26) (v := .bool true) hH ?_
          try simp only [pA, pB, p1, p2, p3]
          refine aS (i := 27) (oi := opX27) hH ?_
          try simp only [pA, pB, p1, p2, p3]
          refine aS (i := 28) (oi := opX28) hH ?_
          try simp only [pA, pB, p1, p2, p3]
          refine aS (i := 29) (oi := opX29) hH ?_
          try simp only [pA, pB, p1, p2, p3]
          refine aS (i := 30) (oi := opX30) hH ?_
          try simp only [pA, pB, p1, p2, p3]
          refine aK (i := 31) (oi := opX31) (v := .bool true) hH ?_
          try simp only [pA, pB, p1, p2, p3]
          refine wpAnyH_done (by kernel_rfl) ?_ _
          try simp only [pA, pB, p1, p2, p3]
          clear hH
          have hv : entB es i = false := by rw [HEN.out]; simp [hid, q5, q6]
          go_upto_region 8 with fail
          refine WL.start ?_
          refine tK (.bool false) ?_
          try simp only [pA, pB, p1, p2, p3]
          refine WL.nil ?_
          try simp only [pA, pB, p1, p2, p3]
          have hv : bktB up es ls = false := HNo.out hv
          go_wp2
          rw [HC.out]
          exact ⟨by rw [hv]; rfl, HF.out.kept⟩
         ·skip
          refine aT (i := 17) (oi := opX17) (v := .bool false) (fun w' hw => exec_bin .geq 9 _ _ _ rfl (.string y.nm) (.string x.nm) (.bool false) (by kernel_rfl) (by kernel_rfl) (by kernel_rfl) (by rw [ltN_geq, q6]; try rfl)) hH ?_
          try simp only [pA, pB, p1, p2, p3]
          refine aK (i := 18) (oi := opX18) (v := .bool false) hH ?_
          try simp only [pA, pB, p1, p2, p3]
          refine aK (i := 19) (oi := opX19) (v := .bool false) hH ?_
          try simp only [pA, pB, p1, p2, p3]
          refine aK (i := 20) (oi := opX20) (v := .bool false) hH ?_
          try simp only [pA, pB, p1, p2, p3]
          refine aK (i := 21) (oi := opX21) (v := .pointer (some ⟨gk3, 1, none⟩)) hH ?_
          try simp only [pA, pB, p1, p2, p3]
          refine aT (i := 22) (oi := opX22) (v := .agg (#[.int .i64 x.f0, .int .i64 x.f1])) (fun w' hw => exec_load 29 _ rfl ⟨gk3, 1, none⟩ (by kernel_rfl) (.agg (#[.int .i64 x.f0, .int .i64 x.f1])) (ld27 (cs := En.cs x) hw.2.1 rfl rfl)) hH ?_
          try simp only [pA, pB, p1, p2, p3]
          cases q7 : (fileB x.f0 x.f1)
          ·skip
           refine any_call (i := 23) (o := opX23) rfl (by kernel_rfl) (by kernel_rfl) 21 #[.agg (#[.int .i64 x.f0, .int .i64 x.f1])] (by kernel_rfl) _ (file_any _ _ _) ?_
           rintro e wk7 ⟨rfl, hk⟩
           have hH2 : Box wk7 gk1 26 (Bv.cells ⟨up, ⟨(some ⟨xb, xo, none⟩), en, ec⟩, ⟨la, ln, lc⟩⟩) ∧ Box wk7 gk3 34 (En.cells x) ∧ wk7.cell? ⟨xb, xo + (i - 1) * 4, none⟩ = some (.string y.nm) := ⟨hH.1.kept hk (fun e => e), hH.2.1.kept hk (fun e => e), hk.cell hH.2.2 (fun e => e)⟩
           have HF : Hid (Fr No w (wk7) [(gk1, 26, Bv.cells ⟨up, ⟨(some ⟨xb, xo, none⟩), en, ec⟩, ⟨la, ln, lc⟩⟩), (gk3, 34, En.cells x)]) := HF.out.no hk
           clear hk
           refine ⟨.bool false, by rw [q7], hH2, fun hH => ?_⟩
           clear hH2
           try simp only [pA, pB, p1, p2, p3]
           refine aK (i := 24) (oi := opX24) (v := .bool true) hH ?_
           try simp only [pA, pB, p1, p2, p3]
           refine aK (i := 25) (oi := opX25) (v := .bool true) hH ?_
           try simp only [pA, pB, p1, p2, p3]
           refine aK (i := 26) (oi := opX26) (v := .bool true) hH ?_
           try simp only [pA, pB, p1, p2, p3]
           refine aS (i := 27) (oi := opX27) hH ?_
           try simp only [pA, pB, p1, p2, p3]
           refine aS (i := 28) (oi := opX28) hH ?_
           try simp only [pA, pB, p1, p2, p3]
           refine aS (i := 29) (oi := opX29) hH ?_
           try simp only [pA, pB, p1, p2, p3]
           refine aS (i := 30) (oi := opX30) hH ?_
           try simp only [pA, pB, p1, p2, p3]
           refine aK (i := 31) (oi := opX31) (v := .bool true) hH ?_
           try simp only [pA, pB, p1, p2, p3]
           refine wpAnyH_done (by kernel_rfl) ?_ _
           try simp only [pA, pB, p1, p2, p3]
           clear hH
           have hv : entB es i = false := by rw [HEN.out]; simp [hid, q5, q6, q7]
           go_upto_region 8 with fail
           refine WL.start ?_
           refine tK (.bool false) ?_
           try simp only [pA, pB, p1, p2, p3]
           refine WL.nil ?_
           try simp only [pA, pB, p1, p2, p3]
           have hv : bktB up es ls = false := HNo.out hv
           go_wp2
           rw [HC.out]
           exact ⟨by rw [hv]; rfl, HF.out.kept⟩
          ·skip
           refine any_call (i := 23) (o := opX23) rfl (by kernel_rfl) (by kernel_rfl) 21 #[.agg (#[.int .i64 x.f0, .int .i64 x.f1])] (by kernel_rfl) _ (file_any _ _ _) ?_
           rintro e wk8 ⟨rfl, hk⟩
           have hH2 : Box wk8 gk1 26 (Bv.cells ⟨up, ⟨(some ⟨xb, xo, none⟩), en, ec⟩, ⟨la, ln, lc⟩⟩) ∧ Box wk8 gk3 34 (En.cells x) ∧ wk8.cell? ⟨xb, xo + (i - 1) * 4, none⟩ = some (.string y.nm) := ⟨hH.1.kept hk (fun e => e), hH.2.1.kept hk (fun e => e), hk.cell hH.2.2 (fun e => e)⟩
           have HF : Hid (Fr No w (wk8) [(gk1, 26, Bv.cells ⟨up, ⟨(some ⟨xb, xo, none⟩), en, ec⟩, ⟨la, ln, lc⟩⟩), (gk3, 34, En.cells x)]) := HF.out.no hk
           clear hk
           refine ⟨.bool true, by rw [q7], hH2, fun hH => ?_⟩
           clear hH2
           try simp only [pA, pB, p1, p2, p3]
           refine aK (i := 24) (oi := opX24) (v := .bool false) hH ?_
           try simp only [pA, pB, p1, p2, p3]
           refine aK (i := 25) (oi := opX25) (v := .bool false) hH ?_
           try simp only [pA, pB, p1, p2, p3]
           refine aK (i := 26) (oi := opX26) (v := .bool false) hH ?_
           try simp only [pA, pB, p1, p2, p3]
           refine aK (i := 27) (oi := opX27) (v := .pointer (some ⟨gk3, 3, none⟩)) hH ?_
           try simp only [pA, pB, p1, p2, p3]
           refine aT (i := 28) (oi := opX28) (v := .int .i64 x.sz) (fun w' hw => exec_load 3 _ rfl ⟨gk3, 3, none⟩ (by kernel_rfl) (.int .i64 x.sz) (ld3 (hw.2.1.cell 3))) hH ?_
           try simp only [pA, pB, p1, p2, p3]
           cases q8 : (inB x.sz 0 4294967296)
           ·skip
            refine any_call (i := 29) (o := opX29) rfl (by kernel_rfl) (by kernel_rfl) 19 #[.int .i64 x.sz, .int .i64 0, .int .i64 4294967296] (by kernel_rfl) _ (within_any _ _ _ _) ?_
            rintro e wq ⟨rfl, hwq⟩
            rw [hwq]
            clear hwq wq
            refine ⟨.bool false, by rw [q8], hH, fun hH => ?_⟩
            try simp only [pA, pB, p1, p2, p3]
            refine aK (i := 30) (oi := opX30) (v := .bool true) hH ?_
            try simp only [pA, pB, p1, p2, p3]
            refine aK (i := 31) (oi := opX31) (v := .bool true) hH ?_
            try simp only [pA, pB, p1, p2, p3]
            refine wpAnyH_done (by kernel_rfl) ?_ _
            try simp only [pA, pB, p1, p2, p3]
            clear hH
            have hv : entB es i = false := by rw [HEN.out]; simp [hid, q5, q6, q7, q8]
            go_upto_region 8 with fail
            refine WL.start ?_
            refine tK (.bool false) ?_
            try simp only [pA, pB, p1, p2, p3]
            refine WL.nil ?_
            try simp only [pA, pB, p1, p2, p3]
            have hv : bktB up es ls = false := HNo.out hv
            go_wp2
            rw [HC.out]
            exact ⟨by rw [hv]; rfl, HF.out.kept⟩
           ·skip
            refine any_call (i := 29) (o := opX29) rfl (by kernel_rfl) (by kernel_rfl) 19 #[.int .i64 x.sz, .int .i64 0, .int .i64 4294967296] (by kernel_rfl) _ (within_any _ _ _ _) ?_
            rintro e wq ⟨rfl, hwq⟩
            rw [hwq]
            clear hwq wq
            refine ⟨.bool true, by rw [q8], hH, fun hH => ?_⟩
            try simp only [pA, pB, p1, p2, p3]
            refine aK (i := 30) (oi := opX30) (v := .bool false) hH ?_
            try simp only [pA, pB, p1, p2, p3]
            refine aK (i := 31) (oi := opX31) (v := .bool false) hH ?_
            try simp only [pA, pB, p1, p2, p3]
            refine wpAnyH_done (by kernel_rfl) ?_ _
            try simp only [pA, pB, p1, p2, p3]
            clear hH
            have hv : entB es i = true := by rw [HEN.out]; simp [hid, q5, q6, q7, q8]
            have HP2 : Hid (∀ j, j < i + 1 → entB es j = true) := HYes.out hv
            have HF : Hid (Fr No w wk8 [(gk1, 26, Bv.cells ⟨up, ⟨(some ⟨xb, xo, none⟩), en, ec⟩, ⟨la, ln, lc⟩⟩)]) := (show Fr No w wk8 ([(gk1, 26, Bv.cells ⟨up, ⟨(some ⟨xb, xo, none⟩), en, ec⟩, ⟨la, ln, lc⟩⟩)] ++ [(gk3, 34, En.cells x)]) from HF.out).front
            clear HEN HNo HYes HP hv hid q5 q6 q7 q8
            go_wp2
            go_roundw
            case rel => exact ⟨i + 1, by go_num, by omega, HP2, HF⟩
            case measure => simp [intOf]; omega
       ·skip
        have hid : decide (i = 0) = true := by simp; omega
        go_upto_region 7 with fail
        refine wp_region_held_drew (S := fun w' => Box w' gk1 26 (Bv.cells ⟨up, ⟨(some ⟨xb, xo, none⟩), en, ec⟩, ⟨la, ln, lc⟩⟩) ∧ Box w' gk3 34 (En.cells x)) rfl ⟨HF.out.box 0 _ _ _ rfl, HF.out.box 1 _ _ _ rfl⟩ (fun hH => ?_)
        have HF : Hid (Fr No w (wk5.drew) [(gk1, 26, Bv.cells ⟨up, ⟨(some ⟨xb, xo, none⟩), en, ec⟩, ⟨la, ln, lc⟩⟩), (gk3, 34, En.cells x)]) := HF.out.drew
        generalize wk5.drew = wk9 at HF hH ⊢
        refine aK (i := 0) (oi := opX0) (v := .pointer (some ⟨gk3, 0, none⟩)) hH ?_
        try simp only [pA, pB, p1, p2, p3]
        refine aT (i := 1) (oi := opX1) (v := .string x.nm) (fun w' hw => exec_load 9 _ rfl ⟨gk3, 0, none⟩ (by kernel_rfl) (.string x.nm) (ld9 (hw.2.cell 0))) hH ?_
        try simp only [pA, pB, p1, p2, p3]
        cases q9 : (nameB x.nm)
        ·skip
         refine any_call (i := 2) (o := opX2) rfl (by kernel_rfl) (by kernel_rfl) 20 #[.string x.nm] (by kernel_rfl) _ (name_any _ _) ?_
         rintro e wq ⟨rfl, hwq⟩
         rw [hwq]
         clear hwq wq
         refine ⟨.bool false, by rw [q9], hH, fun hH => ?_⟩
         try simp only [pA, pB, p1, p2, p3]
         refine aK (i := 3) (oi := opX3) (v := .bool true) hH ?_
         try simp only [pA, pB, p1, p2, p3]
         refine aK (i := 4) (oi := opX4) (v := .bool true) hH ?_
         try simp only [pA, pB, p1, p2, p3]
         refine aS (i := 5) (oi := opX5) hH ?_
         try simp only [pA, pB, p1, p2, p3]
         refine aS (i := 6) (oi := opX6) hH ?_
         try simp only [pA, pB, p1, p2, p3]
         refine aS (i := 7) (oi := opX7) hH ?_
         try simp only [pA, pB, p1, p2, p3]
         refine aS (i := 8) (oi := opX8) hH ?_
         try simp only [pA, pB, p1, p2, p3]
         refine aS (i := 9) (oi := opX9) hH ?_
         try simp only [pA, pB, p1, p2, p3]
         refine aS (i := 10) (oi := opX10) hH ?_
         try simp only [pA, pB, p1, p2, p3]
         refine aS (i := 11) (oi := opX11) hH ?_
         try simp only [pA, pB, p1, p2, p3]
         refine aS (i := 12) (oi := opX12) hH ?_
         try simp only [pA, pB, p1, p2, p3]
         refine aS (i := 13) (oi := opX13) hH ?_
         try simp only [pA, pB, p1, p2, p3]
         refine aS (i := 14) (oi := opX14) hH ?_
         try simp only [pA, pB, p1, p2, p3]
         refine aS (i := 15) (oi := opX15) hH ?_
         try simp only [pA, pB, p1, p2, p3]
         refine aS (i := 16) (oi := opX16) hH ?_
         try simp only [pA, pB, p1, p2, p3]
         refine aS (i := 17) (oi := opX17) hH ?_
         try simp only [pA, pB, p1, p2, p3]
         refine aS (i := 18) (oi := opX18) hH ?_
         try simp only [pA, pB, p1, p2, p3]
         refine aK (i := 19) (oi := opX19) (v := .bool true) hH ?_
         try simp only [pA, pB, p1, p2, p3]
         refine aK (i := 20) (oi := opX20) (v := .bool true) hH ?_
         try simp only [pA, pB, p1, p2, p3]
         refine aS (i := 21) (oi := opX21) hH ?_
         try simp only [pA, pB, p1, p2, p3]
         refine aS (i := 22) (oi := opX22) hH ?_
         try simp only [pA, pB, p1, p2, p3]
         refine aS (i := 23) (oi := opX23) hH ?_
         try simp only [pA, pB, p1, p2, p3]
         refine aS (i := 24) (oi := opX24) hH ?_
         try simp only [pA, pB, p1, p2, p3]
         refine aK (i := 25) (oi := opX25) (v := .bool true) hH ?_
         try simp only [pA, pB, p1, p2, p3]
         refine aK (i := 26) (oi := opX26) (v := .bool true) hH ?_
         try simp only [pA, pB, p1, p2, p3]
         refine aS (i := 27) (oi := opX27) hH ?_
         try simp only [pA, pB, p1, p2, p3]
         refine aS (i := 28) (oi := opX28) hH ?_
         try simp only [pA, pB, p1, p2, p3]
         refine aS (i := 29) (oi := opX29) hH ?_
         try simp only [pA, pB, p1, p2, p3]
         refine aS (i := 30) (oi := opX30) hH ?_
         try simp only [pA, pB, p1, p2, p3]
         refine aK (i := 31) (oi := opX31) (v := .bool true) hH ?_
         try simp only [pA, pB, p1, p2, p3]
         refine wpAnyH_done (by kernel_rfl) ?_ _
         try simp only [pA, pB, p1, p2, p3]
         clear hH
         have hv : entB es i = false := by rw [HEN.out]; simp [hid, q9]
         go_upto_region 8 with fail
         refine WL.start ?_
         refine tK (.bool false) ?_
         try simp only [pA, pB, p1, p2, p3]
         refine WL.nil ?_
         try simp only [pA, pB, p1, p2, p3]
         have hv : bktB up es ls = false := HNo.out hv
         go_wp2
         rw [HC.out]
         exact ⟨by rw [hv]; rfl, HF.out.kept⟩
        ·skip
         refine any_call (i := 2) (o := opX2) rfl (by kernel_rfl) (by kernel_rfl) 20 #[.string x.nm] (by kernel_rfl) _ (name_any _ _) ?_
         rintro e wq ⟨rfl, hwq⟩
         rw [hwq]
         clear hwq wq
         refine ⟨.bool true, by rw [q9], hH, fun hH => ?_⟩
         try simp only [pA, pB, p1, p2, p3]
         refine aK (i := 3) (oi := opX3) (v := .bool false) hH ?_
         try simp only [pA, pB, p1, p2, p3]
         refine aK (i := 4) (oi := opX4) (v := .bool false) hH ?_
         try simp only [pA, pB, p1, p2, p3]
         refine aK (i := 5) (oi := opX5) (v := .int .i64 ((i : Nat) : Int)) hH ?_
         try simp only [pA, pB, p1, p2, p3]
         refine aT (i := 6) (oi := opX6) (v := .bool false) (fun w' hw => exec_bin .gtr 3 _ _ _ rfl (.int .i64 ((i : Nat) : Int)) (.int .i64 0) (.bool false) (by kernel_rfl) (by kernel_rfl) (by kernel_rfl) (by rw [b_gtr, decide_eq_false (by omega)])) hH ?_
         try simp only [pA, pB, p1, p2, p3]
         refine aK (i := 7) (oi := opX7) (v := .bool false) hH ?_
         try simp only [pA, pB, p1, p2, p3]
         refine aS (i := 8) (oi := opX8) hH ?_
         try simp only [pA, pB, p1, p2, p3]
         refine aS (i := 9) (oi := opX9) hH ?_
         try simp only [pA, pB, p1, p2, p3]
         refine aS (i := 10) (oi := opX10) hH ?_
         try simp only [pA, pB, p1, p2, p3]
         refine aS (i := 11) (oi := opX11) hH ?_
         try simp only [pA, pB, p1, p2, p3]
         refine aS (i := 12) (oi := opX12) hH ?_
         try simp only [pA, pB, p1, p2, p3]
         refine aS (i := 13) (oi := opX13) hH ?_
         try simp only [pA, pB, p1, p2, p3]
         refine aS (i := 14) (oi := opX14) hH ?_
         try simp only [pA, pB, p1, p2, p3]
         refine aS (i := 15) (oi := opX15) hH ?_
         try simp only [pA, pB, p1, p2, p3]
         refine aS (i := 16) (oi := opX16) hH ?_
         try simp only [pA, pB, p1, p2, p3]
         refine aS (i := 17) (oi := opX17) hH ?_
         try simp only [pA, pB, p1, p2, p3]
         refine aK (i := 18) (oi := opX18) (v := .bool false) hH ?_
         try simp only [pA, pB, p1, p2, p3]
         refine aK (i := 19) (oi := opX19) (v := .bool false) hH ?_
         try simp only [pA, pB, p1, p2, p3]
         refine aK (i := 20) (oi := opX20) (v := .bool false) hH ?_
         try simp only [pA, pB, p1, p2, p3]
         refine aK (i := 21) (oi := opX21) (v := .pointer (some ⟨gk3, 1, none⟩)) hH ?_
         try simp only [pA, pB, p1, p2, p3]
         refine aT (i := 22) (oi := opX22) (v := .agg (#[.int .i64 x.f0, .int .i64 x.f1])) (fun w' hw => exec_load 29 _ rfl ⟨gk3, 1, none⟩ (by kernel_rfl) (.agg (#[.int .i64 x.f0, .int .i64 x.f1])) (ld27 (cs := En.cs x) hw.2 rfl rfl)) hH ?_
         try simp only [pA, pB, p1, p2, p3]
         cases q10 : (fileB x.f0 x.f1)
         ·skip
          refine any_call (i := 23) (o := opX23) rfl (by kernel_rfl) (by kernel_rfl) 21 #[.agg (#[.int .i64 x.f0, .int .i64 x.f1])] (by kernel_rfl) _ (file_any _ _ _) ?_
          rintro e wk10 ⟨rfl, hk⟩
          have hH2 : Box wk10 gk1 26 (Bv.cells ⟨up, ⟨(some ⟨xb, xo, none⟩), en, ec⟩, ⟨la, ln, lc⟩⟩) ∧ Box wk10 gk3 34 (En.cells x) := ⟨hH.1.kept hk (fun e => e), hH.2.kept hk (fun e => e)⟩
          have HF : Hid (Fr No w (wk10) [(gk1, 26, Bv.cells ⟨up, ⟨(some ⟨xb, xo, none⟩), en, ec⟩, ⟨la, ln, lc⟩⟩), (gk3, 34, En.cells x)]) := HF.out.no hk
          clear hk
          refine ⟨.bool false, by rw [q10], hH2, fun hH => ?_⟩
          clear hH2
          try simp only [pA, pB, p1, p2, p3]
          refine aK (i := 24) (oi := opX24) (v := .bool true) hH ?_
          try simp only [pA, pB, p1, p2, p3]
          refine aK (i := 25) (oi := opX25) (v := .bool true) hH ?_
          try simp only [pA, pB, p1, p2, p3]
          refine aK (i := 26) (oi := opX26) (v := .bool true) hH ?_
          try simp only [pA, pB, p1, p2, p3]
          refine aS (i := 27) (oi := opX27) hH ?_
          try simp only [pA, pB, p1, p2, p3]
          refine aS (i := 28) (oi := opX28) hH ?_
          try simp only [pA, pB, p1, p2, p3]
          refine aS (i := 29) (oi := opX29) hH ?_
          try simp only [pA, pB, p1, p2, p3]
          refine aS (i := 30) (oi := opX30) hH ?_
          try simp only [pA, pB, p1, p2, p3]
          refine aK (i := 31) (oi := opX31) (v := .bool true) hH ?_
          try simp only [pA, pB, p1, p2, p3]
          refine wpAnyH_done (by kernel_rfl) ?_ _
          try simp only [pA, pB, p1, p2, p3]
          clear hH
          have hv : entB es i = false := by rw [HEN.out]; simp [hid, q9, q10]
          go_upto_region 8 with fail
          refine WL.start ?_
          refine tK (.bool false) ?_
          try simp only [pA, pB, p1, p2, p3]
          refine WL.nil ?_
          try simp only [pA, pB, p1, p2, p3]
          have hv : bktB up es ls = false := HNo.out hv
          go_wp2
          rw [HC.out]
          exact ⟨by rw [hv]; rfl, HF.out.kept⟩
         ·skip
          refine any_call (i := 23) (o := opX23) rfl (by kernel_rfl) (by kernel_rfl) 21 #[.agg (#[.int .i64 x.f0, .int .i64 x.f1])] (by kernel_rfl) _ (file_any _ _ _) ?_
          rintro e wk11 ⟨rfl, hk⟩
          have hH2 : Box wk11 gk1 26 (Bv.cells ⟨up, ⟨(some ⟨xb, xo, none⟩), en, ec⟩, ⟨la, ln, lc⟩⟩) ∧ Box wk11 gk3 34 (En.cells x) := ⟨hH.1.kept hk (fun e => e), hH.2.kept hk (fun e => e)⟩
          have HF : Hid (Fr No w (wk11) [(gk1, 26, Bv.cells ⟨up, ⟨(some ⟨xb, xo, none⟩), en, ec⟩, ⟨la, ln, lc⟩⟩), (gk3, 34, En.cells x)]) := HF.out.no hk
          clear hk
          refine ⟨.bool true, by rw [q10], hH2, fun hH => ?_⟩
          clear hH2
          try simp only [pA, pB, p1, p2, p3]
          refine aK (i := 24) (oi := opX24) (v := .bool false) hH ?_
          try simp only [pA, pB, p1, p2, p3]
          refine aK (i := 25) (oi := opX25) (v := .bool false) hH ?_
          try simp only [pA, pB, p1, p2, p3]
          refine aK (i := 26) (oi := opX26) (v := .bool false) hH ?_
          try simp only [pA, pB, p1, p2, p3]
          refine aK (i := 27) (oi := opX27) (v := .pointer (some ⟨gk3, 3, none⟩)) hH ?_
          try simp only [pA, pB, p1, p2, p3]
          refine aT (i := 28) (oi := opX28) (v := .int .i64 x.sz) (fun w' hw => exec_load 3 _ rfl ⟨gk3, 3, none⟩ (by kernel_rfl) (.int .i64 x.sz) (ld3 (hw.2.cell 3))) hH ?_
          try simp only [pA, pB, p1, p2, p3]
          cases q11 : (inB x.sz 0 4294967296)
          ·skip
           refine any_call (i := 29) (o := opX29) rfl (by kernel_rfl) (by kernel_rfl) 19 #[.int .i64 x.sz, .int .i64 0, .int .i64 4294967296] (by kernel_rfl) _ (within_any _ _ _ _) ?_
           rintro e wq ⟨rfl, hwq⟩
           rw [hwq]
           clear hwq wq
           refine ⟨.bool false, by rw [q11], hH, fun hH => ?_⟩
           try simp only [pA, pB, p1, p2, p3]
           refine aK (i := 30) (oi := opX30) (v := .bool true) hH ?_
           try simp only [pA, pB, p1, p2, p3]
           refine aK (i := 31) (oi := opX31) (v := .bool true) hH ?_
           try simp only [pA, pB, p1, p2, p3]
           refine wpAnyH_done (by kernel_rfl) ?_ _
           try simp only [pA, pB, p1, p2, p3]
           clear hH
           have hv : entB es i = false := by rw [HEN.out]; simp [hid, q9, q10, q11]
           go_upto_region 8 with fail
           refine WL.start ?_
           refine tK (.bool false) ?_
           try simp only [pA, pB, p1, p2, p3]
           refine WL.nil ?_
           try simp only [pA, pB, p1, p2, p3]
           have hv : bktB up es ls = false := HNo.out hv
           go_wp2
           rw [HC.out]
           exact ⟨by rw [hv]; rfl, HF.out.kept⟩
          ·skip
           refine any_call (i := 29) (o := opX29) rfl (by kernel_rfl) (by kernel_rfl) 19 #[.int .i64 x.sz, .int .i64 0, .int .i64 4294967296] (by kernel_rfl) _ (within_any _ _ _ _) ?_
           rintro e wq ⟨rfl, hwq⟩
           rw [hwq]
           clear hwq wq
           refine ⟨.bool true, by rw [q11], hH, fun hH => ?_⟩
           try simp only [pA, pB, p1, p2, p3]
           refine aK (i := 30) (oi := opX30) (v := .bool false) hH ?_
           try simp only [pA, pB, p1, p2, p3]
           refine aK (i := 31) (oi := opX31) (v := .bool false) hH ?_
           try simp only [pA, pB, p1, p2, p3]
           refine wpAnyH_done (by kernel_rfl) ?_ _
           try simp only [pA, pB, p1, p2, p3]
           clear hH
           have hv : entB es i = true := by rw [HEN.out]; simp [hid, q9, q10, q11]
           have HP2 : Hid (∀ j, j < i + 1 → entB es j = true) := HYes.out hv
           have HF : Hid (Fr No w wk11 [(gk1, 26, Bv.cells ⟨up, ⟨(some ⟨xb, xo, none⟩), en, ec⟩, ⟨la, ln, lc⟩⟩)]) := (show Fr No w wk11 ([(gk1, 26, Bv.cells ⟨up, ⟨(some ⟨xb, xo, none⟩), en, ec⟩, ⟨la, ln, lc⟩⟩)] ++ [(gk3, 34, En.cells x)]) from HF.out).front
           clear HEN HNo HYes HP hv hid q9 q10 q11
           go_wp2
           go_roundw
           case rel => exact ⟨i + 1, by go_num, by omega, HP2, HF⟩
           case measure => simp [intOf]; omega
      ·skip
       have HPE : Hid (∀ j, j < en → entB es j = true) := fun j hj => HP.out j (by omega)
       clear HP
       go_upto_region 4 with fail
       refine WL.start ?_
       refine tK (.int .i64 ((i : Nat) : Int)) ?_
       try simp only [pA, pB, p1, p2, p3]
       refine tK (.pointer (some ⟨gk1, 1, none⟩)) ?_
       try simp only [pA, pB, p1, p2, p3]
       refine tW (.slice ea en ec) (exec_load 23 _ rfl ⟨gk1, 1, none⟩ (by kernel_rfl) (.slice ea en ec) (ld22 ((HF.out.box 0 _ _ _ rfl).cell 1))) ?_
       try simp only [pA, pB, p1, p2, p3]
       refine tK (.int .i64 ((en : Nat) : Int)) ?_
       try simp only [pA, pB, p1, p2, p3]
       refine tW (.bool false) (exec_bin .lss 3 _ _ _ rfl (.int .i64 ((i : Nat) : Int)) (.int .i64 ((en : Nat) : Int)) (.bool false) (by kernel_rfl) (by kernel_rfl) (by kernel_rfl) (by rw [b_lss, decide_eq_false (by omega)])) ?_
       try simp only [pA, pB, p1, p2, p3]
       refine WL.nil ?_
       try simp only [pA, pB, p1, p2, p3]
       go_upto_region 9 with fail
       refine WL.start ?_
       refine tK (.int .i64 0) ?_
       try simp only [pA, pB, p1, p2, p3]
       refine WL.nil ?_
       try simp only [pA, pB, p1, p2, p3]
       go_wp2
       go_loopw [5] (fun v wr => ∃ i : Nat, v = .int .i64 ((i : Nat) : Int) ∧ i ≤ ln ∧ Hid (∀ j, j < i → lasB up ls j = true) ∧ Hid (Fr No w wr [(gk1, 26, Bv.cells ⟨up, ⟨ea, en, ec⟩, ⟨la, ln, lc⟩⟩)])) (fun i _ => ln - (intOf i).toNat)
       case atStart => exact ⟨0, by go_num, by omega, fun j hj => absurd hj (Nat.not_lt_zero _), HF⟩
       case round =>
         obtain ⟨i, rfl, hi, HP, HF⟩ := hrel
         by_cases hlt : i < ln
         ·skip
          obtain ⟨xb, xo, e0, hcx⟩ := Ls.at HL.out (i := i) (by rw [HLL.out]; exact hlt)
          subst e0
          have HCX : Hid (∀ (j : Nat) v, (lAt ls i).cs[j]? = some v → w.cell? ⟨xb, xo + i * 7 + j, none⟩ = some v) := hcx
          have HCY : Hid (0 < i → w.cell? ⟨xb, xo + (i - 1) * 7, none⟩ = some (.int .i64 (lAt ls (i - 1)).cl)) := fun h => by
            obtain ⟨b', o', e1, h1⟩ := Ls.at HL.out (i := i - 1) (by rw [HLL.out]; omega)
            cases e1
            have := h1 0 _ rfl
            simpa using this
          have HEN : Hid (lasB up ls i = (inB (lAt ls i).cl 1 255 && inB (lAt ls i).op 1 1099511627776 && inB (lAt ls i).ins 1 up && (decide (i = 0) || !decide ((lAt ls i).cl ≤ (lAt ls (i - 1)).cl)) && lastB (lAt ls i))) := by rw [← dec_flip]; rfl
          have HNo : Hid (lasB up ls i = false → bktB up es ls = false) := HB6.out i hlt
          have HYes : Hid (lasB up ls i = true → ∀ j, j < i + 1 → lasB up ls j = true) := fun h j hj => by
            by_cases e : j = i
            · rw [e]; exact h
            · exact HP.out j (by omega)
          clear hcx
          generalize lAt ls i = x at HCX HEN
          generalize lAt ls (i - 1) = y at HCY HEN
          go_upto_region 10 with fail
          refine WL.start ?_
          refine tK (.int .i64 ((i : Nat) : Int)) ?_
          try simp only [pA, pB, p1, p2, p3]
          refine tK (.pointer (some ⟨gk1, 2, none⟩)) ?_
          try simp only [pA, pB, p1, p2, p3]
          refine tW (.slice (some ⟨xb, xo, none⟩) ln lc) (exec_load 24 _ rfl ⟨gk1, 2, none⟩ (by kernel_rfl) (.slice (some ⟨xb, xo, none⟩) ln lc) (ld23 ((HF.out.box 0 _ _ _ rfl).cell 2))) ?_
          try simp only [pA, pB, p1, p2, p3]
          refine tK (.int .i64 ((ln : Nat) : Int)) ?_
          try simp only [pA, pB, p1, p2, p3]
          refine tW (.bool true) (exec_bin .lss 3 _ _ _ rfl (.int .i64 ((i : Nat) : Int)) (.int .i64 ((ln : Nat) : Int)) (.bool true) (by kernel_rfl) (by kernel_rfl) (by kernel_rfl) (by rw [b_lss, decide_eq_true (by omega)])) ?_
          try simp only [pA, pB, p1, p2, p3]
          refine WL.nil ?_
          try simp only [pA, pB, p1, p2, p3]
          go_upto_region 12 with fail
          refine WL.start ?_
          refine tK (.pointer (some ⟨gk1, 2, none⟩)) ?_
          try simp only [pA, pB, p1, p2, p3]
          refine tW (.slice (some ⟨xb, xo, none⟩) ln lc) (exec_load 24 _ rfl ⟨gk1, 2, none⟩ (by kernel_rfl) (.slice (some ⟨xb, xo, none⟩) ln lc) (ld23 ((HF.out.box 0 _ _ _ rfl).cell 2))) ?_
          try simp only [pA, pB, p1, p2, p3]
          refine tK (.int .i64 ((i : Nat) : Int)) ?_
          try simp only [pA, pB, p1, p2, p3]
          refine tW (.pointer (some ⟨xb, xo + i * 7, none⟩)) (exec_ixA 24 7 Try.und23e Try.size23e _ _ rfl xb xo ln lc i (by kernel_rfl) (by kernel_rfl) (by omega)) ?_
          try simp only [pA, pB, p1, p2, p3]
          refine tW (.agg (La.cells x)) (exec_load 67 _ rfl ⟨xb, xo + i * 7, none⟩ (by kernel_rfl) (.agg (La.cells x)) (load_L (fun j v h => HF.out.kept.cell (HCX.out j v h) (fun e => e)))) ?_
          try simp only [pA, pB, p1, p2, p3]
          refine wp_runW (.pointer (some ⟨wr.heap.size, 0, none⟩)) (wr.alloc (.cells (La.cells laZ) 67)) (exec_alloc 67 rfl (La.cells laZ) zero64) (by kernel_rfl) ?_
          try simp only [pA, pB, p1, p2, p3]
          have HF : Hid (Fr No w (wr.alloc (.cells (La.cells laZ) 67)) [(gk1, 26, Bv.cells ⟨up, ⟨ea, en, ec⟩, ⟨(some ⟨xb, xo, none⟩), ln, lc⟩⟩), (wr.heap.size, 67, La.cells laZ)]) := HF.out.alloc _ _
          generalize wr.alloc (.cells (La.cells laZ) 67) = wk13 at HF ⊢
          generalize wr.heap.size = gk12 at HF ⊢
          refine wp_storeW 67 _ _ rfl ⟨gk12, 0, none⟩ (.agg (La.cells x)) (by kernel_rfl) (by kernel_rfl) (wk13.setRow gk12 (La.cells x)) (st64 (HF.out.box 1 _ _ _ rfl) rfl) (by kernel_rfl) ?_
          try simp only [pA, pB, p1, p2, p3]
          have HF : Hid (Fr No w (wk13.setRow gk12 (La.cells x)) [(gk1, 26, Bv.cells ⟨up, ⟨ea, en, ec⟩, ⟨(some ⟨xb, xo, none⟩), ln, lc⟩⟩), (gk12, 67, La.cells x)]) := HF.out.set 1 rfl _
          generalize wk13.setRow gk12 (La.cells x) = wk14 at HF ⊢
          refine WL.nil ?_
          try simp only [pA, pB, p1, p2, p3]
          by_cases hi0 : 0 < i
          ·skip
           have HCY := HCY.out hi0
           have HCY : Hid (_ = _) := HCY
           have hid : decide (i = 0) = false := by simp; omega
           go_upto_region 13 with fail
           refine wp_region_held_drew (S := fun w' => Box w' gk1 26 (Bv.cells ⟨up, ⟨ea, en, ec⟩, ⟨(some ⟨xb, xo, none⟩), ln, lc⟩⟩) ∧ Box w' gk12 67 (La.cells x) ∧ w'.cell? ⟨xb, xo + (i - 1) * 7, none⟩ = some (.int .i64 y.cl)) rfl ⟨HF.out.box 0 _ _ _ rfl, HF.out.box 1 _ _ _ rfl, HF.out.kept.drew.cell HCY.out (fun e => e)⟩ (fun hH => ?_)
           have HF : Hid (Fr No w (wk14.drew) [(gk1, 26, Bv.cells ⟨up, ⟨ea, en, ec⟩, ⟨(some ⟨xb, xo, none⟩), ln, lc⟩⟩), (gk12, 67, La.cells x)]) := HF.out.drew
           generalize wk14.drew = wk15 at HF hH ⊢
           refine aK (i := 0) (oi := opX32) (v := .pointer (some ⟨gk12, 0, none⟩)) hH ?_
           try simp only [pA, pB, p1, p2, p3]
           refine aT (i := 1) (oi := opX33) (v := .int .i64 x.cl) (fun w' hw => exec_load 3 _ rfl ⟨gk12, 0, none⟩ (by kernel_rfl) (.int .i64 x.cl) (ld3 (hw.2.1.cell 0))) hH ?_
           try simp only [pA, pB, p1, p2, p3]
           cases q12 : (inB x.cl 1 255)
           ·skip
            refine any_call (i := 2) (o := opX34) rfl (by kernel_rfl) (by kernel_rfl) 19 #[.int .i64 x.cl, .int .i64 1, .int .i64 255] (by kernel_rfl) _ (within_any _ _ _ _) ?_
            rintro e wq ⟨rfl, hwq⟩
            rw [hwq]
            clear hwq wq
            refine ⟨.bool false, by rw [q12], hH, fun hH => ?_⟩
            try simp only [pA, pB, p1, p2, p3]
            refine aK (i := 3) (oi := opX35) (v := .bool true) hH ?_
            try simp only [pA, pB, p1, p2, p3]
            refine aK (i := 4) (oi := opX36) (v := .bool true) hH ?_
            try simp only [pA, pB, p1, p2, p3]
            refine aS (i := 5) (oi := opX37) hH ?_
            try simp only [pA, pB, p1, p2, p3]
            refine aS (i := 6) (oi := opX38) hH ?_
            try simp only [pA, pB, p1, p2, p3]
            refine aS (i := 7) (oi := opX39) hH ?_
            try simp only [pA, pB, p1, p2, p3]
            refine aS (i := 8) (oi := opX40) hH ?_
            try simp only [pA, pB, p1, p2, p3]
            refine aK (i := 9) (oi := opX41) (v := .bool true) hH ?_
            try simp only [pA, pB, p1, p2, p3]
            refine aK (i := 10) (oi := opX42) (v := .bool true) hH ?_
            try simp only [pA, pB, p1, p2, p3]
            refine aS (i := 11) (oi := opX43) hH ?_
            try simp only [pA, pB, p1, p2, p3]
            refine aS (i := 12) (oi := opX44) hH ?_
            try simp only [pA, pB, p1, p2, p3]
            refine aS (i := 13) (oi := opX45) hH ?_
            try simp only [pA, pB, p1, p2, p3]
            refine aS (i := 14) (oi := opX46) hH ?_
            try simp only [pA, pB, p1, p2, p3]
            refine aS (i := 15) (oi := opX47) hH ?_
            try simp only [pA, pB, p1, p2, p3]
            refine aS (i := 16) (oi := opX48) hH ?_
            try simp only [pA, pB, p1, p2, p3]
            refine aK (i := 17) (oi := opX49) (v := .bool true) hH ?_
            try simp only [pA, pB, p1, p2, p3]
            refine aK (i := 18) (oi := opX50) (v := .bool true) hH ?_
            try simp only [pA, pB, p1, p2, p3]
            refine aS (i := 19) (oi := opX51) hH ?_
            try simp only [pA, pB, p1, p2, p3]
            refine aS (i := 20) (oi := opX52) hH ?_
            try simp only [pA, pB, p1, p2, p3]
            refine aS (i := 21) (oi := opX53) hH ?_
            try simp only [pA, pB, p1, p2, p3]
            refine aS (i := 22) (oi := opX54) hH ?_
            try simp only [pA, pB, p1, p2, p3]
            refine aS (i := 23) (oi := opX55) hH ?_
            try simp only [pA, pB, p1, p2, p3]
            refine aS (i := 24) (oi := opX56) hH ?_
            try simp only [pA, pB, p1, p2, p3]
            refine aS (i := 25) (oi := opX57) hH ?_
            try simp only [pA, pB, p1, p2, p3]
            refine aS (i := 26) (oi := opX58) hH ?_
            try simp only [pA, pB, p1, p2, p3]
            refine aS (i := 27) (oi := opX59) hH ?_
            try simp only [pA, pB, p1, p2, p3]
            refine aS (i := 28) (oi := opX60) hH ?_
            try simp only [pA, pB, p1, p2, p3]
            refine aS (i := 29) (oi := opX61) hH ?_
            try simp only [pA, pB, p1, p2, p3]
            refine aS (i := 30) (oi := opX62) hH ?_
            try simp only [pA, pB, p1, p2, p3]
            refine aS (i := 31) (oi := opX63) hH ?_
            try simp only [pA, pB, p1, p2, p3]
            refine aS (i := 32) (oi := opX64) hH ?_
            try simp only [pA, pB, p1, p2, p3]
            refine aK (i := 33) (oi := opX65) (v := .bool true) hH ?_
            try simp only [pA, pB, p1, p2, p3]
            refine aK (i := 34) (oi := opX66) (v := .bool true) hH ?_
            try simp only [pA, pB, p1, p2, p3]
            refine aS (i := 35) (oi := opX67) hH ?_
            try simp only [pA, pB, p1, p2, p3]
            refine aS (i := 36) (oi := opX68) hH ?_
            try simp only [pA, pB, p1, p2, p3]
            refine aS (i := 37) (oi := opX69) hH ?_
            try simp only [pA, pB, p1, p2, p3]
            refine aK (i := 38) (oi := opX70) (v := .bool true) hH ?_
            try simp only [pA, pB, p1, p2, p3]
            refine wpAnyH_done (by kernel_rfl) ?_ _
            try simp only [pA, pB, p1, p2, p3]
            clear hH
            have hv : lasB up ls i = false := by rw [HEN.out]; simp [hid, q12]
            go_upto_region 14 with fail
            refine WL.start ?_
            refine tK (.bool false) ?_
            try simp only [pA, pB, p1, p2, p3]
            refine WL.nil ?_
            try simp only [pA, pB, p1, p2, p3]
            have hv : bktB up es ls = false := HNo.out hv
            go_wp2
            rw [HC.out]
            exact ⟨by rw [hv]; rfl, HF.out.kept⟩
           ·skip
            refine any_call (i := 2) (o := opX34) rfl (by kernel_rfl) (by kernel_rfl) 19 #[.int .i64 x.cl, .int .i64 1, .int .i64 255] (by kernel_rfl) _ (within_any _ _ _ _) ?_
            rintro e wq ⟨rfl, hwq⟩
            rw [hwq]
            clear hwq wq
            refine ⟨.bool true, by rw [q12], hH, fun hH => ?_⟩
            try simp only [pA, pB, p1, p2, p3]
            refine aK (i := 3) (oi := opX35) (v := .bool false) hH ?_
            try simp only [pA, pB, p1, p2, p3]
            refine aK (i := 4) (oi := opX36) (v := .bool false) hH ?_
            try simp only [pA, pB, p1, p2, p3]
            refine aK (i := 5) (oi := opX37) (v := .pointer (some ⟨gk12, 1, none⟩)) hH ?_
            try simp only [pA, pB, p1, p2, p3]
            refine aT (i := 6) (oi := opX38) (v := .int .i64 x.op) (fun w' hw => exec_load 3 _ rfl ⟨gk12, 1, none⟩ (by kernel_rfl) (.int .i64 x.op) (ld3 (hw.2.1.cell 1))) hH ?_
            try simp only [pA, pB, p1, p2, p3]
            cases q13 : (inB x.op 1 1099511627776)
            ·skip
             refine any_call (i := 7) (o := opX39) rfl (by kernel_rfl) (by kernel_rfl) 19 #[.int .i64 x.op, .int .i64 1, .int .i64 1099511627776] (by kernel_rfl) _ (within_any _ _ _ _) ?_
             rintro e wq ⟨rfl, hwq⟩
             rw [hwq]
             clear hwq wq
             refine ⟨.bool false, by rw [q13], hH, fun hH => ?_⟩
             try simp only [pA, pB, p1, p2, p3]
             refine aK (i := 8) (oi := opX40) (v := .bool true) hH ?_
             try simp only [pA, pB, p1, p2, p3]
             refine aK (i := 9) (oi := opX41) (v := .bool true) hH ?_
             try simp only [pA, pB, p1, p2, p3]
             refine aK (i := 10) (oi := opX42) (v := .bool true) hH ?_
             try simp only [pA, pB, p1, p2, p3]
             refine aS (i := 11) (oi := opX43) hH ?_
             try simp only [pA, pB, p1, p2, p3]
             refine aS (i := 12) (oi := opX44) hH ?_
             try simp only [pA, pB, p1, p2, p3]
             refine aS (i := 13) (oi := opX45) hH ?_
             try simp only [pA, pB, p1, p2, p3]
             refine aS (i := 14) (oi := opX46) hH ?_
             try simp only [pA, pB, p1, p2, p3]
             refine aS (i := 15) (oi := opX47) hH ?_
             try simp only [pA, pB, p1, p2, p3]
             refine aS (i := 16) (oi := opX48) hH ?_
             try simp only [pA, pB, p1, p2, p3]
             refine aK (i := 17) (oi := opX49) (v := .bool true) hH ?_
             try simp only [pA, pB, p1, p2, p3]
             refine aK (i := 18) (oi := opX50) (v := .bool true) hH ?_
             try simp only [pA, pB, p1, p2, p3]
             refine aS (i := 19) (oi := opX51) hH ?_
             try simp only [pA, pB, p1, p2, p3]
             refine aS (i := 20) (oi := opX52) hH ?_
             try simp only [pA, pB, p1, p2, p3]
             refine aS (i := 21) (oi := opX53) hH ?_
             try simp only [pA, pB, p1, p2, p3]
             refine aS (i := 22) (oi := opX54) hH ?_
             try simp only [pA, pB, p1, p2, p3]
             refine aS (i := 23) (oi := opX55) hH ?_
             try simp only [pA, pB, p1, p2, p3]
             refine aS (i := 24) (oi := opX56) hH ?_
             try simp only [pA, pB, p1, p2, p3]
             refine aS (i := 25) (oi := opX57) hH ?_
             try simp only [pA, pB, p1, p2, p3]
             refine aS (i := 26) (oi := opX58) hH ?_
             try simp only [pA, pB, p1, p2, p3]
             refine aS (i := 27) (oi := opX59) hH ?_
             try simp only [pA, pB, p1, p2, p3]
             refine aS (i := 28) (oi := opX60) hH ?_
             try simp only [pA, pB, p1, p2, p3]
             refine aS (i := 29) (oi := opX61) hH ?_
             try simp only [pA, pB, p1, p2, p3]
             refine aS (i := 30) (oi := opX62) hH ?_
             try simp only [pA, pB, p1, p2, p3]
             refine aS (i := 31) (oi := opX63) hH ?_
             try simp only [pA, pB, p1, p2, p3]
             refine aS (i := 32) (oi := opX64) hH ?_
             try simp only [pA, pB, p1, p2, p3]
             refine aK (i := 33) (oi := opX65) (v := .bool true) hH ?_
             try simp only [pA, pB, p1, p2, p3]
             refine aK (i := 34) (oi := opX66) (v := .bool true) hH ?_
             try simp only [pA, pB, p1, p2, p3]
             refine aS (i := 35) (oi := opX67) hH ?_
             try simp only [pA, pB, p1, p2, p3]
             refine aS (i := 36) (oi := opX68) hH ?_
             try simp only [pA, pB, p1, p2, p3]
             refine aS (i := 37) (oi := opX69) hH ?_
             try simp only [pA, pB, p1, p2, p3]
             refine aK (i := 38) (oi := opX70) (v := .bool true) hH ?_
             try simp only [pA, pB, p1, p2, p3]
             refine wpAnyH_done (by kernel_rfl) ?_ _
             try simp only [pA, pB, p1, p2, p3]
             clear hH
             have hv : lasB up ls i = false := by rw [HEN.out]; simp [hid, q12, q13]
             go_upto_region 14 with fail
             refine WL.start ?_
             refine tK (.bool false) ?_
             try simp only [pA, pB, p1, p2, p3]
             refine WL.nil ?_
             try simp only [pA, pB, p1, p2, p3]
             have hv : bktB up es ls = false := HNo.out hv
             go_wp2
             rw [HC.out]
             exact ⟨by rw [hv]; rfl, HF.out.kept⟩
            ·skip
             refine any_call (i := 7) (o := opX39) rfl (by kernel_rfl) (by kernel_rfl) 19 #[.int .i64 x.op, .int .i64 1, .int .i64 1099511627776] (by kernel_rfl) _ (within_any _ _ _ _) ?_
             rintro e wq ⟨rfl, hwq⟩
             rw [hwq]
             clear hwq wq
             refine ⟨.bool true, by rw [q13], hH, fun hH => ?_⟩
             try simp only [pA, pB, p1, p2, p3]
             refine aK (i := 8) (oi := opX40) (v := .bool false) hH ?_
             try simp only [pA, pB, p1, p2, p3]
             refine aK (i := 9) (oi := opX41) (v := .bool false) hH ?_
             try simp only [pA, pB, p1, p2, p3]
             refine aK (i := 10) (oi := opX42) (v := .bool false) hH ?_
             try simp only [pA, pB, p1, p2, p3]
             refine aK (i := 11) (oi := opX43) (v := .pointer (some ⟨gk12, 2, none⟩)) hH ?_
             try simp only [pA, pB, p1, p2, p3]
             refine aT (i := 12) (oi := opX44) (v := .int .i64 x.ins) (fun w' hw => exec_load 3 _ rfl ⟨gk12, 2, none⟩ (by kernel_rfl) (.int .i64 x.ins) (ld3 (hw.2.1.cell 2))) hH ?_
             try simp only [pA, pB, p1, p2, p3]
             refine aK (i := 13) (oi := opX45) (v := .pointer (some ⟨gk1, 0, none⟩)) hH ?_
             try simp only [pA, pB, p1, p2, p3]
             refine aT (i := 14) (oi := opX46) (v := .int .i64 up) (fun w' hw => exec_load 3 _ rfl ⟨gk1, 0, none⟩ (by kernel_rfl) (.int .i64 up) (ld3 (hw.1.cell 0))) hH ?_
             try simp only [pA, pB, p1, p2, p3]
             cases q14 : (inB x.ins 1 up)
             ·skip
              refine any_call (i := 15) (o := opX47) rfl (by kernel_rfl) (by kernel_rfl) 19 #[.int .i64 x.ins, .int .i64 1, .int .i64 up] (by kernel_rfl) _ (within_any _ _ _ _) ?_
              rintro e wq ⟨rfl, hwq⟩
              rw [hwq]
              clear hwq wq
              refine ⟨.bool false, by rw [q14], hH, fun hH => ?_⟩
              try simp only [pA, pB, p1, p2, p3]
              refine aK (i := 16) (oi := opX48) (v := .bool true) hH ?_
              try simp only [pA, pB, p1, p2, p3]
              refine aK (i := 17) (oi := opX49) (v := .bool true) hH ?_
              try simp only [pA, pB, p1, p2, p3]
              refine aK (i := 18) (oi := opX50) (v := .bool true) hH ?_
              try simp only [pA, pB, p1, p2, p3]
              refine aS (i := 19) (oi := opX51) hH ?_
              try simp only [pA, pB, p1, p2, p3]
              refine aS (i := 20) (oi := opX52) hH ?_
              try simp only [pA, pB, p1, p2, p3]
              refine aS (i := 21) (oi := opX53) hH ?_
              try simp only [pA, pB, p1, p2, p3]
              refine aS (i := 22) (oi := opX54) hH ?_
              try simp only [pA, pB, p1, p2, p3]
              refine aS (i := 23) (oi := opX55) hH ?_
              try simp only [pA, pB, p1, p2, p3]
              refine aS (i := 24) (oi := opX56) hH ?_
              try simp only [pA, pB, p1, p2, p3]
              refine aS (i := 25) (oi := opX57) hH ?_
              try simp only [pA, pB, p1, p2, p3]
              refine aS (i := 26) (oi := opX58) hH ?_
              try simp only [pA, pB, p1, p2, p3]
              refine aS (i := 27) (oi := opX59) hH ?_
              try simp only [pA, pB, p1, p2, p3]
              refine aS (i := 28) (oi := opX60) hH ?_
              try simp only [pA, pB, p1, p2, p3]
              refine aS (i := 29) (oi := opX61) hH ?_
              try simp only [pA, pB, p1, p2, p3]
              refine aS (i := 30) (oi := opX62) hH ?_
              try simp only [pA, pB, p1, p2, p3]
              refine aS (i := 31) (oi := opX63) hH ?_
              try simp only [pA, pB, p1, p2, p3]
              refine aS (i := 32) (oi := opX64) hH ?_
              try simp only [pA, pB, p1, p2, p3]
              refine aK (i := 33) (oi := opX65) (v := .bool true) hH ?_
              try simp only [pA, pB, p1, p2, p3]
              refine aK (i := 34) (oi := opX66) (v := .bool true) hH ?_
              try simp only [pA, pB, p1, p2, p3]
              refine aS (i := 35) (oi := opX67) hH ?_
              try simp only [pA, pB, p1, p2, p3]
              refine aS (i := 36) (oi := opX68) hH ?_
              try simp only [pA, pB, p1, p2, p3]
              refine aS (i := 37) (oi := opX69) hH ?_
              try simp only [pA, pB, p1, p2, p3]
              refine aK (i := 38) (oi := opX70) (v := .bool true) hH ?_
              try simp only [pA, pB, p1, p2, p3]
              refine wpAnyH_done (by kernel_rfl) ?_ _
              try simp only [pA, pB, p1, p2, p3]
              clear hH
              have hv : lasB up ls i = false := by rw [HEN.out]; simp [hid, q12, q13, q14]
              go_upto_region 14 with fail
              refine WL.start ?_
              refine tK (.bool false) ?_
              try simp only [pA, pB, p1, p2, p3]
              refine WL.nil ?_
              try simp only [pA, pB, p1, p2, p3]
              have hv : bktB up es ls = false := HNo.out hv
              go_wp2
              rw [HC.out]
              exact ⟨by rw [hv]; rfl, HF.out.kept⟩
             ·skip
              refine any_call (i := 15) (o := opX47) rfl (by kernel_rfl) (by kernel_rfl) 19 #[.int .i64 x.ins, .int .i64 1, .int .i64 up] (by kernel_rfl) _ (within_any _ _ _ _) ?_
              rintro e wq ⟨rfl, hwq⟩
              rw [hwq]
              clear hwq wq
              refine ⟨.bool true, by rw [q14], hH, fun hH => ?_⟩
              try simp only [pA, pB, p1, p2, p3]
              refine aK (i := 16) (oi := opX48) (v := .bool false) hH ?_
              try simp only [pA, pB, p1, p2, p3]
              refine aK (i := 17) (oi := opX49) (v := .bool false) hH ?_
              try simp only [pA, pB, p1, p2, p3]
              refine aK (i := 18) (oi := opX50) (v := .bool false) hH ?_
              try simp only [pA, pB, p1, p2, p3]
              refine aK (i := 19) (oi := opX51) (v := .int .i64 ((i : Nat) : Int)) hH ?_
              try simp only [pA, pB, p1, p2, p3]
              refine aT (i := 20) (oi := opX52) (v := .bool true) (fun w' hw => exec_bin .gtr 3 _ _ _ rfl (.int .i64 ((i : Nat) : Int)) (.int .i64 0) (.bool true) (by kernel_rfl) (by kernel_rfl) (by kernel_rfl) (by rw [b_gtr, decide_eq_true (by omega)])) hH ?_
              try simp only [pA, pB, p1, p2, p3]
              refine aK (i := 21) (oi := opX53) (v := .bool true) hH ?_
              try simp only [pA, pB, p1, p2, p3]
              refine aK (i := 22) (oi := opX54) (v := .pointer (some ⟨gk1, 2, none⟩)) hH ?_
              try simp only [pA, pB, p1, p2, p3]
              refine aT (i := 23) (oi := opX55) (v := .slice (some ⟨xb, xo, none⟩) ln lc) (fun w' hw => exec_load 24 _ rfl ⟨gk1, 2, none⟩ (by kernel_rfl) (.slice (some ⟨xb, xo, none⟩) ln lc) (ld23 (hw.1.cell 2))) hH ?_
              try simp only [pA, pB, p1, p2, p3]
              refine aK (i := 24) (oi := opX56) (v := .int .i64 ((i : Nat) : Int)) hH ?_
              try simp only [pA, pB, p1, p2, p3]
              refine aT (i := 25) (oi := opX57) (v := .int .i64 (((i - 1) : Nat) : Int)) (fun w' hw => exec_bin .sub 3 _ _ _ rfl (.int .i64 ((i : Nat) : Int)) (.int .i64 1) (.int .i64 (((i - 1) : Nat) : Int)) (by kernel_rfl) (by kernel_rfl) (by kernel_rfl) (b_subN i 1 (i - 1) (by omega) (by omega) _)) hH ?_
              try simp only [pA, pB, p1, p2, p3]
              refine aT (i := 26) (oi := opX58) (v := .pointer (some ⟨xb, xo + (i - 1) * 7, none⟩)) (fun w' hw => exec_ixA 24 7 Try.und23e Try.size23e _ _ rfl xb xo ln lc (i - 1) (by kernel_rfl) (by kernel_rfl) (by omega)) hH ?_
              try simp only [pA, pB, p1, p2, p3]
              refine aK (i := 27) (oi := opX59) (v := .pointer (some ⟨xb, xo + (i - 1) * 7, none⟩)) hH ?_
              try simp only [pA, pB, p1, p2, p3]
              refine aT (i := 28) (oi := opX60) (v := .int .i64 y.cl) (fun w' hw => exec_load 3 _ rfl ⟨xb, xo + (i - 1) * 7, none⟩ (by kernel_rfl) (.int .i64 y.cl) (ld3 hw.2.2)) hH ?_
              try simp only [pA, pB, p1, p2, p3]
              refine aK (i := 29) (oi := opX61) (v := .pointer (some ⟨gk12, 0, none⟩)) hH ?_
              try simp only [pA, pB, p1, p2, p3]
              refine aT (i := 30) (oi := opX62) (v := .int .i64 x.cl) (fun w' hw => exec_load 3 _ rfl ⟨gk12, 0, none⟩ (by kernel_rfl) (.int .i64 x.cl) (ld3 (hw.2.1.cell 0))) hH ?_
              try simp only [pA, pB, p1, p2, p3]
              cases q15 : (decide (x.cl ≤ y.cl))
              ·skip
               refine aT (i := 31) (oi := opX63) (v := .bool false) (fun w' hw => exec_bin .geq 3 _ _ _ rfl (.int .i64 y.cl) (.int .i64 x.cl) (.bool false) (by kernel_rfl) (by kernel_rfl) (by kernel_rfl) (by rw [b_geq, q15]; try rfl)) hH ?_
               try simp only [pA, pB, p1, p2, p3]
               refine aK (i := 32) (oi := opX64) (v := .bool false) hH ?_
               try simp only [pA, pB, p1, p2, p3]
               refine aK (i := 33) (oi := opX65) (v := .bool false) hH ?_
               try simp only [pA, pB, p1, p2, p3]
               refine aK (i := 34) (oi := opX66) (v := .bool false) hH ?_
               try simp only [pA, pB, p1, p2, p3]
               refine aT (i := 35) (oi := opX67) (v := .agg (La.cells x)) (fun w' hw => exec_load 67 _ rfl ⟨gk12, 0, none⟩ (by kernel_rfl) (.agg (La.cells x)) (ld64 hw.2.1)) hH ?_
               try simp only [pA, pB, p1, p2, p3]
               cases q16 : (lastB x)
               ·skip
                refine any_call (i := 36) (o := opX68) rfl (by kernel_rfl) (by kernel_rfl) 25 #[.agg (La.cells x)] (by kernel_rfl) _ (lastB_any x _) ?_
                rintro e wk16 ⟨rfl, hk⟩
                have hH2 : Box wk16 gk1 26 (Bv.cells ⟨up, ⟨ea, en, ec⟩, ⟨(some ⟨xb, xo, none⟩), ln, lc⟩⟩) ∧ Box wk16 gk12 67 (La.cells x) ∧ wk16.cell? ⟨xb, xo + (i - 1) * 7, none⟩ = some (.int .i64 y.cl) := ⟨hH.1.kept hk (fun e => e), hH.2.1.kept hk (fun e => e), hk.cell hH.2.2 (fun e => e)⟩
                have HF : Hid (Fr No w (wk16) [(gk1, 26, Bv.cells ⟨up, ⟨ea, en, ec⟩, ⟨(some ⟨xb, xo, none⟩), ln, lc⟩⟩), (gk12, 67, La.cells x)]) := HF.out.no hk
                clear hk
                refine ⟨.bool false, by rw [q16], hH2, fun hH => ?_⟩
                clear hH2
                try simp only [pA, pB, p1, p2, p3]
                refine aK (i := 37) (oi := opX69) (v := .bool true) hH ?_
                try simp only [pA, pB, p1, p2, p3]
                refine aK (i := 38) (oi := opX70) (v := .bool true) hH ?_
                try simp only [pA, pB, p1, p2, p3]
                refine wpAnyH_done (by kernel_rfl) ?_ _
                try simp only [pA, pB, p1, p2, p3]
                clear hH
                have hv : lasB up ls i = false := by rw [HEN.out]; simp [hid, q12, q13, q14, q15, q16]
                go_upto_region 14 with fail
                refine WL.start ?_
                refine tK (.bool false) ?_
                try simp only [pA, pB, p1, p2, p3]
                refine WL.nil ?_
                try simp only [pA, pB, p1, p2, p3]
                have hv : bktB up es ls = false := HNo.out hv
                go_wp2
                rw [HC.out]
                exact ⟨by rw [hv]; rfl, HF.out.kept⟩
               ·skip
                refine any_call (i := 36) (o := opX68) rfl (by kernel_rfl) (by kernel_rfl) 25 #[.agg (La.cells x)] (by kernel_rfl) _ (lastB_any x _) ?_
                rintro e wk17 ⟨rfl, hk⟩
                have hH2 : Box wk17 gk1 26 (Bv.cells ⟨up, ⟨ea, en, ec⟩, ⟨(some ⟨xb, xo, none⟩), ln, lc⟩⟩) ∧ Box wk17 gk12 67 (La.cells x) ∧ wk17.cell? ⟨xb, xo + (i - 1) * 7, none⟩ = some (.int .i64 y.cl) := ⟨hH.1.kept hk (fun e => e), hH.2.1.kept hk (fun e => e), hk.cell hH.2.2 (fun e => e)⟩
                have HF : Hid (Fr No w (wk17) [(gk1, 26, Bv.cells ⟨up, ⟨ea, en, ec⟩, ⟨(some ⟨xb, xo, none⟩), ln, lc⟩⟩), (gk12, 67, La.cells x)]) := HF.out.no hk
                clear hk
                refine ⟨.bool true, by rw [q16], hH2, fun hH => ?_⟩
                clear hH2
                try simp only [pA, pB, p1, p2, p3]
                refine aK (i := 37) (oi := opX69) (v := .bool false) hH ?_
                try simp only [pA, pB, p1, p2, p3]
                refine aK (i := 38) (oi := opX70) (v := .bool false) hH ?_
                try simp only [pA, pB, p1, p2, p3]
                refine wpAnyH_done (by kernel_rfl) ?_ _
                try simp only [pA, pB, p1, p2, p3]
                clear hH
                have hv : lasB up ls i = true := by rw [HEN.out]; simp [hid, q12, q13, q14, q15, q16]
                have HP2 : Hid (∀ j, j < i + 1 → lasB up ls j = true) := HYes.out hv
                have HF : Hid (Fr No w wk17 [(gk1, 26, Bv.cells ⟨up, ⟨ea, en, ec⟩, ⟨(some ⟨xb, xo, none⟩), ln, lc⟩⟩)]) := (show Fr No w wk17 ([(gk1, 26, Bv.cells ⟨up, ⟨ea, en, ec⟩, ⟨(some ⟨xb, xo, none⟩), ln, lc⟩⟩)] ++ [(gk12, 67, La.cells x)]) from HF.out).front
                clear HEN HNo HYes HP hv hid q12 q13 q14 q15 q16
                go_wp2
                go_roundw
                case rel => exact ⟨i + 1, by go_num, by omega, HP2, HF⟩
                case measure => simp [intOf]; omega
              ·skip
               refine aT (i := 31) (oi := opX63) (v := .bool true) (fun w' hw => exec_bin .geq 3 _ _ _ rfl (.int .i64 y.cl) (.int .i64 x.cl) (.bool true) (by kernel_rfl) (by kernel_rfl) (by kernel_rfl) (by rw [b_geq, q15]; try rfl)) hH ?_
               try simp only [pA, pB, p1, p2, p3]
               refine aK (i := 32) (oi := opX64) (v := .bool true) hH ?_
               try simp only [pA, pB, p1, p2, p3]
               refine aK (i := 33) (oi := opX65) (v := .bool true) hH ?_
               try simp only [pA, pB, p1, p2, p3]
               refine aK (i := 34) (oi := opX66) (v := .bool true) hH ?_
               try simp only [pA, pB, p1, p2, p3]
               refine aS (i := 35) (oi := opX67) hH ?_
               try simp only [pA, pB, p1, p2, p3]
               refine aS (i := 36) (oi := opX68) hH ?_
               try simp only [pA, pB, p1, p2, p3]
               refine aS (i := 37) (oi := opX69) hH ?_
               try simp only [pA, pB, p1, p2, p3]
               refine aK (i := 38) (oi := opX70) (v := .bool true) hH ?_
               try simp only [pA, pB, p1, p2, p3]
               refine wpAnyH_done (by kernel_rfl) ?_ _
               try simp only [pA, pB, p1, p2, p3]
               clear hH
               have hv : lasB up ls i = false := by rw [HEN.out]; simp [hid, q12, q13, q14, q15]
               go_upto_region 14 with fail
               refine WL.start ?_
               refine tK (.bool false) ?_
               try simp only [pA, pB, p1, p2, p3]
               refine WL.nil ?_
               try simp only [pA, pB, p1, p2, p3]
               have hv : bktB up es ls = false := HNo.out hv
               go_wp2
               rw [HC.out]
               exact ⟨by rw [hv]; rfl, HF.out.kept⟩
          ·skip
           have hid : decide (i = 0) = true := by simp; omega
           go_upto_region 13 with fail
           refine wp_region_held_drew (S := fun w' => Box w' gk1 26 (Bv.cells ⟨up, ⟨ea, en, ec⟩, ⟨(some ⟨xb, xo, none⟩), ln, lc⟩⟩) ∧ Box w' gk12 67 (La.cells x)) rfl ⟨HF.out.box 0 _ _ _ rfl, HF.out.box 1 _ _ _ rfl⟩ (fun hH => ?_)
           have HF : Hid (Fr No w (wk14.drew) [(gk1, 26, Bv.cells ⟨up, ⟨ea, en, ec⟩, ⟨(some ⟨xb, xo, none⟩), ln, lc⟩⟩), (gk12, 67, La.cells x)]) := HF.out.drew
           generalize wk14.drew = wk18 at HF hH ⊢
           refine aK (i := 0) (oi := opX32) (v := .pointer (some ⟨gk12, 0, none⟩)) hH ?_
           try simp only [pA, pB, p1, p2, p3]
           refine aT (i := 1) (oi := opX33) (v := .int .i64 x.cl) (fun w' hw => exec_load 3 _ rfl ⟨gk12, 0, none⟩ (by kernel_rfl) (.int .i64 x.cl) (ld3 (hw.2.cell 0))) hH ?_
           try simp only [pA, pB, p1, p2, p3]
           cases q17 : (inB x.cl 1 255)
           ·skip
            refine any_call (i := 2) (o := opX34) rfl (by kernel_rfl) (by kernel_rfl) 19 #[.int .i64 x.cl, .int .i64 1, .int .i64 255] (by kernel_rfl) _ (within_any _ _ _ _) ?_
            rintro e wq ⟨rfl, hwq⟩
            rw [hwq]
            clear hwq wq
            refine ⟨.bool false, by rw [q17], hH, fun hH => ?_⟩
            try simp only [pA, pB, p1, p2, p3]
            refine aK (i := 3) (oi := opX35) (v := .bool true) hH ?_
            try simp only [pA, pB, p1, p2, p3]
            refine aK (i := 4) (oi := opX36) (v := .bool true) hH ?_
            try simp only [pA, pB, p1, p2, p3]
            refine aS (i := 5) (oi := opX37) hH ?_
            try simp only [pA, pB, p1, p2, p3]
            refine aS (i := 6) (oi := opX38) hH ?_
            try simp only [pA, pB, p1, p2, p3]
            refine aS (i := 7) (oi := opX39) hH ?_
            try simp only [pA, pB, p1, p2, p3]
            refine aS (i := 8) (oi := opX40) hH ?_
            try simp only [pA, pB, p1, p2, p3]
            refine aK (i := 9) (oi := opX41) (v := .bool true) hH ?_
            try simp only [pA, pB, p1, p2, p3]
            refine aK (i := 10) (oi := opX42) (v := .bool true) hH ?_
            try simp only [pA, pB, p1, p2, p3]
            refine aS (i := 11) (oi := opX43) hH ?_
            try simp only [pA, pB, p1, p2, p3]
            refine aS (i := 12) (oi := opX44) hH ?_
            try simp only [pA, pB, p1, p2, p3]
            refine aS (i := 13) (oi := opX45) hH ?_
            try simp only [pA, pB, p1, p2, p3]
            refine aS (i := 14) (oi := opX46) hH ?_
            try simp only [pA, pB, p1, p2, p3]
            refine aS (i := 15) (oi := opX47) hH ?_
            try simp only [pA, pB, p1, p2, p3]
            refine aS (i := 16) (oi := opX48) hH ?_
            try simp only [pA, pB, p1, p2, p3]
            refine aK (i := 17) (oi := opX49) (v := .bool true) hH ?_
            try simp only [pA, pB, p1, p2, p3]
            refine aK (i := 18) (oi := opX50) (v := .bool true) hH ?_
            try simp only [pA, pB, p1, p2, p3]
            refine aS (i := 19) (oi := opX51) hH ?_
            try simp only [pA, pB, p1, p2, p3]
            refine aS (i := 20) (oi := opX52) hH ?_
            try simp only [pA, pB, p1, p2, p3]
            refine aS (i := 21) (oi := opX53) hH ?_
            try simp only [pA, pB, p1, p2, p3]
            refine aS (i := 22) (oi := opX54) hH ?_
            try simp only [pA, pB, p1, p2, p3]
            refine aS (i := 23) (oi := opX55) hH ?_
            try simp only [pA, pB, p1, p2, p3]
            refine aS (i := 24) (oi := opX56) hH ?_
            try simp only [pA, pB, p1, p2, p3]
            refine aS (i := 25) (oi := opX57) hH ?_
            try simp only [pA, pB, p1, p2, p3]
            refine aS (i := 26) (oi := opX58) hH ?_
            try simp only [pA, pB, p1, p2, p3]
            refine aS (i := 27) (oi := opX59) hH ?_
            try simp only [pA, pB, p1, p2, p3]
            refine aS (i := 28) (oi := opX60) hH ?_
            try simp only [pA, pB, p1, p2, p3]
            refine aS (i := 29) (oi := opX61) hH ?_
            try simp only [pA, pB, p1, p2, p3]
            refine aS (i := 30) (oi := opX62) hH ?_
            try simp only [pA, pB, p1, p2, p3]
            refine aS (i := 31) (oi := opX63) hH ?_
            try simp only [pA, pB, p1, p2, p3]
            refine aS (i := 32) (oi := opX64) hH ?_
            try simp only [pA, pB, p1, p2, p3]
            refine aK (i := 33) (oi := opX65) (v := .bool true) hH ?_
            try simp only [pA, pB, p1, p2, p3]
            refine aK (i := 34) (oi := opX66) (v := .bool true) hH ?_
            try simp only [pA, pB, p1, p2, p3]
            refine aS (i := 35) (oi := opX67) hH ?_
            try simp only [pA, pB, p1, p2, p3]
            refine aS (i := 36) (oi := opX68) hH ?_
            try simp only [pA, pB, p1, p2, p3]
            refine aS (i := 37) (oi := opX69) hH ?_
            try simp only [pA, pB, p1, p2, p3]
            refine aK (i := 38) (oi := opX70) (v := .bool true) hH ?_
            try simp only [pA, pB, p1, p2, p3]
            refine wpAnyH_done (by kernel_rfl) ?_ _
            try simp only [pA, pB, p1, p2, p3]
            clear hH
            have hv : lasB up ls i = false := by rw [HEN.out]; simp [hid, q17]
            go_upto_region 14 with fail
            refine WL.start ?_
            refine tK (.bool false) ?_
            try simp only [pA, pB, p1, p2, p3]
            refine WL.nil ?_
            try simp only [pA, pB, p1, p2, p3]
            have hv : bktB up es ls = false := HNo.out hv
            go_wp2
            rw [HC.out]
            exact ⟨by rw [hv]; rfl, HF.out.kept⟩
           ·skip
            refine any_call (i := 2) (o := opX34) rfl (by kernel_rfl) (by kernel_rfl) 19 #[.int .i64 x.cl, .int .i64 1, .int .i64 255] (by kernel_rfl) _ (within_any _ _ _ _) ?_
            rintro e wq ⟨rfl, hwq⟩
            rw [hwq]
            clear hwq wq
            refine ⟨.bool true, by rw [q17], hH, fun hH => ?_⟩
            try simp only [pA, pB, p1, p2, p3]
            refine aK (i := 3) (oi := opX35) (v := .bool false) hH ?_
            try simp only [pA, pB, p1, p2, p3]
            refine aK (i := 4) (oi := opX36) (v := .bool false) hH ?_
            try simp only [pA, pB, p1, p2, p3]
            refine aK (i := 5) (oi := opX37) (v := .pointer (some ⟨gk12, 1, none⟩)) hH ?_
            try simp only [pA, pB, p1, p2, p3]
            refine aT (i := 6) (oi := opX38) (v := .int .i64 x.op) (fun w' hw => exec_load 3 _ rfl ⟨gk12, 1, none⟩ (by kernel_rfl) (.int .i64 x.op) (ld3 (hw.2.cell 1))) hH ?_
            try simp only [pA, pB, p1, p2, p3]
            cases q18 : (inB x.op 1 1099511627776)
            ·skip
             refine any_call (i := 7) (o := opX39) rfl (by kernel_rfl) (by kernel_rfl) 19 #[.int .i64 x.op, .int .i64 1, .int .i64 1099511627776] (by kernel_rfl) _ (within_any _ _ _ _) ?_
             rintro e wq ⟨rfl, hwq⟩
             rw [hwq]
             clear hwq wq
             refine ⟨.bool false, by rw [q18], hH, fun hH => ?_⟩
             try simp only [pA, pB, p1, p2, p3]
             refine aK (i := 8) (oi := opX40) (v := .bool true) hH ?_
             try simp only [pA, pB, p1, p2, p3]
             refine aK (i := 9) (oi := opX41) (v := .bool true) hH ?_
             try simp only [pA, pB, p1, p2, p3]
             refine aK (i := 10) (oi := opX42) (v := .bool true) hH ?_
             try simp only [pA, pB, p1, p2, p3]
             refine aS (i := 11) (oi := opX43) hH ?_
             try simp only [pA, pB, p1, p2, p3]
             refine aS (i := 12) (oi := opX44) hH ?_
             try simp only [pA, pB, p1, p2, p3]
             refine aS (i := 13) (oi := opX45) hH ?_
             try simp only [pA, pB, p1, p2, p3]
             refine aS (i := 14) (oi := opX46) hH ?_
             try simp only [pA, pB, p1, p2, p3]
             refine aS (i := 15) (oi := opX47) hH ?_
             try simp only [pA, pB, p1, p2, p3]
             refine aS (i := 16) (oi := opX48) hH ?_
             try simp only [pA, pB, p1, p2, p3]
             refine aK (i := 17) (oi := opX49) (v := .bool true) hH ?_
             try simp only [pA, pB, p1, p2, p3]
             refine aK (i := 18) (oi := opX50) (v := .bool true) hH ?_
             try simp only [pA, pB, p1, p2, p3]
             refine aS (i := 19) (oi := opX51) hH ?_
             try simp only [pA, pB, p1, p2, p3]
             refine aS (i := 20) (oi := opX52) hH ?_
             try simp only [pA, pB, p1, p2, p3]
             refine aS (i := 21) (oi := opX53) hH ?_
             try simp only [pA, pB, p1, p2, p3]
             refine aS (i := 22) (oi := opX54) hH ?_
             try simp only [pA, pB, p1, p2, p3]
             refine aS (i := 23) (oi := opX55) hH ?_
             try simp only [pA, pB, p1, p2, p3]
             refine aS (i := 24) (oi := opX56) hH ?_
             try simp only [pA, pB, p1, p2, p3]
             refine aS (i := 25) (oi := opX57) hH ?_
             try simp only [pA, pB, p1, p2, p3]
             refine aS (i := 26) (oi := opX58) hH ?_
             try simp only [pA, pB, p1, p2, p3]
             refine aS (i := 27) (oi := opX59) hH ?_
             try simp only [pA, pB, p1, p2, p3]
             refine aS (i := 28) (oi := opX60) hH ?_
             try simp only [pA, pB, p1, p2, p3]
             refine aS (i := 29) (oi := opX61) hH ?_
             try simp only [pA, pB, p1, p2, p3]
             refine aS (i := 30) (oi := opX62) hH ?_
             try simp only [pA, pB, p1, p2, p3]
             refine aS (i := 31) (oi := opX63) hH ?_
             try simp only [pA, pB, p1, p2, p3]
             refine aS (i := 32) (oi := opX64) hH ?_
             try simp only [pA, pB, p1, p2, p3]
             refine aK (i := 33) (oi := opX65) (v := .bool true) hH ?_
             try simp only [pA, pB, p1, p2, p3]
             refine aK (i := 34) (oi := opX66) (v := .bool true) hH ?_
             try simp only [pA, pB, p1, p2, p3]
             refine aS (i := 35) (oi := opX67) hH ?_
             try simp only [pA, pB, p1, p2, p3]
             refine aS (i := 36) (oi := opX68) hH ?_
             try simp only [pA, pB, p1, p2, p3]
             refine aS (i := 37) (oi := opX69) hH ?_
             try simp only [pA, pB, p1, p2, p3]
             refine aK (i := 38) (oi := opX70) (v := .bool true) hH ?_
             try simp only [pA, pB, p1, p2, p3]
             refine wpAnyH_done (by kernel_rfl) ?_ _
             try simp only [pA, pB, p1, p2, p3]
             clear hH
             have hv : lasB up ls i = false := by rw [HEN.out]; simp [hid, q17, q18]
             go_upto_region 14 with fail
             refine WL.start ?_
             refine tK (.bool false) ?_
             try simp only [pA, pB, p1, p2, p3]
             refine WL.nil ?_
             try simp only [pA, pB, p1, p2, p3]
             have hv : bktB up es ls = false := HNo.out hv
             go_wp2
             rw [HC.out]
             exact ⟨by rw [hv]; rfl, HF.out.kept⟩
            ·skip
             refine any_call (i := 7) (o := opX39) rfl (by kernel_rfl) (by kernel_rfl) 19 #[.int .i64 x.op, .int .i64 1, .int .i64 1099511627776] (by kernel_rfl) _ (within_any _ _ _ _) ?_
             rintro e wq ⟨rfl, hwq⟩
             rw [hwq]
             clear hwq wq
             refine ⟨.bool true, by rw [q18], hH, fun hH => ?_⟩
             try simp only [pA, pB, p1, p2, p3]
             refine aK (i := 8) (oi := opX40) (v := .bool false) hH ?_
             try simp only [pA, pB, p1, p2, p3]
             refine aK (i := 9) (oi := opX41) (v := .bool false) hH ?_
             try simp only [pA, pB, p1, p2, p3]
             refine aK (i := 10) (oi := opX42) (v := .bool false) hH ?_
             try simp only [pA, pB, p1, p2, p3]
             refine aK (i := 11) (oi := opX43) (v := .pointer (some ⟨gk12, 2, none⟩)) hH ?_
             try simp only [pA, pB, p1, p2, p3]
             refine aT (i := 12) (oi := opX44) (v := .int .i64 x.ins) (fun w' hw => exec_load 3 _ rfl ⟨gk12, 2, none⟩ (by kernel_rfl) (.int .i64 x.ins) (ld3 (hw.2.cell 2))) hH ?_
             try simp only [pA, pB, p1, p2, p3]
             refine aK (i := 13) (oi := opX45) (v := .pointer (some ⟨gk1, 0, none⟩)) hH ?_
             try simp only [pA, pB, p1, p2, p3]
             refine aT (i := 14) (oi := opX46) (v := .int .i64 up) (fun w' hw => exec_load 3 _ rfl ⟨gk1, 0, none⟩ (by kernel_rfl) (.int .i64 up) (ld3 (hw.1.cell 0))) hH ?_
             try simp only [pA, pB, p1, p2, p3]
             cases q19 : (inB x.ins 1 up)
             ·skip
              refine any_call (i := 15) (o := opX47) rfl (by kernel_rfl) (by kernel_rfl) 19 #[.int .i64 x.ins, .int .i64 1, .int .i64 up] (by kernel_rfl) _ (within_any _ _ _ _) ?_
              rintro e wq ⟨rfl, hwq⟩
              rw [hwq]
              clear hwq wq
              refine ⟨.bool false, by rw [q19], hH, fun hH => ?_⟩
              try simp only [pA, pB, p1, p2, p3]
              refine aK (i := 16) (oi := opX48) (v := .bool true) hH ?_
              try simp only [pA, pB, p1, p2, p3]
              refine aK (i := 17) (oi := opX49) (v := .bool true) hH ?_
              try simp only [pA, pB, p1, p2, p3]
              refine aK (i := 18) (oi := opX50) (v := .bool true) hH ?_
              try simp only [pA, pB, p1, p2, p3]
              refine aS (i := 19) (oi := opX51) hH ?_
              try simp only [pA, pB, p1, p2, p3]
              refine aS (i := 20) (oi := opX52) hH ?_
              try simp only [pA, pB, p1, p2, p3]
              refine aS (i := 21) (oi := opX53) hH ?_
              try simp only [pA, pB, p1, p2, p3]
              refine aS (i := 22) (oi := opX54) hH ?_
              try simp only [pA, pB, p1, p2, p3]
              refine aS (i := 23) (oi := opX55) hH ?_
              try simp only [pA, pB, p1, p2, p3]
              refine aS (i := 24) (oi := opX56) hH ?_
              try simp only [pA, pB, p1, p2, p3]
              refine aS (i := 25) (oi := opX57) hH ?_
              try simp only [pA, pB, p1, p2, p3]
              refine aS (i := 26) (oi := opX58) hH ?_
              try simp only [pA, pB, p1, p2, p3]
              refine aS (i := 27) (oi := opX59) hH ?_
              try simp only [pA, pB, p1, p2, p3]
              refine aS (i := 28) (oi := opX60) hH ?_
              try simp only [pA, pB, p1, p2, p3]
              refine aS (i := 29) (oi := opX61) hH ?_
              try simp only [pA, pB, p1, p2, p3]
              refine aS (i := 30) (oi := opX62) hH ?_
              try simp only [pA, pB, p1, p2, p3]
              refine aS (i := 31) (oi := opX63) hH ?_
              try simp only [pA, pB, p1, p2, p3]
              refine aS (i := 32) (oi := opX64) hH ?_
              try simp only [pA, pB, p1, p2, p3]
              refine aK (i := 33) (oi := opX65) (v := .bool true) hH ?_
              try simp only [pA, pB, p1, p2, p3]
              refine aK (i := 34) (oi := opX66) (v := .bool true) hH ?_
              try simp only [pA, pB, p1, p2, p3]
              refine aS (i := 35) (oi := opX67) hH ?_
              try simp only [pA, pB, p1, p2, p3]
              refine aS (i := 36) (oi := opX68) hH ?_
              try simp only [pA, pB, p1, p2, p3]
              refine aS (i := 37) (oi := opX69) hH ?_
              try simp only [pA, pB, p1, p2, p3]
              refine aK (i := 38) (oi := opX70) (v := .bool true) hH ?_
              try simp only [pA, pB, p1, p2, p3]
              refine wpAnyH_done (by kernel_rfl) ?_ _
              try simp only [pA, pB, p1, p2, p3]
              clear hH
              have hv : lasB up ls i = false := by rw [HEN.out]; simp [hid, q17, q18, q19]
              go_upto_region 14 with fail
              refine WL.start ?_
              refine tK (.bool false) ?_
              try simp only [pA, pB, p1, p2, p3]
              refine WL.nil ?_
              try simp only [pA, pB, p1, p2, p3]
              have hv : bktB up es ls = false := HNo.out hv
              go_wp2
              rw [HC.out]
              exact ⟨by rw [hv]; rfl, HF.out.kept⟩
             ·skip
              refine any_call (i := 15) (o := opX47) rfl (by kernel_rfl) (by kernel_rfl) 19 #[.int .i64 x.ins, .int .i64 1, .int .i64 up] (by kernel_rfl) _ (within_any _ _ _ _) ?_
              rintro e wq ⟨rfl, hwq⟩
              rw [hwq]
              clear hwq wq
              refine ⟨.bool true, by rw [q19], hH, fun hH => ?_⟩
              try simp only [pA, pB, p1, p2, p3]
              refine aK (i := 16) (oi := opX48) (v := .bool false) hH ?_
              try simp only [pA, pB, p1, p2, p3]
              refine aK (i := 17) (oi := opX49) (v := .bool false) hH ?_
              try simp only [pA, pB, p1, p2, p3]
              refine aK (i := 18) (oi := opX50) (v := .bool false) hH ?_
              try simp only [pA, pB, p1, p2, p3]
              refine aK (i := 19) (oi := opX51) (v := .int .i64 ((i : Nat) : Int)) hH ?_
              try simp only [pA, pB, p1, p2, p3]
              refine aT (i := 20) (oi := opX52) (v := .bool false) (fun w' hw => exec_bin .gtr 3 _ _ _ rfl (.int .i64 ((i : Nat) : Int)) (.int .i64 0) (.bool false) (by kernel_rfl) (by kernel_rfl) (by kernel_rfl) (by rw [b_gtr, decide_eq_false (by omega)])) hH ?_
              try simp only [pA, pB, p1, p2, p3]
              refine aK (i := 21) (oi := opX53) (v := .bool false) hH ?_
              try simp only [pA, pB, p1, p2, p3]
              refine aS (i := 22) (oi := opX54) hH ?_
              try simp only [pA, pB, p1, p2, p3]
              refine aS (i := 23) (oi := opX55) hH ?_
              try simp only [pA, pB, p1, p2, p3]
              refine aS (i := 24) (oi := opX56) hH ?_
              try simp only [pA, pB, p1, p2, p3]
              refine aS (i := 25) (oi := opX57) hH ?_
              try simp only [pA, pB, p1, p2, p3]
              refine aS (i := 26) (oi := opX58) hH ?_
              try simp only [pA, pB, p1, p2, p3]
              refine aS (i := 27) (oi := opX59) hH ?_
              try simp only [pA, pB, p1, p2, p3]
              refine aS (i := 28) (oi := opX60) hH ?_
              try simp only [pA, pB, p1, p2, p3]
              refine aS (i := 29) (oi := opX61) hH ?_
              try simp only [pA, pB, p1, p2, p3]
              refine aS (i := 30) (oi := opX62) hH ?_
              try simp only [pA, pB, p1, p2, p3]
              refine aS (i := 31) (oi := opX63) hH ?_
              try simp only [pA, pB, p1, p2, p3]
              refine aK (i := 32) (oi := opX64) (v := .bool false) hH ?_
              try simp only [pA, pB, p1, p2, p3]
              refine aK (i := 33) (oi := opX65) (v := .bool false) hH ?_
              try simp only [pA, pB, p1, p2, p3]
              refine aK (i := 34) (oi := opX66) (v := .bool false) hH ?_
              try simp only [pA, pB, p1, p2, p3]
              refine aT (i := 35) (oi := opX67) (v := .agg (La.cells x)) (fun w' hw => exec_load 67 _ rfl ⟨gk12, 0, none⟩ (by kernel_rfl) (.agg (La.cells x)) (ld64 hw.2)) hH ?_
              try simp only [pA, pB, p1, p2, p3]
              cases q20 : (lastB x)
              ·skip
               refine any_call (i := 36) (o := opX68) rfl (by kernel_rfl) (by kernel_rfl) 25 #[.agg (La.cells x)] (by kernel_rfl) _ (lastB_any x _) ?_
               rintro e wk19 ⟨rfl, hk⟩
               have hH2 : Box wk19 gk1 26 (Bv.cells ⟨up, ⟨ea, en, ec⟩, ⟨(some ⟨xb, xo, none⟩), ln, lc⟩⟩) ∧ Box wk19 gk12 67 (La.cells x) := ⟨hH.1.kept hk (fun e => e), hH.2.kept hk (fun e => e)⟩
               have HF : Hid (Fr No w (wk19) [(gk1, 26, Bv.cells ⟨up, ⟨ea, en, ec⟩, ⟨(some ⟨xb, xo, none⟩), ln, lc⟩⟩), (gk12, 67, La.cells x)]) := HF.out.no hk
               clear hk
               refine ⟨.bool false, by rw [q20], hH2, fun hH => ?_⟩
               clear hH2
               try simp only [pA, pB, p1, p2, p3]
               refine aK (i := 37) (oi := opX69) (v := .bool true) hH ?_
               try simp only [pA, pB, p1, p2, p3]
               refine aK (i := 38) (oi := opX70) (v := .bool true) hH ?_
               try simp only [pA, pB, p1, p2, p3]
               refine wpAnyH_done (by kernel_rfl) ?_ _
               try simp only [pA, pB, p1, p2, p3]
               clear hH
               have hv : lasB up ls i = false := by rw [HEN.out]; simp [hid, q17, q18, q19, q20]
               go_upto_region 14 with fail
               refine WL.start ?_
               refine tK (.bool false) ?_
               try simp only [pA, pB, p1, p2, p3]
               refine WL.nil ?_
               try simp only [pA, pB, p1, p2, p3]
               have hv : bktB up es ls = false := HNo.out hv
               go_wp2
               rw [HC.out]
               exact ⟨by rw [hv]; rfl, HF.out.kept⟩
              ·skip
               refine any_call (i := 36) (o := opX68) rfl (by kernel_rfl) (by kernel_rfl) 25 #[.agg (La.cells x)] (by kernel_rfl) _ (lastB_any x _) ?_
               rintro e wk20 ⟨rfl, hk⟩
               have hH2 : Box wk20 gk1 26 (Bv.cells ⟨up, ⟨ea, en, ec⟩, ⟨(some ⟨xb, xo, none⟩), ln, lc⟩⟩) ∧ Box wk20 gk12 67 (La.cells x) := ⟨hH.1.kept hk (fun e => e), hH.2.kept hk (fun e => e)⟩
               have HF : Hid (Fr No w (wk20) [(gk1, 26, Bv.cells ⟨up, ⟨ea, en, ec⟩, ⟨(some ⟨xb, xo, none⟩), ln, lc⟩⟩), (gk12, 67, La.cells x)]) := HF.out.no hk
               clear hk
               refine ⟨.bool true, by rw [q20], hH2, fun hH => ?_⟩
               clear hH2
               try simp only [pA, pB, p1, p2, p3]
               refine aK (i := 37) (oi := opX69) (v := .bool false) hH ?_
               try simp only [pA, pB, p1, p2, p3]
               refine aK (i := 38) (oi := opX70) (v := .bool false) hH ?_
               try simp only [pA, pB, p1, p2, p3]
               refine wpAnyH_done (by kernel_rfl) ?_ _
               try simp only [pA, pB, p1, p2, p3]
               clear hH
               have hv : lasB up ls i = true := by rw [HEN.out]; simp [hid, q17, q18, q19, q20]
               have HP2 : Hid (∀ j, j < i + 1 → lasB up ls j = true) := HYes.out hv
               have HF : Hid (Fr No w wk20 [(gk1, 26, Bv.cells ⟨up, ⟨ea, en, ec⟩, ⟨(some ⟨xb, xo, none⟩), ln, lc⟩⟩)]) := (show Fr No w wk20 ([(gk1, 26, Bv.cells ⟨up, ⟨ea, en, ec⟩, ⟨(some ⟨xb, xo, none⟩), ln, lc⟩⟩)] ++ [(gk12, 67, La.cells x)]) from HF.out).front
               clear HEN HNo HYes HP hv hid q17 q18 q19 q20
               go_wp2
               go_roundw
               case rel => exact ⟨i + 1, by go_num, by omega, HP2, HF⟩
               case measure => simp [intOf]; omega
         ·skip
          have HPL : Hid (∀ j, j < ln → lasB up ls j = true) := fun j hj => HP.out j (by omega)
          clear HP
          go_upto_region 10 with fail
          refine WL.start ?_
          refine tK (.int .i64 ((i : Nat) : Int)) ?_
          try simp only [pA, pB, p1, p2, p3]
          refine tK (.pointer (some ⟨gk1, 2, none⟩)) ?_
          try simp only [pA, pB, p1, p2, p3]
          refine tW (.slice la ln lc) (exec_load 24 _ rfl ⟨gk1, 2, none⟩ (by kernel_rfl) (.slice la ln lc) (ld23 ((HF.out.box 0 _ _ _ rfl).cell 2))) ?_
          try simp only [pA, pB, p1, p2, p3]
          refine tK (.int .i64 ((ln : Nat) : Int)) ?_
          try simp only [pA, pB, p1, p2, p3]
          refine tW (.bool false) (exec_bin .lss 3 _ _ _ rfl (.int .i64 ((i : Nat) : Int)) (.int .i64 ((ln : Nat) : Int)) (.bool false) (by kernel_rfl) (by kernel_rfl) (by kernel_rfl) (by rw [b_lss, decide_eq_false (by omega)])) ?_
          try simp only [pA, pB, p1, p2, p3]
          refine WL.nil ?_
          try simp only [pA, pB, p1, p2, p3]
          go_upto_region 15 with fail
          refine WL.start ?_
          refine tK (.bool true) ?_
          try simp only [pA, pB, p1, p2, p3]
          refine WL.nil ?_
          try simp only [pA, pB, p1, p2, p3]
          have hv : bktB up es ls = true := HB4.out HPE.out HPL.out
          go_wp2
          rw [HC.out]
          exact ⟨by rw [hv]; rfl, HF.out.kept⟩
   ·skip
    go_upto_region 2 with fail
    refine WL.start ?_
    refine tK (.bool false) ?_
    try simp only [pA, pB, p1, p2, p3]
    refine WL.nil ?_
    try simp only [pA, pB, p1, p2, p3]
    have hv : bktB up es ls = false := HBf.out hb0
    go_wp2
    rw [HC.out]
    exact ⟨by rw [hv]; rfl, HF.out.kept⟩

end Go.Proofs.Ytfemlnfknebalab
