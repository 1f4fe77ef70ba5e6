import Derived.Test.YtgiokkcdgoloaabHd
namespace Go.Proofs.Ytgiokkcdgoloaab
open Go.RowKit
set_option linter.unusedVariables false
set_option linter.unusedSimpArgs false

theorem meth_setW (cl : Int) (da : Option Addr) (dl dc : Nat) (w : World) : (method 280 96 (.agg #[.int .i64 cl, .slice da dl dc]) "cairn/register.settle").run Try.prog w = .ok (99, .agg #[.int .i64 cl, .slice da dl dc]) w := by kernel_rfl
theorem meth_setR (sz : Int) (w : World) : (method 280 93 (.agg #[.int .i64 sz]) "cairn/register.settle").run Try.prog w = .ok (98, .agg #[.int .i64 sz]) w := by kernel_rfl

/-- New variables of a block's and of a result's type. -/
def Z57 : Array Value := #[.int .i64 0, .int .i64 0, .slice none 0 0]
def al57 (w : World) : World := w.alloc (.cells Z57 31)
def al90 (w : World) : World := w.alloc (.cells (resC 0 0 0 none 0 0) 39)
def Is57 (w : World) (g : Nat) : Prop := Box w g 31 Z57
def Is90 (w : World) (g : Nat) : Prop := Box w g 39 (resC 0 0 0 none 0 0)
def allocB (o : Value) : Sem Value := Instr.alloc 31 true o
def allocR (o : Value) : Sem Value := Instr.alloc 39 true o
theorem allocB_eq (o : Value) : Instr.alloc 31 true o = allocB o := rfl
theorem allocR_eq (o : Value) : Instr.alloc 39 true o = allocR o := rfl
theorem Try.info39 : (Try.prog.info? 39).map (fun i => (i.zero, i.size, i.bytes)) = some (some (.agg (resC 0 0 0 none 0 0)), 11, 128) := by kernel_rfl
theorem run_allocB (o : Value) (w : World) : Sem.run Try.prog (allocB o) w = .ok (.pointer (some ⟨w.heap.size, 0, none⟩)) (al57 w) := by
  obtain ⟨i0, hi, hz0, hz1, hz2⟩ := info_parts Try.info31
  simp [allocB, Instr.alloc, zeroValue, typeInfo, hi, hz0, newVar, newRow, run_newObj_alloc, Result.andThen, al57, Z57, Value.cells]
theorem run_allocR (o : Value) (w : World) : Sem.run Try.prog (allocR o) w = .ok (.pointer (some ⟨w.heap.size, 0, none⟩)) (al90 w) := by
  obtain ⟨i0, hi, hz0, hz1, hz2⟩ := info_parts Try.info39
  simp [allocR, Instr.alloc, zeroValue, typeInfo, hi, hz0, newVar, newRow, run_newObj_alloc, Result.andThen, al90, Value.cells]
def storeB (x : Addr) (v : Value) := storeVar 31 x v
theorem storeB_eq (x : Addr) (v : Value) : storeVar 31 x v = storeB x v := rfl
theorem run_storeB {w : World} {g : Nat} (h : Is57 w g) (n c : Int) (a : Option Addr) (l k : Nat) : Sem.run Try.prog (storeB ⟨g, 0, none⟩ (.agg #[.int .i64 n, .int .i64 c, .slice a l k])) w = .ok () (w.setRow g #[.int .i64 n, .int .i64 c, .slice a l k]) :=
  run_storeVar_row w g 31 31 Z57 _ h Try.size31 rfl (by simp [Value.oneCell'])
theorem run_storeR' {w : World} {g : Nat} (h : Is90 w g) (cs : Array Value) (hc : cs.size = 11) (h1 : cs.all (·.oneCell') = true) : Sem.run Try.prog (storeR ⟨g, 0, none⟩ (.agg cs)) w = .ok () (w.setRow g cs) := run_storeR g w cs h hc h1
theorem Is57.new (w : World) : Is57 (al57 w) w.heap.size := Box.new _ _ _
theorem Is90.new (w : World) : Is90 (al90 w) w.heap.size := Box.new _ _ _
theorem Is57.al {w : World} {g : Nat} (h : Is57 w g) : Is57 (al90 w) g := Box.alloc h _
theorem Is90.al {w : World} {g : Nat} (h : Is90 w g) : Is90 (al57 w) g := Box.alloc h _
theorem box_ne {w : World} {g g' : Nat} {t t' : TypeId} {cs cs' : Array Value} (h : Box w g t cs) (h' : Box w g' t' cs') (ht : t ≠ t') : g ≠ g' := by
  rintro rfl
  unfold Box at h h'
  rw [h] at h'
  simp at h'
  exact ht h'.2
theorem Is90.row {w : World} {g p : Nat} (h : Is90 w g) (h' : Is57 w p) (cs : Array Value) : Is90 (w.setRow p cs) g := Box.kept h (Kept.setRow _ _ _) (fun e => box_ne h h' (by decide) e)
/-- The phase's own variable. -/
def IsN (N : Nat) (v1 v2 : Value) (w : World) : Prop := Box w N 150 #[v1, v2]
theorem IsN.al57 {N : Nat} {v1 v2 : Value} {w : World} (h : IsN N v1 v2 w) : IsN N v1 v2 (al57 w) := Box.alloc h _
theorem IsN.al90 {N : Nat} {v1 v2 : Value} {w : World} (h : IsN N v1 v2 w) : IsN N v1 v2 (al90 w) := Box.alloc h _
theorem IsN.row57 {N p : Nat} {v1 v2 : Value} {w : World} (h : IsN N v1 v2 w) (h' : Is57 w p) (cs : Array Value) : IsN N v1 v2 (w.setRow p cs) := Box.kept h (Kept.setRow _ _ _) (fun e => box_ne h h' (by decide) e)
theorem IsN.row90 {N p : Nat} {v1 v2 : Value} {w : World} (h : IsN N v1 v2 w) (h' : Is90 w p) (cs : Array Value) : IsN N v1 v2 (w.setRow p cs) := Box.kept h (Kept.setRow _ _ _) (fun e => box_ne h h' (by decide) e)
theorem IsN.c0 {N : Nat} {v1 v2 : Value} {w : World} (h : IsN N v1 v2 w) : w.cell? ⟨N, 0, none⟩ = some v1 := Box.cell h 0
theorem IsN.c1 {N : Nat} {v1 v2 : Value} {w : World} (h : IsN N v1 v2 w) : w.cell? ⟨N, 1, none⟩ = some v2 := Box.cell h 1

end Go.Proofs.Ytgiokkcdgoloaab
