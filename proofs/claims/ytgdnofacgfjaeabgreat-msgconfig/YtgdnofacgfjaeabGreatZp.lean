import Derived.Test.YtgdnofacgfjaeabGreatZm
import Derived.Deep.Cut
namespace Go.Proofs.YtgdnofacgfjaeabGreat
open Go.RowKit
set_option linter.unusedVariables false

/-- The zero message. -/
def mZ : MsgD := ⟨0, false, 0, false, 0, 0, 0, 0, 0, 0, 0, 0, 0, 0, 0, none, 0, 0, 0, 0, 0, ByteArray.empty, 0, 0, 0, 0, 0, 0, none, 0, 0, none, 0, 0, none, 0, 0, false⟩
theorem Tryz.info71z : (Tryz.prog.info? 71).bind (·.zero) = some (.agg mZ.cells) := by kernel_rfl
theorem zero_of {t : TypeId} {z : Value} (h : (Tryz.prog.info? t).bind (·.zero) = some z) (w : World) : (zeroValue t).run Tryz.prog w = .ok z w := by
  cases hi : Tryz.prog.info? t with
  | none => rw [hi] at h; cases h
  | some i =>
    rw [hi] at h
    simp only [Option.bind_some] at h
    simp [zeroValue, typeInfo, hi, h]
section
variable {ops : Array Oper} {rest : List Oper} {o : Oper} {a : Act} {w : World} {Q : Exit → Act → World → Prop}
theorem wp_allocT (hg : o.guard = none) (t : TypeId) (ho : o.op = .alloc t) (cs : Array Value) (hz : (Tryz.prog.info? t).bind (·.zero) = some (.agg cs)) (N : Nat) (hN : w.heap.size = N)
    (h : wpList Tryz.prog ops Q rest (a.put o.dst (.pointer (some ⟨N, 0, none⟩))) (w.alloc (.cells cs t))) : wpList Tryz.prog ops Q (o :: rest) a w := by
  subst hN
  refine wp_runTo hg _ (w.alloc (.cells cs t)) ?_ h
  simp only [execOp, ho, Instr.alloc, Sem.run_bind, zero_of hz, Result.andThen_ok, newVar, newRow, run_newObj_alloc, Sem.run_pure]
  rfl
end
theorem run_zero71 (w : World) : (zeroValue 71).run Tryz.prog w = .ok (.agg mZ.cells) w := zero_of Tryz.info71z w
theorem Box.setRow {w : World} {g : Nat} {t : TypeId} {old : Array Value} (h : Box w g t old) (cs : Array Value) : Box (w.setRow g cs) g t cs := setRow_heap w g old cs t (0, 0) h
theorem Kept.setRow (w : World) (g : Nat) (cs : Array Value) : Kept (Only g) w (w.setRow g cs) :=
  ⟨rfl, rfl, rfl, by simp [World.setRow], fun k _ hk => setRow_other w g k cs hk⟩
theorem cell_setRow (w : World) (g : Nat) (cs : Array Value) (b i : Nat) (h : b ≠ g) : (w.setRow g cs).cell? ⟨b, i, none⟩ = w.cell? ⟨b, i, none⟩ := by
  unfold World.cell?
  simp only []
  rw [setRow_other w g b cs h]
/-- A whole message is stored into a new variable. -/
theorem MsgD.one (m : MsgD) : m.cells.all (·.oneCell') = true := by simp [MsgD.cells, Value.oneCell']
theorem run_store71 (m : MsgD) (g : Nat) (w : World) (hb : Box w g 71 mZ.cells) :
    (storeVar 71 ⟨g, 0, none⟩ (.agg m.cells)).run Tryz.prog w = .ok () (w.setRow g m.cells) :=
  run_storeVar_row w g 71 71 mZ.cells _ hb Tryz.size71 rfl m.one
theorem run_cells71 (m : MsgD) (g : Nat) (w : World) (hb : Box w g 71 mZ.cells) :
    (storeCells ⟨g, 0, none⟩ m.cells.toList).run Tryz.prog w = .ok () (w.setRow g m.cells) := by
  have := run_storeCells_from (P := Tryz.prog) g 71 m.cells.toList 0 mZ.cells w hb (by simp [MsgD.cells]) (fun v hv => (Array.all_eq_true_iff_forall_mem.1 m.one) v (by simpa using hv))
  rw [this]
  simp only [List.take_zero, List.nil_append, Array.toArray_toList]
theorem mZ_size : mZ.cells.size = 30 := rfl
theorem mZ_ne : (mZ.cells = #[]) = False := eq_false (fun e => by have := congrArg Array.size e; rw [mZ_size] at this; cases this)
theorem build71 (a0 : Int) (a1 : Bool) (a2 : Int) (a3 : Bool) (a4 a5 a6 a7 a8 a9 a10 : Int) : ((((((((((mZ.cells.setIfInBounds 0 (.int .i64 a0)).setIfInBounds 1 (.bool a1)).setIfInBounds 2 (.int .i64 a2)).setIfInBounds 3 (.bool a3)).setIfInBounds 4 (.int .i64 a4)).setIfInBounds 5 (.int .i64 a5)).setIfInBounds 6 (.int .i64 a6)).setIfInBounds 7 (.int .i64 a7)).setIfInBounds 8 (.int .i64 a8)).setIfInBounds 9 (.int .i64 a9)).setIfInBounds 10 (.int .i64 a10) = MsgD.cells { mZ with kind := a0, fc := a1, fi := a2, tc := a3, ti := a4, op := a5, rd := a6, kk := a7, ka := a8, kb := a9, kc := a10 } := by kernel_rfl
theorem box_new (w : World) (cs : Array Value) (t : TypeId) : Box (w.alloc (.cells cs t)) w.heap.size t cs := Box.new _ _ _

end Go.Proofs.YtgdnofacgfjaeabGreat
