import Derived.Test.YtpabpeppgpeaoaaB
import Derived.Maps.AppendAt
namespace Go.Proofs.Ytpabpeppgpeaoaa
open Go.RowKit
set_option linter.unusedVariables false
set_option linter.unusedSimpArgs false

theorem exec_ixA {o : Oper} {a : Act} {w : World} (t : TypeId) (n : Nat) (hu : Try.prog.underlying t = some (.slice (Try.prog.elem t))) (hs : (Try.prog.info? (Try.prog.elem t)).map (·.size) = some n)
    (x y : Operand) (ho : o.op = .indexAddr t x y) (b off len cap i : Nat) (hx : a.eval x = .slice (some ⟨b, off, none⟩) len cap) (hy : a.eval y = .int .i64 i) (hi : i < len) : (execOp a.eval o).run Try.prog w = .ok (.value (.pointer (some ⟨b, off + i * n, none⟩))) w := by
  cases hq : Try.prog.info? (Try.prog.elem t) with
  | none => rw [hq] at hs; cases hs
  | some inf =>
    rw [hq] at hs
    have hsz : inf.size = n := by simpa using hs
    have hrun : (Instr.indexAt t (.slice (some ⟨b, off, none⟩) len cap) (.int .i64 i)).run Try.prog w = .ok (.pointer (some ⟨b, off + i * n, none⟩)) w := by
      rw [run_indexAt_slice w t _ len cap .i64 i hu, if_pos ⟨by omega, by omega⟩]
      simp [sizeOf, typeInfo, hq, hsz, addr_add]
    simp only [execOp, ho, hx, hy, Sem.run_bind, hrun, Result.andThen_ok, Sem.run_pure]
theorem exec_append {o : Oper} {a : Act} {w : World} (s x : Operand) (T E : TypeId) (c by' : Nat) (z : Value) (ht : Try.prog.underlying T = some (.slice E))
    (hinf : (Try.prog.info? E).map (fun i => (i.zero, i.size, i.bytes)) = some (some z, c, by')) (hzc : z.cells.size = c) (hc0 : 0 < c) (ho : o.op = .call { callee := Callee.builtin Builtin.append, args := #[s, x], argTypes := #[T, T] })
    (base n cap : Nat) (sa : Option Addr) (vs : List Value) (hs : a.eval s = .slice sa n cap) (hown : Own E c w base sa cap n vs) (ad : Addr) (cc : Nat) (news : List Value) (hx : a.eval x = .slice (some ad) 1 cc) (hl : news.length = c) (hnews : ∀ j u, news[j]? = some u → w.cell? (ad.add j) = some u) (h1 : ∀ u ∈ news, u.oneCell' = true) (hbd : (n + 1) * by' ≤ 140737488355328) (hb63 : n + 1 ≤ 100000000) (hbase : base ≤ w.heap.size) :
    ∃ g' cap' w', (execOp a.eval o).run Try.prog w = .ok (.value (.slice (some ⟨g', 0, none⟩) (n + 1) cap')) w' ∧ Own E c w' base (some ⟨g', 0, none⟩) cap' (n + 1) (vs ++ news) ∧ Kept (At sa) w w' ∧ (At sa g' ∨ g' = w.heap.size) := by
  obtain ⟨i0, hi, hz0, hz1, hz2⟩ := info_parts hinf
  obtain ⟨v', w', hrun, r1, r2, _, r4⟩ := run_append_own_at (P := Try.prog) (w := w) base T o.type E i0 z c by' ht hi hz0 hz1 hz2 hzc hc0 (.slice sa n cap) n vs hown ad 1 cc news (by omega) hnews h1 (by unfold maxLen; omega) hbd hbase
  have hk : Kept (At sa) w w' := (Kept.refl (At sa) w).grown r2 (fun k e hk => by
    cases sa with
    | none => cases e
    | some ad' => simp only [Value.ownBlock, Option.some.injEq] at e; exact ⟨ad', rfl, e⟩)
  rcases r1.2 with ⟨e, h0⟩ | ⟨g, cap', cur, e, _⟩
  · omega
  · subst e
    have h4 : At sa g ∨ g = w.heap.size := by
      rcases r4 with e | e
      · left
        cases sa with
        | none => simp [Value.ownBlock] at e
        | some ad' => simp only [Value.ownBlock, Option.some.injEq] at e; exact ⟨ad', rfl, e.symm⟩
      · right; simpa [Value.ownBlock] using e
    refine ⟨g, cap', w', ?_, r1, hk, h4⟩
    simp [execOp, ho, resolve, invoke, builtin, hs, hx, hrun, Result.andThen]
theorem exec_slice1 {o : Oper} {a : Act} {w : World} (t e : TypeId) (parts : Array (Nat × Operand)) (ho : o.op = .buildSlice t 1 parts) (cells : Array Value) (hrun : (Instr.buildSlice t 1 (parts.map fun (i, x) => (i, a.eval x))).run Try.prog w = .ok (.slice (some ⟨w.heap.size, 0, none⟩) 1 1) (w.alloc (.cells cells e))) : (execOp a.eval o).run Try.prog w = .ok (.value (.slice (some ⟨w.heap.size, 0, none⟩) 1 1)) (w.alloc (.cells cells e)) := by
  simp only [execOp, ho, Sem.run_bind, hrun, Result.andThen_ok, Sem.run_pure]
theorem exec_slice2 {o : Oper} {a : Act} {w : World} (t e : TypeId) (parts : Array (Nat × Operand)) (ho : o.op = .buildSlice t 1 parts) (cells : Array Value) (v : Value) (hp : (parts.map fun (i, x) => (i, a.eval x)) = #[(0, v)])
    (hrun : (Instr.buildSlice t 1 #[(0, v)]).run Try.prog w = .ok (.slice (some ⟨w.heap.size, 0, none⟩) 1 1) (w.alloc (.cells cells e))) : (execOp a.eval o).run Try.prog w = .ok (.value (.slice (some ⟨w.heap.size, 0, none⟩) 1 1)) (w.alloc (.cells cells e)) :=
  exec_slice1 t e parts ho cells (by rw [hp]; exact hrun)
theorem wp_appW {ops : Array Oper} {rest : List Oper} {o : Oper} {a : Act} {w : World} {Q : Exit → Act → World → Prop} {s x : Operand} {vs vx : Value} {base n c : Nat} {E : TypeId} {sa : Option Addr} {l : List Value}
    (happ : ∀ A : Act, A.eval s = vs → A.eval x = vx → ∃ g' cap' w', (execOp A.eval o).run Try.prog w = .ok (.value (.slice (some ⟨g', 0, none⟩) (n + 1) cap')) w' ∧ Own E c w' base (some ⟨g', 0, none⟩) cap' (n + 1) l ∧ Kept (At sa) w w' ∧ (At sa g' ∨ g' = w.heap.size))
    (h1 : a.eval s = vs) (h2 : a.eval x = vx) (hw : Region.wanted o (yielded ops a.tmps) = true)
    (h : ∀ g' cap' w', Own E c w' base (some ⟨g', 0, none⟩) cap' (n + 1) l → Kept (At sa) w w' → (At sa g' ∨ g' = w.heap.size) → WL ops Q rest (a.put o.dst (.slice (some ⟨g', 0, none⟩) (n + 1) cap')) w') : WL ops Q (o :: rest) a w := by
  obtain ⟨g', cap', w', hrun, ho, hk, hg⟩ := happ a h1 h2
  exact wp_runW _ w' hrun hw (h g' cap' w' ho hk hg)
theorem exec_box {o : Oper} {a : Act} {w : World} (t : TypeId) (x : Operand) (ho : o.op = .box t x) (cs : Array Value) (hx : a.eval x = .agg cs) : (execOp a.eval o).run Try.prog w = .ok (.value (.pointer (some ⟨w.heap.size, 0, none⟩))) (w.alloc (.cells cs t)) := by
  simp only [execOp, ho, hx, Instr.box, Sem.run_bind, Result.andThen_ok, newVar, newRow, run_newObj_alloc, Sem.run_pure]
  rfl
theorem slice1_ms (m : Ms) (w : World) : (Instr.buildSlice 66 1 #[(0, .agg m.cells)]).run Try.prog w = .ok (.slice (some ⟨w.heap.size, 0, none⟩) 1 1) (w.alloc (.cells m.cells 47)) := by kernel_rfl
theorem Try.und47' : Try.prog.underlying 47 = some (.struct (Try.prog.fieldsOf 47)) := by kernel_rfl
theorem Try.und66 : Try.prog.underlying 66 = some (.slice 47) := by kernel_rfl
theorem Try.info47 : (Try.prog.info? 47).map (fun i => (i.zero, i.size, i.bytes)) = some (some (.agg msZ.cells), 30, 312) := by kernel_rfl
theorem load_Ms {w : World} {g : Nat} {m : Ms} (hb : Box w g 47 m.cells) : (loadVar 47 ⟨g, 0, none⟩).run Try.prog w = .ok (.agg m.cells) w :=
  run_load_part hb (Part.all _) Try.und47' rfl Try.size47
/-- A message to one server. -/
def Ms.to (m : Ms) (z : Int) : Ms := { m with tc := false, ti := z }
theorem Try.size37 : (Try.prog.info? 37).map (·.size) = some 2 := by kernel_rfl
theorem store_To {w : World} {g : Nat} {m : Ms} (hb : Box w g 47 m.cells) (z : Int) : (storeVar 37 ⟨g, 3, none⟩ (.agg #[.bool false, .int .i64 z])).run Try.prog w = .ok () (w.setRow g (m.to z).cells) :=
  run_store_at (vs := [.bool false, .int .i64 z]) hb rfl Try.size37 (by rw [Ms.len]; exact Nat.le_of_ble_eq_true rfl) (by simp [Value.oneCell'])
def msL (l : List Ms) : List Value := l.flatMap Ms.cs
theorem msL_len (l : List Ms) : (msL l).length = l.length * 30 := by
  induction l with
  | nil => rfl
  | cons m l ih => simp only [msL, List.flatMap_cons, List.length_append, List.length_cons] at *; rw [ih, Ms.len]; omega
theorem msL_snoc (l : List Ms) (m : Ms) : msL (l ++ [m]) = msL l ++ m.cs := by simp [msL]
end Go.Proofs.Ytpabpeppgpeaoaa
