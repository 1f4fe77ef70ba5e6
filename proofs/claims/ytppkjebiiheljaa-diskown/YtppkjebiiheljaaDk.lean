import Derived.Test.YtppkjebiiheljaaMd
import Derived.Laws.Rows
import Derived.Laws.Tables
import Derived.ChangeKeysEq
namespace Go.Proofs.Ytppkjebiiheljaa
open Go.RowKit
open Go.ChangeMaps (setBlock)
set_option linter.unusedVariables false
set_option linter.unusedSimpArgs false

theorem Try.info72 : (Try.prog.info? 72).map (fun i => (i.zero, i.size, i.bytes)) = some (some (secV zs), 512, 512) := by kernel_rfl
theorem Try.size72 : (Try.prog.info? 72).map (·.size) = some 512 := by kernel_rfl
theorem Try.zero72 (w : World) : (zeroValue 72).run Try.prog w = .ok (secV zs) w := by
  obtain ⟨i0, hi, hz0, hz1, hz2⟩ := info_parts Try.info72
  simp [zeroValue, typeInfo, hi, hz0]
theorem Try.und72 : Try.prog.underlying 72 = some (.array 512 5) := by kernel_rfl
theorem Try.und63 : Try.prog.underlying 63 = some (.map 3 72) := by kernel_rfl
theorem Try.und3 : Try.prog.underlying 3 = some (.int .i64) := by kernel_rfl
theorem Try.und5 : Try.prog.underlying 5 = some (.int .u8) := by kernel_rfl
theorem Try.plain5 : Try.prog.plainKey 5 = true := by kernel_rfl
theorem Try.cells5 : Try.prog.cellsOf 5 = 1 := by kernel_rfl
theorem Try.guard72 : Try.prog.eqGuardType Try.prog.depth 72 = false := by kernel_rfl

theorem u8s_size (s : List Int) : (u8s s).size = s.length := by simp [u8s]
theorem u8s_one (s : List Int) : (u8s s).all (·.oneCell') = true := by
  rw [Array.all_eq_true_iff_forall_mem]
  intro v hv
  simp [u8s] at hv
  obtain ⟨z, _, rfl⟩ := hv
  rfl
theorem zs_len : zs.length = 512 := List.length_replicate

section
variable {ops : Array Oper} {rest : List Oper} {o : Oper} {a : Act} {w : World} {Q : Exit → Act → World → Prop}

theorem wp_runTo (hg : o.guard = none) (v : Value) (w' : World) (hrun : (execOp a.eval o).run Try.prog w = .ok (.value v) w')
    (h : wpList Try.prog ops Q rest (a.put o.dst v) w') : wpList Try.prog ops Q (o :: rest) a w := by
  refine wpList_plain hg fun K hK => ?_
  unfold Oper.wp
  rw [hrun, Oper.upon_value]
  exact hK _ _ h

theorem wp_lookupS (hg : o.guard = none) (x y : Operand) (ho : o.op = .lookup 63 x y false) (b n : Nat) (hx : a.eval x = .map (some b)) (hy : a.eval y = .int .i64 n) {g : Nat → Option (List Int)} (hm : MapIs w b g)
    (h : wpList Try.prog ops Q rest (a.put o.dst (secV ((g n).getD zs))) w) : wpList Try.prog ops Q (o :: rest) a w := by
  refine wp_runTo hg _ w ?_ h
  simp [execOp, ho, hx, hy, run_lookup_sec hm Try.und63 Try.und3 (Try.zero72 w) n, Result.andThen]

theorem wp_allocS (hg : o.guard = none) (ho : o.op = .alloc 72) (N : Nat) (hN : w.heap.size = N)
    (h : wpList Try.prog ops Q rest (a.put o.dst (.pointer (some ⟨N, 0, none⟩))) (w.alloc (.cells (u8s zs) 72))) : wpList Try.prog ops Q (o :: rest) a w := by
  subst hN
  refine wp_runTo hg _ (w.alloc (.cells (u8s zs) 72)) ?_ h
  simp only [execOp, ho, Instr.alloc, Sem.run_bind, Try.zero72, Result.andThen_ok, newVar, newRow, run_newObj_alloc, Sem.run_pure]
  rfl

theorem wp_boxS (hg : o.guard = none) (x : Operand) (ho : o.op = .box 72 x) (s : List Int) (hx : a.eval x = secV s) (N : Nat) (hN : w.heap.size = N)
    (h : wpList Try.prog ops Q rest (a.put o.dst (.pointer (some ⟨N, 0, none⟩))) (w.alloc (.cells (u8s s) 72))) : wpList Try.prog ops Q (o :: rest) a w := by
  subst hN
  refine wp_runTo hg _ (w.alloc (.cells (u8s s) 72)) ?_ h
  simp only [execOp, ho, hx, Instr.box, Sem.run_bind, Result.andThen_ok, newVar, newRow, run_newObj_alloc, Sem.run_pure]
  rfl

theorem box_setRow {w : World} {g : Nat} {t : TypeId} {cs cs' : Array Value} (h : Box w g t cs) : Box (w.setRow g cs') g t cs' ∧ Kept (Only g) w (w.setRow g cs') ∧ (w.setRow g cs').heap.size = w.heap.size := by
  have hlt := h.lt
  unfold Box at h
  have e : w.setRow g cs' = { w with heap := w.heap.setIfInBounds g (.cells cs' t (0, 0)) } := by
    unfold World.setRow
    congr 1
    apply Array.ext_getElem?
    intro i
    rw [Array.getElem?_modify, Array.getElem?_setIfInBounds]
    by_cases e : g = i
    · subst e; rw [if_pos rfl, if_pos rfl, h]; simp [hlt]
    · simp [e]
  rw [e]
  refine ⟨?_, ⟨rfl, rfl, rfl, by simp, fun k hk hS => ?_⟩, by simp⟩
  · unfold Box; simp [hlt]
  · have : k ≠ g := hS
    simp [Ne.symm this]

theorem wp_storeS (hg : o.guard = none) (x y : Operand) (ho : o.op = .store 72 x y) (g : Nat) (s : List Int) (hx : a.eval x = .pointer (some ⟨g, 0, none⟩)) (hy : a.eval y = secV s) (hl : s.length = 512)
    {t : TypeId} {old : List Int} (hb : Box w g t (u8s old)) (hol : old.length = 512)
    (h : ∀ w', Box w' g t (u8s s) → Kept (Only g) w w' → w'.heap.size = w.heap.size → wpList Try.prog ops Q rest (a.put o.dst undef) w') : wpList Try.prog ops Q (o :: rest) a w :=
  wpList_store_row hg 72 x y ho g (u8s s) hx hy t (u8s old) hb (by rw [u8s_size, hl]; exact Try.size72) (by rw [u8s_size, u8s_size, hl, hol]) (u8s_one s) (h _ (box_setRow hb).1 (box_setRow hb).2.1 (box_setRow hb).2.2)

theorem wp_loadS (hg : o.guard = none) (x : Operand) (ho : o.op = .load 72 x) (g : Nat) (s : List Int) (hx : a.eval x = .pointer (some ⟨g, 0, none⟩)) (hl : s.length = 512) {t : TypeId} (hb : Box w g t (u8s s))
    (h : wpList Try.prog ops Q rest (a.put o.dst (secV s)) w) : wpList Try.prog ops Q (o :: rest) a w :=
  wpList_load_row hg 72 x ho g hx t (u8s s) (0, 0) _ hb Try.und72 rfl (by rw [u8s_size, hl]; exact Try.size72) h

theorem wp_buildS (hg : o.guard = none) (ho : o.op = .build 72 #[]) (h : wpList Try.prog ops Q rest (a.put o.dst (secV zs)) w) : wpList Try.prog ops Q (o :: rest) a w := by
  refine wp_runTo hg _ w ?_ h
  obtain ⟨i5, hi5⟩ : ∃ i5, Try.prog.info? 5 = some i5 := by
    have : ((Try.prog.info? 5).map (·.size)) = some 1 := by kernel_rfl
    cases h : Try.prog.info? 5 with
    | none => simp [h] at this
    | some i => exact ⟨i, rfl⟩
  simp only [execOp, ho, Instr.build, Sem.run_bind, Try.zero72, Result.andThen_ok, run_underlying Try.und72, sizeOf, typeInfo, hi5]
  simp [hi5, Instr.fill, secV, Value.cells]

theorem run_eqItems_u8 (d : Nat) (x y : List Int) : ∀ is : List Nat, (∀ i ∈ is, i < x.length ∧ i < y.length) → (Op.eqItems (d + 1) 5 1 (u8s x) (u8s y) is).run Try.prog w = .ok (is.all fun i => x[i]?.getD 0 == y[i]?.getD 0) w
  | [], _ => by simp [Op.eqItems]
  | i :: is, h => by
    obtain ⟨hx, hy⟩ := h i (by simp)
    have h1 : (u8s x)[i * 1]? = some (.int .u8 (x[i]?.getD 0)) := by simp [u8s, List.getElem?_eq_getElem hx]
    have h2 : (u8s y)[i * 1]? = some (.int .u8 (y[i]?.getD 0)) := by simp [u8s, List.getElem?_eq_getElem hy]
    have ih := run_eqItems_u8 d x y is (fun j hj => h j (by simp [hj]))
    simp only [Op.eqItems, Sem.run_bind, run_part_plain w Try.plain5 h1, run_part_plain w Try.plain5 h2, Result.andThen_ok, run_equalIn_int w d 5 .u8 .u8 _ _ Try.und5, List.all_cons]
    cases hb : (x[i]?.getD 0 == y[i]?.getD 0)
    · simp
    · simp [ih]

theorem all_range_eq (x y : List Int) (n : Nat) (hx : x.length = n) (hy : y.length = n) : ((List.range n).all fun i => x[i]?.getD 0 == y[i]?.getD 0) = decide (x = y) := by
  rw [Bool.eq_iff_iff]
  simp only [List.all_eq_true, List.mem_range, beq_iff_eq, decide_eq_true_eq]
  constructor
  · intro h
    refine List.ext_getElem (by omega) fun i h1 h2 => ?_
    have := h i (by omega)
    simpa [List.getElem?_eq_getElem h1, List.getElem?_eq_getElem h2] using this
  · rintro rfl i hi; rfl

theorem wp_eqlS (hg : o.guard = none) (x y : Operand) (ty : TypeId) (ho : o.op = .binOp .eql 72 x y ty) (s r : List Int) (hx : a.eval x = secV s) (hy : a.eval y = secV r) (hs : s.length = 512) (hr : r.length = 512)
    (h : wpList Try.prog ops Q rest (a.put o.dst (.bool (decide (s = r)))) w) : wpList Try.prog ops Q (o :: rest) a w := by
  refine wp_runTo hg _ w ?_ h
  obtain ⟨i5, hi5⟩ : ∃ i5, Try.prog.info? 5 = some i5 := by
    have : ((Try.prog.info? 5).map (·.size)) = some 1 := by kernel_rfl
    cases h : Try.prog.info? 5 with
    | none => simp [h] at this
    | some i => exact ⟨i, rfl⟩
  have he : (Op.equalIn 10000 72 (.agg (u8s s)) (.agg (u8s r))).run Try.prog w = .ok (decide (s = r)) w := by
    rw [run_equalIn_array w 9999 (u8s s) (u8s r) Try.und72 hi5, Try.cells5, run_eqItems_u8 9998 s r (List.range 512) (fun i hi => by simp at hi; omega), all_range_eq s r 512 hs hr]
  simp only [execOp, ho, hx, hy, secV, eqGuard, Sem.run_bind, run_program, Try.guard72, run_eql_struct, he, Result.andThen_ok, Sem.run_pure]
  simp only [Bool.not_true, Bool.false_eq_true, if_false, Sem.run_bind, run_program, Result.andThen_ok, Try.guard72, Bool.not_false, if_true, Sem.run_pure, he]

theorem wp_updateS (hg : o.guard = none) (x y z : Operand) (ho : o.op = .mapUpdate 63 x y z) (b n : Nat) (s : List Int) (hx : a.eval x = .map (some b)) (hy : a.eval y = .int .i64 n) (hz : a.eval z = secV s) {g : Nat → Option (List Int)} (hm : MapIs w b g)
    (h : ∀ w', MapIs w' b (updG g n (some s)) → Kept (Only b) w w' → wpList Try.prog ops Q rest (a.put o.dst undef) w') : wpList Try.prog ops Q (o :: rest) a w := by
  obtain ⟨w', hrun, h1, h2⟩ := run_update_sec hm Try.und63 Try.und3 n s
  refine wpList_plain hg fun K hK => ?_
  unfold Oper.wp execOp
  simp only [ho, hx, hy, hz, hrun, Sem.run_bind, Result.andThen_ok, Sem.run_pure]
  exact hK _ _ (h w' h1 h2)

theorem wp_deleteS (hg : o.guard = none) (x y : Operand) (ho : o.op = .call { callee := Callee.builtin Builtin.delete, args := #[x, y], argTypes := #[63, 3] }) (b n : Nat) (hx : a.eval x = .map (some b)) (hy : a.eval y = .int .i64 n) {g : Nat → Option (List Int)} (hm : MapIs w b g)
    (h : ∀ w', MapIs w' b (updG g n none) → Kept (Only b) w w' → wpList Try.prog ops Q rest (a.put o.dst (.tuple #[])) w') : wpList Try.prog ops Q (o :: rest) a w := by
  obtain ⟨w', hrun, h1, h2⟩ := run_delete_sec (ty := o.type) hm Try.und63 Try.und3 n
  refine wp_runTo hg _ w' ?_ (h w' h1 h2)
  simp only [execOp, ho, resolve, invoke, builtin, Sem.run_bind, Sem.run_pure, Result.andThen_ok]
  simp [hx, hy, hrun, Result.andThen]
end

end Go.Proofs.Ytppkjebiiheljaa
