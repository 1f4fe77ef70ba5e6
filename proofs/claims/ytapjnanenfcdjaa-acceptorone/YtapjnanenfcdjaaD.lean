import Derived.Test.YtapjnanenfcdjaaC
namespace Go.Proofs.Ytapjnanenfcdjaa
open Go.RowKit
set_option linter.unusedVariables false
set_option linter.unusedSimpArgs false

section
variable {ops : Array Oper} {o : Oper} {a : Act} {w w' : World} {Q : Exit → Act → World → Prop} {md : Region.Mode} {S : World → Prop}
theorem exec_bin (b : BinOp) (t s : TypeId) (x y : Operand) (ho : o.op = .binOp b t x y s) (vx vy v : Value) (hx : a.eval x = vx) (hy : a.eval y = vy) (hgd : (eqGuard b t x y vx vy).run Try.prog w = .ok () w)
    (hrun : (binOp b t vx vy).run Try.prog w = .ok v w) : (execOp a.eval o).run Try.prog w = .ok (.value v) w := by
  simp only [execOp, ho, hx, hy, Sem.run_bind, hgd, hrun, Result.andThen_ok, Sem.run_pure]
theorem exec_build (t : TypeId) (parts : Array (Nat × Operand)) (ho : o.op = .build t parts) (cs : Array Value) (hf : Try.prog.built t (parts.map fun (i, x) => (i, a.eval x)).toList = some cs) : (execOp a.eval o).run Try.prog w = .ok (.value (.agg cs)) w := by
  simp only [execOp, ho, Sem.run_bind, run_build w t _ cs hf, Result.andThen_ok, Sem.run_pure]
theorem exec_alloc (t : TypeId) (ho : o.op = .alloc t) (cs : Array Value) (hz : (Try.prog.info? t).bind (·.zero) = some (.agg cs)) : (execOp a.eval o).run Try.prog w = .ok (.value (.pointer (some ⟨w.heap.size, 0, none⟩))) (w.alloc (.cells cs t)) := by
  simp only [execOp, ho, Instr.alloc, Sem.run_bind, zero_of hz, Result.andThen_ok, newVar, newRow, run_newObj_alloc, Sem.run_pure]
  rfl
theorem exec_store (t : TypeId) (x y : Operand) (ho : o.op = .store t x y) (ad : Addr) (v : Value) (hx : a.eval x = .pointer (some ad)) (hy : a.eval y = v) (hrun : (storeVar t ad v).run Try.prog w = .ok () w') : (execOp a.eval o).run Try.prog w = .ok .skip w' := by
  simp only [execOp, ho, hx, hy, Instr.storeAt, Instr.sureAddr, Sem.run_bind, Sem.run_pure, Result.andThen_ok, hrun]
/-- What comes up next, alone. -/
theorem any_step {i : Nat} {fuel : Nat} {listed : Array Bool} {v : Value} (hi : ops[i]? = some o) (hr : Region.ready md ops listed = [i]) (hw : Region.wanted o (yielded ops a.tmps) = true)
    (hrun : (execOp a.eval o).run Try.prog w = .ok (.value v) w') (hS : S w') (h : S w' → wpAnyH Try.prog md ops Q S fuel (listed.setIfInBounds i true) (a.put o.dst v) w') : wpAnyH Try.prog md ops Q S (fuel + 1) listed a w := by
  refine wpAnyH_ready hr (by simp) (AllReadyH.cons hi (fun K hK => ?_) AllReadyH.nil)
  rw [if_pos hw]
  unfold Oper.wp
  rw [hrun, Oper.upon_value]
  exact hK.out _ _ hS h
theorem any_store {i : Nat} {fuel : Nat} {listed : Array Bool} (hi : ops[i]? = some o) (hr : Region.ready md ops listed = [i]) (hw : Region.wanted o (yielded ops a.tmps) = true)
    (t : TypeId) (x y : Operand) (ho : o.op = .store t x y) (ad : Addr) (v : Value) (hx : a.eval x = .pointer (some ad)) (hy : a.eval y = v) (hrun : (storeVar t ad v).run Try.prog w = .ok () w') (hS : S w') (h : S w' → wpAnyH Try.prog md ops Q S fuel (listed.setIfInBounds i true) (a.put o.dst undef) w') : wpAnyH Try.prog md ops Q S (fuel + 1) listed a w := by
  refine wpAnyH_ready hr (by simp) (AllReadyH.cons hi (fun K hK => ?_) AllReadyH.nil)
  rw [if_pos hw]
  unfold Oper.wp
  rw [exec_store (w := w) (w' := w') t x y ho ad v hx hy hrun, Oper.upon_skip]
  exact hK.out _ _ hS h
theorem any_call {i : Nat} {fuel : Nat} {listed : Array Bool} (hi : ops[i]? = some o) (hr : Region.ready md ops listed = [i]) (hw : Region.wanted o (yielded ops a.tmps) = true)
    (f : FuncId) (args : Array Value) (hrun : (execOp a.eval o).run Try.prog w = .ok (.enter f args) w) (C : Ending → World → Prop) (hc : Calls Try.prog f args w C)
    (h : ∀ e w', C e w' → ∃ v, e = .returned v ∧ S w' ∧ (S w' → wpAnyH Try.prog md ops Q S fuel (listed.setIfInBounds i true) (a.put o.dst v) w')) : wpAnyH Try.prog md ops Q S (fuel + 1) listed a w := by
  refine wpAnyH_ready hr (by simp) (AllReadyH.cons hi (fun K hK => ?_) AllReadyH.nil)
  rw [if_pos hw]
  unfold Oper.wp
  rw [hrun, Oper.upon_enter]
  refine hc.mono fun e w' he => ?_
  obtain ⟨v, rfl, hS, hh⟩ := h e w' he
  exact hK.out _ _ hS hh
/-- An operation of which only the world is asked that S tells of. -/
theorem any_take {i : Nat} {oi : Oper} {v : Value} {fuel : Nat} {listed : Array Bool} (hi : ops[i]? = some oi)
    (hs : Region.noSelect ops = true) (hf : Region.free md ops listed i = true) (hr : (Region.ready md ops listed).contains i = true)
    (hQ : ∀ c a w, Q (.panic c) (a.put oi.dst v) w → Q (.panic c) a w) (hw : Region.wanted oi (yielded ops a.tmps) = true) (hy : ∀ w, S w → (execOp a.eval oi).run Try.prog w = .ok (.value v) w) (hS : S w)
    (h : wpAnyH Try.prog md ops Q S fuel (listed.setIfInBounds i true) (a.put oi.dst v) w) : wpAnyH Try.prog md ops Q S (fuel + 1) listed a w :=
  wpAnyH_take hi hs hf hr hQ (.inl ⟨hw, hy⟩) hS h
theorem any_skip {i : Nat} {oi : Oper} {fuel : Nat} {listed : Array Bool} (hi : ops[i]? = some oi)
    (hs : Region.noSelect ops = true) (hf : Region.free md ops listed i = true) (hr : (Region.ready md ops listed).contains i = true)
    (hQ : ∀ c a w, Q (.panic c) (a.put oi.dst undef) w → Q (.panic c) a w) (hw : Region.wanted oi (yielded ops a.tmps) = false) (hS : S w)
    (h : wpAnyH Try.prog md ops Q S fuel (listed.setIfInBounds i true) (a.put oi.dst undef) w) : wpAnyH Try.prog md ops Q S (fuel + 1) listed a w :=
  wpAnyH_take hi hs hf hr hQ (.inr ⟨hw, rfl⟩) hS h
end
section
variable {ops : Array Oper} {rest : List Oper} {o : Oper} {a : Act} {w : World} {Q : Exit → Act → World → Prop}
/-- The rest of a region that does not draw, shut. -/
structure WL (ops : Array Oper) (Q : Exit → Act → World → Prop) (l : List Oper) (a : Act) (w : World) : Prop where
  out : wpList Try.prog ops Q l a w
theorem WL.nil (h : Q .normal a w) : WL ops Q [] a w := ⟨wpList_nil h⟩
theorem WL.start {id : Nat} {l : List Oper} (h : WL l.toArray Q l a w) : (Code.region id l.toArray false).wp Try.prog Q a w := wp_region_lit h.out
/-- Steps of operations that are wanted, with a guard or without one. -/
theorem wp_runW (v : Value) (w' : World) (hrun : (execOp a.eval o).run Try.prog w = .ok (.value v) w') (hw : Region.wanted o (yielded ops a.tmps) = true)
    (h : WL ops Q rest (a.put o.dst v) w') : WL ops Q (o :: rest) a w :=
  ⟨wpList_wanted hw (wp_runTo (o := { o with guard := none }) rfl v w' hrun h.out)⟩
theorem wp_takeW (v : Value) (hrun : (execOp a.eval o).run Try.prog w = .ok (.value v) w) (hw : Region.wanted o (yielded ops a.tmps) = true)
    (h : WL ops Q rest (a.put o.dst v) w) : WL ops Q (o :: rest) a w := wp_runW v w hrun hw h
theorem wp_skip (hw : Region.wanted o (yielded ops a.tmps) = false)
    (h : WL ops Q rest (a.put o.dst undef) w) : WL ops Q (o :: rest) a w := by
  refine ⟨?_⟩
  unfold wpList
  rw [hw]
  exact h.out
theorem wp_storeW (t : TypeId) (x y : Operand) (ho : o.op = .store t x y) (ad : Addr) (v : Value) (hx : a.eval x = .pointer (some ad)) (hy : a.eval y = v) (w' : World) (hrun : (storeVar t ad v).run Try.prog w = .ok () w') (hw : Region.wanted o (yielded ops a.tmps) = true)
    (h : WL ops Q rest (a.put o.dst undef) w') : WL ops Q (o :: rest) a w :=
  ⟨wpList_wanted hw (wp_storeV (o := { o with guard := none }) rfl t x y ho ad v hx hy w' hrun h.out)⟩
theorem wp_allocW (t : TypeId) (ho : o.op = .alloc t) (cs : Array Value) (hz : (Try.prog.info? t).bind (·.zero) = some (.agg cs)) (N : Nat) (hN : w.heap.size = N) (hw : Region.wanted o (yielded ops a.tmps) = true)
    (h : WL ops Q rest (a.put o.dst (.pointer (some ⟨N, 0, none⟩))) (w.alloc (.cells cs t))) : WL ops Q (o :: rest) a w :=
  ⟨wpList_wanted hw (wp_allocT (o := { o with guard := none }) rfl t ho cs hz N hN h.out)⟩
theorem wp_callW (f : FuncId) (args : Array Value) (hrun : (execOp a.eval o).run Try.prog w = .ok (.enter f args) w) (C : Ending → World → Prop) (hc : Calls Try.prog f args w C) (hw : Region.wanted o (yielded ops a.tmps) = true)
    (h : ∀ e w', C e w' → ∃ v, e = .returned v ∧ WL ops Q rest (a.put o.dst v) w') : WL ops Q (o :: rest) a w := by
  refine ⟨wpList_wanted hw (wpList_plain rfl fun K hK => ?_)⟩
  have hrun' : (execOp a.eval { o with guard := none }).run Try.prog w = .ok (.enter f args) w := hrun
  unfold Oper.wp
  rw [hrun', Oper.upon_enter]
  refine hc.mono fun e w' he => ?_
  obtain ⟨v, rfl, hh⟩ := h e w' he
  exact hK _ _ hh.out
end
theorem guard_S (b : BinOp) (hb : b = .eql ∨ b = .neq) (x y : Operand) (u v : Array Value) (w : World) : (eqGuard b 23 x y (.agg u) (.agg v)).run Try.prog w = .ok () w := by
  rcases hb with rfl | rfl <;> kernel_rfl
theorem guard_C (b : BinOp) (hb : b = .eql ∨ b = .neq) (x y : Operand) (u v : Array Value) (w : World) : (eqGuard b 27 x y (.agg u) (.agg v)).run Try.prog w = .ok () w := by
  rcases hb with rfl | rfl <;> kernel_rfl
theorem guard_I (b : BinOp) (hb : b = .eql ∨ b = .neq) (x y : Operand) (u v : Array Value) (w : World) : (eqGuard b 29 x y (.agg u) (.agg v)).run Try.prog w = .ok () w := by
  rcases hb with rfl | rfl <;> kernel_rfl

end Go.Proofs.Ytapjnanenfcdjaa
