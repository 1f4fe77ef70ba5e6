import Derived.Test.YtpabpeppgpeaoaaA
namespace Go.Proofs.Ytpabpeppgpeaoaa
open Go.RowKit
set_option linter.unusedVariables false
set_option linter.unusedSimpArgs false

section
variable {ops : Array Oper} {o : Oper} {a : Act} {w w' : World} {Q : Exit → Act → World → Prop} {md : Region.Mode} {S : World → Prop}
theorem exec_bin (b : BinOp) (t s : TypeId) (x y : Operand) (ho : o.op = .binOp b t x y s) (vx vy v : Value) (hx : a.eval x = vx) (hy : a.eval y = vy) (hgd : (eqGuard b t x y vx vy).run Try.prog w = .ok () w)
    (hrun : (binOp b t vx vy).run Try.prog w = .ok v w) : (execOp a.eval o).run Try.prog w = .ok (.value v) w := by
  simp only [execOp, ho, hx, hy, Sem.run_bind, hgd, hrun, Result.andThen_ok, Sem.run_pure]
theorem exec_build (t : TypeId) (parts : Array (Nat × Operand)) (ho : o.op = .build t parts) (cs : Array Value) (hf : Try.prog.built t (parts.map fun (i, x) => (i, a.eval x)).toList = some cs) : (execOp a.eval o).run Try.prog w = .ok (.value (.agg cs)) w := by
  simp only [execOp, ho, Sem.run_bind, run_build w t _ cs hf, Result.andThen_ok, Sem.run_pure]
theorem exec_alloc (t : TypeId) (ho : o.op = .alloc t) (cs : Array Value) (hz : (Try.prog.info? t).bind (·.zero) = some (.agg cs)) : (execOp a.eval o).run Try.prog w = .ok (.value (.pointer (some ⟨w.heap.size, 0, none⟩))) (w.alloc (.cells cs t)) := by
  simp only [execOp, ho, Instr.alloc, Sem.run_bind, zero_of hz, Result.andThen_ok, newVar, newRow, run_newObj_alloc, Sem.run_pure]
  rfl
theorem exec_store (t : TypeId) (x y : Operand) (ho : o.op = .store t x y) (ad : Addr) (v : Value) (hx : a.eval x = .pointer (some ad)) (hy : a.eval y = v) (hrun : (storeVar t ad v).run Try.prog w = .ok () w') : (execOp a.eval o).run Try.prog w = .ok .skip w' := by
  simp only [execOp, ho, hx, hy, Instr.storeAt, Instr.sureAddr, Sem.run_bind, Sem.run_pure, Result.andThen_ok, hrun]
/-- What comes up next, alone. -/
theorem any_step {i : Nat} {fuel : Nat} {listed : Array Bool} {v : Value} (hi : ops[i]? = some o) (hr : Region.ready md ops listed = [i]) (hw : Region.wanted o (yielded ops a.tmps) = true)
    (hrun : (execOp a.eval o).run Try.prog w = .ok (.value v) w') (hS : S w') (h : S w' → wpAnyH Try.prog md ops Q S fuel (listed.setIfInBounds i true) (a.put o.dst v) w') : wpAnyH Try.prog md ops Q S (fuel + 1) listed a w := by
  refine wpAnyH_ready hr (by simp) (AllReadyH.cons hi (fun K hK => ?_) AllReadyH.nil)
  rw [if_pos hw]
  unfold Oper.wp
  rw [hrun, Oper.upon_value]
  exact hK.out _ _ hS h
theorem any_call {i : Nat} {fuel : Nat} {listed : Array Bool} (hi : ops[i]? = some o) (hr : Region.ready md ops listed = [i]) (hw : Region.wanted o (yielded ops a.tmps) = true)
    (f : FuncId) (args : Array Value) (hrun : (execOp a.eval o).run Try.prog w = .ok (.enter f args) w) (C : Ending → World → Prop) (hc : Calls Try.prog f args w C)
    (h : ∀ e w', C e w' → ∃ v, e = .returned v ∧ S w' ∧ (S w' → wpAnyH Try.prog md ops Q S fuel (listed.setIfInBounds i true) (a.put o.dst v) w')) : wpAnyH Try.prog md ops Q S (fuel + 1) listed a w := by
  refine wpAnyH_ready hr (by simp) (AllReadyH.cons hi (fun K hK => ?_) AllReadyH.nil)
  rw [if_pos hw]
  unfold Oper.wp
  rw [hrun, Oper.upon_enter]
  refine hc.mono fun e w' he => ?_
  obtain ⟨v, rfl, hS, hh⟩ := h e w' he
  exact hK.out _ _ hS hh
/-- An operation of which only the world is asked that S tells of. -/
theorem any_take {i : Nat} {oi : Oper} {v : Value} {fuel : Nat} {listed : Array Bool} (hi : ops[i]? = some oi)
    (hs : Region.noSelect ops = true) (hf : Region.free md ops listed i = true) (hr : (Region.ready md ops listed).contains i = true)
    (hQ : ∀ c a w, Q (.panic c) (a.put oi.dst v) w → Q (.panic c) a w) (hw : Region.wanted oi (yielded ops a.tmps) = true) (hy : ∀ w, S w → (execOp a.eval oi).run Try.prog w = .ok (.value v) w) (hS : S w)
    (h : wpAnyH Try.prog md ops Q S fuel (listed.setIfInBounds i true) (a.put oi.dst v) w) : wpAnyH Try.prog md ops Q S (fuel + 1) listed a w :=
  wpAnyH_take hi hs hf hr hQ (.inl ⟨hw, hy⟩) hS h
theorem any_skip {i : Nat} {oi : Oper} {fuel : Nat} {listed : Array Bool} (hi : ops[i]? = some oi)
    (hs : Region.noSelect ops = true) (hf : Region.free md ops listed i = true) (hr : (Region.ready md ops listed).contains i = true)
    (hQ : ∀ c a w, Q (.panic c) (a.put oi.dst undef) w → Q (.panic c) a w) (hw : Region.wanted oi (yielded ops a.tmps) = false) (hS : S w)
    (h : wpAnyH Try.prog md ops Q S fuel (listed.setIfInBounds i true) (a.put oi.dst undef) w) : wpAnyH Try.prog md ops Q S (fuel + 1) listed a w :=
  wpAnyH_take hi hs hf hr hQ (.inr ⟨hw, rfl⟩) hS h
end
section
variable {ops : Array Oper} {rest : List Oper} {o : Oper} {a : Act} {w : World} {Q : Exit → Act → World → Prop}
/-- The rest of a region that does not draw, shut. -/
structure WL (ops : Array Oper) (Q : Exit → Act → World → Prop) (l : List Oper) (a : Act) (w : World) : Prop where
  out : wpList Try.prog ops Q l a w
theorem WL.nil (h : Q .normal a w) : WL ops Q [] a w := ⟨wpList_nil h⟩
theorem WL.start {id : Nat} {l : List Oper} (h : WL l.toArray Q l a w) : (Code.region id l.toArray false).wp Try.prog Q a w := wp_region_lit h.out
/-- Steps of operations that are wanted, with a guard or without one. -/
theorem wp_runW (v : Value) (w' : World) (hrun : (execOp a.eval o).run Try.prog w = .ok (.value v) w') (hw : Region.wanted o (yielded ops a.tmps) = true)
    (h : WL ops Q rest (a.put o.dst v) w') : WL ops Q (o :: rest) a w :=
  ⟨wpList_wanted hw (wp_runTo (o := { o with guard := none }) rfl v w' hrun h.out)⟩
theorem wp_takeW (v : Value) (hrun : (execOp a.eval o).run Try.prog w = .ok (.value v) w) (hw : Region.wanted o (yielded ops a.tmps) = true)
    (h : WL ops Q rest (a.put o.dst v) w) : WL ops Q (o :: rest) a w := wp_runW v w hrun hw h
theorem wp_skip (hw : Region.wanted o (yielded ops a.tmps) = false)
    (h : WL ops Q rest (a.put o.dst undef) w) : WL ops Q (o :: rest) a w := by
  refine ⟨?_⟩
  unfold wpList
  rw [hw]
  exact h.out
theorem wp_storeW (t : TypeId) (x y : Operand) (ho : o.op = .store t x y) (ad : Addr) (v : Value) (hx : a.eval x = .pointer (some ad)) (hy : a.eval y = v) (w' : World) (hrun : (storeVar t ad v).run Try.prog w = .ok () w') (hw : Region.wanted o (yielded ops a.tmps) = true)
    (h : WL ops Q rest (a.put o.dst undef) w') : WL ops Q (o :: rest) a w :=
  ⟨wpList_wanted hw (wp_storeV (o := { o with guard := none }) rfl t x y ho ad v hx hy w' hrun h.out)⟩
theorem wp_allocW (t : TypeId) (ho : o.op = .alloc t) (cs : Array Value) (hz : (Try.prog.info? t).bind (·.zero) = some (.agg cs)) (N : Nat) (hN : w.heap.size = N) (hw : Region.wanted o (yielded ops a.tmps) = true)
    (h : WL ops Q rest (a.put o.dst (.pointer (some ⟨N, 0, none⟩))) (w.alloc (.cells cs t))) : WL ops Q (o :: rest) a w :=
  ⟨wpList_wanted hw (wp_allocT (o := { o with guard := none }) rfl t ho cs hz N hN h.out)⟩
theorem wp_callW (f : FuncId) (args : Array Value) (hrun : (execOp a.eval o).run Try.prog w = .ok (.enter f args) w) (C : Ending → World → Prop) (hc : Calls Try.prog f args w C) (hw : Region.wanted o (yielded ops a.tmps) = true)
    (h : ∀ e w', C e w' → ∃ v, e = .returned v ∧ WL ops Q rest (a.put o.dst v) w') : WL ops Q (o :: rest) a w := by
  refine ⟨wpList_wanted hw (wpList_plain rfl fun K hK => ?_)⟩
  have hrun' : (execOp a.eval { o with guard := none }).run Try.prog w = .ok (.enter f args) w := hrun
  unfold Oper.wp
  rw [hrun', Oper.upon_enter]
  refine hc.mono fun e w' he => ?_
  obtain ⟨v, rfl, hh⟩ := h e w' he
  exact hK _ _ hh.out
end
section
variable {ops : Array Oper} {rest : List Oper} {o : Oper} {a : Act} {w : World} {Q : Exit → Act → World → Prop} {md : Region.Mode} {S : World → Prop} {fuel : Nat} {listed : Array Bool}
/-- The operation at a place. -/
def opA (l : Array Oper) (i : Nat) : Oper := match l[i]? with | some o => o | none => ⟨none, .move (.tmp 0), 0, "", #[], none⟩
/-- What a load reads, what an operation on two values is handed. -/
def ldA (o : Oper) (ev : Operand → Value) : Option (TypeId × Value) := match o.op with | .load t x => some (t, ev x) | _ => none
def bnA (o : Oper) (ev : Operand → Value) : Option (BinOp × TypeId × Value × Value) := match o.op with | .binOp b t x y _ => some (b, t, ev x, ev y) | _ => none
def bnX (o : Oper) : Operand := match o.op with | .binOp _ _ x _ _ => x | _ => .tmp 0
def bnY (o : Oper) : Operand := match o.op with | .binOp _ _ _ y _ => y | _ => .tmp 0
theorem exec_ld (T : TypeId) (ad : Addr) (v : Value) (hl : ldA o a.eval = some (T, .pointer (some ad))) (hrun : (loadVar T ad).run Try.prog w = .ok v w) : (execOp a.eval o).run Try.prog w = .ok (.value v) w := by
  unfold ldA at hl
  split at hl
  · rename_i t x hx
    obtain ⟨rfl, h2⟩ := Prod.mk.inj (Option.some.inj hl)
    exact exec_load _ x hx ad h2 v hrun
  · cases hl
theorem exec_bn (b : BinOp) (T : TypeId) (vx vy v : Value) (hl : bnA o a.eval = some (b, T, vx, vy)) (hg : (eqGuard b T (bnX o) (bnY o) vx vy).run Try.prog w = .ok () w) (hrun : (binOp b T vx vy).run Try.prog w = .ok v w) : (execOp a.eval o).run Try.prog w = .ok (.value v) w := by
  unfold bnA at hl
  split at hl
  · rename_i b' t x y s hx
    obtain ⟨rfl, h2⟩ := Prod.mk.inj (Option.some.inj hl)
    obtain ⟨rfl, h3⟩ := Prod.mk.inj h2
    obtain ⟨h4, h5⟩ := Prod.mk.inj h3
    unfold bnX bnY at hg
    rw [hx] at hg
    exact exec_bin _ _ s x y hx vx vy v h4 h5 hg hrun
  · cases hl
theorem xU (i t : Nat) (v : Value) (hy : ∀ w, S w → (execOp a.eval (opA ops i)).run Try.prog w = .ok (.value v) w) (hS : S w) (h : wpAnyH Try.prog md ops Q S fuel (listed.setIfInBounds i true) (a.put (some t) v) w) (hi : ops[i]? = some (opA ops i) := by kernel_rfl) (hd : (opA ops i).dst = some t := by kernel_rfl) (hs : Region.noSelect ops = true := by kernel_rfl) (hf : Region.free md ops listed i = true := by kernel_rfl) (hr : (Region.ready md ops listed).contains i = true := by kernel_rfl)
    (hQ : ∀ c a w, Q (.panic c) (a.put (some t) v) w → Q (.panic c) a w := by exact fun _ _ _ h => h) (hw : Region.wanted (opA ops i) (yielded ops a.tmps) = true := by kernel_rfl) : wpAnyH Try.prog md ops Q S (fuel + 1) listed a w :=
  any_take hi hs hf hr (by rw [hd]; exact hQ) hw hy hS (by rw [hd]; exact h)
theorem xV (i t : Nat) (v : Value) (hS : S w) (h : wpAnyH Try.prog md ops Q S fuel (listed.setIfInBounds i true) (a.put (some t) v) w) (hy : ∀ w, S w → (execOp a.eval (opA ops i)).run Try.prog w = .ok (.value v) w := by intro _ _; kernel_rfl) (hi : ops[i]? = some (opA ops i) := by kernel_rfl) (hd : (opA ops i).dst = some t := by kernel_rfl) (hs : Region.noSelect ops = true := by kernel_rfl) (hf : Region.free md ops listed i = true := by kernel_rfl) (hr : (Region.ready md ops listed).contains i = true := by kernel_rfl)
    (hQ : ∀ c a w, Q (.panic c) (a.put (some t) v) w → Q (.panic c) a w := by exact fun _ _ _ h => h) (hw : Region.wanted (opA ops i) (yielded ops a.tmps) = true := by kernel_rfl) : wpAnyH Try.prog md ops Q S (fuel + 1) listed a w := xU i t v hy hS h hi hd hs hf hr hQ hw
theorem xL (i t T : Nat) (ad : Addr) (v : Value) (hl : ∀ w, S w → (loadVar T ad).run Try.prog w = .ok v w) (hS : S w) (h : wpAnyH Try.prog md ops Q S fuel (listed.setIfInBounds i true) (a.put (some t) v) w) (ho : ldA (opA ops i) a.eval = some (T, .pointer (some ad)) := by kernel_rfl) (hi : ops[i]? = some (opA ops i) := by kernel_rfl) (hd : (opA ops i).dst = some t := by kernel_rfl) (hs : Region.noSelect ops = true := by kernel_rfl) (hf : Region.free md ops listed i = true := by kernel_rfl) (hr : (Region.ready md ops listed).contains i = true := by kernel_rfl)
    (hQ : ∀ c a w, Q (.panic c) (a.put (some t) v) w → Q (.panic c) a w := by exact fun _ _ _ h => h) (hw : Region.wanted (opA ops i) (yielded ops a.tmps) = true := by kernel_rfl) : wpAnyH Try.prog md ops Q S (fuel + 1) listed a w := xU i t v (fun w' h' => exec_ld T ad v ho (hl w' h')) hS h hi hd hs hf hr hQ hw
theorem xB (i t : Nat) (b : BinOp) (T : TypeId) (vx vy v : Value) (hl : ∀ w, S w → (binOp b T vx vy).run Try.prog w = .ok v w) (hS : S w) (h : wpAnyH Try.prog md ops Q S fuel (listed.setIfInBounds i true) (a.put (some t) v) w) (ho : bnA (opA ops i) a.eval = some (b, T, vx, vy) := by kernel_rfl) (hg : ∀ w, (eqGuard b T (bnX (opA ops i)) (bnY (opA ops i)) vx vy).run Try.prog w = .ok () w := by intro _; kernel_rfl) (hi : ops[i]? = some (opA ops i) := by kernel_rfl) (hd : (opA ops i).dst = some t := by kernel_rfl) (hs : Region.noSelect ops = true := by kernel_rfl) (hf : Region.free md ops listed i = true := by kernel_rfl) (hr : (Region.ready md ops listed).contains i = true := by kernel_rfl)
    (hQ : ∀ c a w, Q (.panic c) (a.put (some t) v) w → Q (.panic c) a w := by exact fun _ _ _ h => h) (hw : Region.wanted (opA ops i) (yielded ops a.tmps) = true := by kernel_rfl) : wpAnyH Try.prog md ops Q S (fuel + 1) listed a w := xU i t v (fun w' h' => exec_bn b T vx vy v ho (hg w') (hl w' h')) hS h hi hd hs hf hr hQ hw
theorem xZ (i t : Nat) (hS : S w) (h : wpAnyH Try.prog md ops Q S fuel (listed.setIfInBounds i true) (a.put (some t) undef) w) (hi : ops[i]? = some (opA ops i) := by kernel_rfl) (hd : (opA ops i).dst = some t := by kernel_rfl) (hs : Region.noSelect ops = true := by kernel_rfl) (hf : Region.free md ops listed i = true := by kernel_rfl) (hr : (Region.ready md ops listed).contains i = true := by kernel_rfl)
    (hQ : ∀ c a w, Q (.panic c) (a.put (some t) undef) w → Q (.panic c) a w := by exact fun _ _ _ h => h) (hw : Region.wanted (opA ops i) (yielded ops a.tmps) = false := by kernel_rfl) : wpAnyH Try.prog md ops Q S (fuel + 1) listed a w :=
  any_skip hi hs hf hr (by rw [hd]; exact hQ) hw hS (by rw [hd]; exact h)
theorem uW (v : Value) (hrun : (execOp a.eval o).run Try.prog w = .ok (.value v) w) (h : WL ops Q rest (a.put o.dst v) w) (hw : Region.wanted o (yielded ops a.tmps) = true := by kernel_rfl) : WL ops Q (o :: rest) a w := wp_takeW v hrun hw h
theorem uK (v : Value) (h : WL ops Q rest (a.put o.dst v) w) (hrun : (execOp a.eval o).run Try.prog w = .ok (.value v) w := by kernel_rfl) (hw : Region.wanted o (yielded ops a.tmps) = true := by kernel_rfl) : WL ops Q (o :: rest) a w := wp_takeW v hrun hw h
theorem uZ (h : WL ops Q rest (a.put o.dst undef) w) (hw : Region.wanted o (yielded ops a.tmps) = false := by kernel_rfl) : WL ops Q (o :: rest) a w := wp_skip hw h
theorem uL (T : TypeId) (ad : Addr) (v : Value) (hl : (loadVar T ad).run Try.prog w = .ok v w) (h : WL ops Q rest (a.put o.dst v) w) (ho : ldA o a.eval = some (T, .pointer (some ad)) := by kernel_rfl) (hw : Region.wanted o (yielded ops a.tmps) = true := by kernel_rfl) : WL ops Q (o :: rest) a w := wp_takeW v (exec_ld T ad v ho hl) hw h
theorem uB (b : BinOp) (T : TypeId) (vx vy v : Value) (hl : (binOp b T vx vy).run Try.prog w = .ok v w) (h : WL ops Q rest (a.put o.dst v) w) (ho : bnA o a.eval = some (b, T, vx, vy) := by kernel_rfl) (hg : (eqGuard b T (bnX o) (bnY o) vx vy).run Try.prog w = .ok () w := by kernel_rfl) (hw : Region.wanted o (yielded ops a.tmps) = true := by kernel_rfl) : WL ops Q (o :: rest) a w := wp_takeW v (exec_bn b T vx vy v ho hg hl) hw h
theorem pS : (∀ (a : Act) (t : Tmp) (v : Value), a.put (some t) v = { tmps := a.tmps.setIfInBounds t v, defers := a.defers }) ∧ (∀ (a : Act) (v : Value), a.put none v = a) ∧ (∀ {α : Type} (l : List α) (i : Nat) (v : α), l.toArray.setIfInBounds i v = (l.set i v).toArray) ∧ (∀ {α : Type} (x : α) (l : List α) (v : α), (x :: l).set 0 v = v :: l) ∧ (∀ {α : Type} (x : α) (l : List α) (i : Nat) (v : α), (x :: l).set (i + 1) v = x :: l.set i v) := ⟨fun _ _ _ => rfl, fun _ _ => rfl, fun _ _ _ => List.setIfInBounds_toArray .., fun _ _ _ => rfl, fun _ _ _ _ => rfl⟩
end
section
variable {ops : Array Oper} {rest : List Oper} {o : Oper} {a : Act} {w w' : World} {Q : Exit → Act → World → Prop} {md : Region.Mode} {S : World → Prop} {fuel : Nat} {listed : Array Bool}
def stA (o : Oper) (ev : Operand → Value) : Option (TypeId × Value × Value) := match o.op with | .store t x y => some (t, ev x, ev y) | _ => none
theorem exec_st (T : TypeId) (ad : Addr) (v : Value) (hl : stA o a.eval = some (T, .pointer (some ad), v)) (hrun : (storeVar T ad v).run Try.prog w = .ok () w') : (execOp a.eval o).run Try.prog w = .ok .skip w' := by
  unfold stA at hl
  split at hl
  · rename_i t x y hx
    obtain ⟨rfl, h2⟩ := Prod.mk.inj (Option.some.inj hl)
    obtain ⟨h3, h4⟩ := Prod.mk.inj h2
    exact exec_store _ x y hx ad v h3 h4 hrun
  · cases hl
theorem xS (i : Nat) (T : TypeId) (ad : Addr) (v : Value) (hrun : (storeVar T ad v).run Try.prog w = .ok () w') (hS : S w') (h : S w' → wpAnyH Try.prog md ops Q S fuel (listed.setIfInBounds i true) a w') (ho : stA (opA ops i) a.eval = some (T, .pointer (some ad), v) := by kernel_rfl) (hi : ops[i]? = some (opA ops i) := by kernel_rfl) (hd : (opA ops i).dst = none := by kernel_rfl) (hr : Region.ready md ops listed = [i] := by kernel_rfl) (hw : Region.wanted (opA ops i) (yielded ops a.tmps) = true := by kernel_rfl) : wpAnyH Try.prog md ops Q S (fuel + 1) listed a w := by
  refine wpAnyH_ready hr (by simp) (AllReadyH.cons hi (fun K hK => ?_) AllReadyH.nil)
  rw [if_pos hw]
  unfold Oper.wp
  rw [exec_st T ad v ho hrun, Oper.upon_skip, hd]
  exact hK.out _ _ hS h
theorem xP (i t : Nat) (v : Value) (hrun : (execOp a.eval (opA ops i)).run Try.prog w = .ok (.value v) w') (hS : S w') (h : S w' → wpAnyH Try.prog md ops Q S fuel (listed.setIfInBounds i true) (a.put (some t) v) w') (hi : ops[i]? = some (opA ops i) := by kernel_rfl) (hd : (opA ops i).dst = some t := by kernel_rfl) (hr : Region.ready md ops listed = [i] := by kernel_rfl) (hw : Region.wanted (opA ops i) (yielded ops a.tmps) = true := by kernel_rfl) : wpAnyH Try.prog md ops Q S (fuel + 1) listed a w :=
  any_step hi hr hw hrun hS (by rw [hd]; exact h)
theorem xC (i t : Nat) (f : FuncId) (args : Array Value) {C : Ending → World → Prop} (hc : Calls Try.prog f args w C) (h : ∀ e w', C e w' → ∃ v, e = .returned v ∧ S w' ∧ (S w' → wpAnyH Try.prog md ops Q S fuel (listed.setIfInBounds i true) (a.put (some t) v) w')) (hrun : (execOp a.eval (opA ops i)).run Try.prog w = .ok (.enter f args) w := by kernel_rfl) (hi : ops[i]? = some (opA ops i) := by kernel_rfl) (hd : (opA ops i).dst = some t := by kernel_rfl) (hr : Region.ready md ops listed = [i] := by kernel_rfl) (hw : Region.wanted (opA ops i) (yielded ops a.tmps) = true := by kernel_rfl) : wpAnyH Try.prog md ops Q S (fuel + 1) listed a w :=
  any_call hi hr hw f args hrun C hc (by rw [hd]; exact h)
theorem uT (T : TypeId) (ad : Addr) (v : Value) (w' : World) (hrun : (storeVar T ad v).run Try.prog w = .ok () w') (h : WL ops Q rest (a.put o.dst undef) w') (ho : stA o a.eval = some (T, .pointer (some ad), v) := by kernel_rfl) (hw : Region.wanted o (yielded ops a.tmps) = true := by kernel_rfl) : WL ops Q (o :: rest) a w := by
  unfold stA at ho
  split at ho
  · rename_i t x y hx
    obtain ⟨rfl, h2⟩ := Prod.mk.inj (Option.some.inj ho)
    obtain ⟨h3, h4⟩ := Prod.mk.inj h2
    exact wp_storeW _ x y hx ad v h3 h4 w' hrun hw h
  · cases ho
theorem uR (v : Value) (w' : World) (hrun : (execOp a.eval o).run Try.prog w = .ok (.value v) w') (h : WL ops Q rest (a.put o.dst v) w') (hw : Region.wanted o (yielded ops a.tmps) = true := by kernel_rfl) : WL ops Q (o :: rest) a w := wp_runW v w' hrun hw h
theorem uC (f : FuncId) (args : Array Value) {C : Ending → World → Prop} (hc : Calls Try.prog f args w C) (h : ∀ e w', C e w' → ∃ v, e = .returned v ∧ WL ops Q rest (a.put o.dst v) w') (hrun : (execOp a.eval o).run Try.prog w = .ok (.enter f args) w := by kernel_rfl) (hw : Region.wanted o (yielded ops a.tmps) = true := by kernel_rfl) : WL ops Q (o :: rest) a w := wp_callW f args hrun C hc hw h
end
theorem hideC {f : FuncId} {args : Array Value} {w : World} {post : Ending → World → Prop} (h : ∀ C, Hid (C = post) → Calls Try.prog f args w C) : Calls Try.prog f args w post := h post (show post = post from rfl)
@[reducible] def pV (b o : Nat) : Value := .pointer (some ⟨b, o, none⟩)
theorem guard_S (b : BinOp) (hb : b = .eql ∨ b = .neq) (x y : Operand) (u v : Array Value) (w : World) : (eqGuard b 39 x y (.agg u) (.agg v)).run Try.prog w = .ok () w := by
  rcases hb with rfl | rfl <;> kernel_rfl
theorem guard_C (b : BinOp) (hb : b = .eql ∨ b = .neq) (x y : Operand) (u v : Array Value) (w : World) : (eqGuard b 28 x y (.agg u) (.agg v)).run Try.prog w = .ok () w := by
  rcases hb with rfl | rfl <;> kernel_rfl
end Go.Proofs.Ytpabpeppgpeaoaa
namespace Go.Proofs.Ytpabpeppgpeaoaa
open Go.RowKit
set_option linter.unusedVariables false
set_option linter.unusedSimpArgs false

theorem Kept.thenNo {S : Nat → Prop} {a b c : World} (h : Kept S a b) (k : Kept No b c) : Kept S a c := h.then k.of_no
theorem Kept.newRowS {S : Nat → Prop} {a w : World} (h : Kept S a w) {g : Nat} (hg : a.heap.size ≤ g) (cs : Array Value) : Kept S a (w.setRow g cs) :=
  h.trans (Kept.setRow _ _ _) (fun _ e => e) (fun i hi e => by have : i = g := e; omega)
theorem Kept.inRow {S : Nat → Prop} {a w : World} (h : Kept S a w) {g : Nat} (hg : S g) (cs : Array Value) : Kept S a (w.setRow g cs) :=
  h.trans (Kept.setRow _ _ _) (fun _ e => e) (fun i hi e => by have e : i = g := e; rw [e]; exact hg)

/-- One of those that may come up. -/
def StepH (md : Region.Mode) (ops : Array Oper) (Q : Exit → Act → World → Prop) (S : World → Prop) (fuel : Nat) (listed : Array Bool) (a : Act) (w : World) (i : Nat) : Prop :=
  wpOp Try.prog ops Q i (fun a' w' => S w' ∧ wpAnyH Try.prog md ops Q S fuel (listed.setIfInBounds i true) a' w') a w
section
variable {ops : Array Oper} {o : Oper} {a : Act} {w w' : World} {Q : Exit → Act → World → Prop} {md : Region.Mode} {S : World → Prop} {fuel : Nat} {listed : Array Bool}
theorem any_pick {rs : List Nat} (hr : Region.ready md ops listed = rs) (hne : rs ≠ []) (h : ∀ i ∈ rs, StepH md ops Q S fuel listed a w i) : wpAnyH Try.prog md ops Q S (fuel + 1) listed a w := wpAnyH_all hr hne h
theorem step_run {i : Nat} {v : Value} (hi : ops[i]? = some o) (hw : Region.wanted o (yielded ops a.tmps) = true) (hrun : (execOp a.eval o).run Try.prog w = .ok (.value v) w') (hS : S w')
    (h : S w' → wpAnyH Try.prog md ops Q S fuel (listed.setIfInBounds i true) (a.put o.dst v) w') : StepH md ops Q S fuel listed a w i := by
  refine wpOp_step hi (fun K' hK => ?_)
  rw [if_pos hw]
  unfold Oper.wp
  rw [hrun, Oper.upon_value]
  exact hK _ _ ⟨hS, h hS⟩
end
theorem pick2 {i a b : Nat} (h : i ∈ [a, b]) : i = a ∨ i = b := by simpa using h
theorem pick3 {i a b c : Nat} (h : i ∈ [a, b, c]) : i = a ∨ i = b ∨ i = c := by simpa using h
end Go.Proofs.Ytpabpeppgpeaoaa
namespace Go.Proofs.Ytpabpeppgpeaoaa
open Go.RowKit
set_option linter.unusedVariables false
set_option linter.unusedSimpArgs false

/-- A key, a slice's value, a message, a proposer, a question. -/
structure Ky where
  k : Int
  a : Int
  b : Int
  c : Int
structure Sl where
  a : Option Addr
  l : Nat
  k : Nat
structure Ms where
  k : Int
  fc : Bool
  fi : Int
  tc : Bool
  ti : Int
  op : Int
  rd : Int
  ky : Ky
  st : Sp
  hd : Sp
  bl : Sl
  c : Cm
  up : Int
  en : Sl
  la : Sl
  cm : Sl
  mo : Bool
structure Pv where
  cl : Int
  op : Int
  ky : Ky
  ga : Sl
  mine : Cm
  n : Int
  top : Int
  rd : Int
  ph : Value
def Sl.v (s : Sl) : Value := .slice s.a s.l s.k
def Ky.cs (y : Ky) : List Value := [.int .i64 y.k, .int .i64 y.a, .int .i64 y.b, .int .i64 y.c]
def Ms.cs (m : Ms) : List Value := [.int .i64 m.k, .bool m.fc, .int .i64 m.fi, .bool m.tc, .int .i64 m.ti, .int .i64 m.op, .int .i64 m.rd] ++ (m.ky.cs ++ (m.st.cs ++ (m.hd.cs ++ ([m.bl.v] ++ (m.c.cs ++ [.int .i64 m.up, m.en.v, m.la.v, m.cm.v, .bool m.mo])))))
def Pv.cs (p : Pv) : List Value := [.bool true, .int .i64 p.cl, .int .i64 p.op] ++ (p.ky.cs ++ ([p.ga.v] ++ (p.mine.cs ++ [.int .i64 p.n, .int .i64 p.cl, .int .i64 p.top, .int .i64 p.rd, p.ph])))
def qcs (m : Ms) (h : Nat) (rf : Bool) : List Value := m.cs ++ [.pointer (some ⟨h, 0, none⟩), .bool rf]
def Ms.cells (m : Ms) : Array Value := m.cs.toArray
def Pv.cells (p : Pv) : Array Value := p.cs.toArray
def slZ : Sl := ⟨none, 0, 0⟩
def kyZ : Ky := ⟨0, 0, 0, 0⟩
def msZ : Ms := ⟨0, false, 0, false, 0, 0, 0, kyZ, sZ, sZ, slZ, cZ, 0, slZ, slZ, slZ, false⟩
theorem Ms.size (m : Ms) : m.cells.size = 30 := rfl
theorem Ms.len (m : Ms) : m.cs.length = 30 := rfl
theorem Pv.size (p : Pv) : p.cells.size = 22 := rfl
theorem Pv.len (p : Pv) : p.cs.length = 22 := rfl
theorem Ms.one (m : Ms) : m.cells.all (·.oneCell') = true := by simp [Ms.cells, Ms.cs, Ky.cs, Sp.cs, Cm.cs, Sl.v, Value.oneCell']
theorem zeroMs : (Try.prog.info? 47).bind (·.zero) = some (.agg msZ.cells) := by kernel_rfl
/-- The phases as values. -/
def phPre (q t : Nat) : Value := .iface 155 (.agg #[.pointer (some ⟨q, 0, none⟩), .pointer (some ⟨t, 0, none⟩)])
def phAcc (q t : Nat) : Value := .iface 162 (.agg #[.pointer (some ⟨q, 0, none⟩), .pointer (some ⟨t, 0, none⟩)])
def phDec (c : Cm) : Value := .iface 118 (.agg c.cells)
def phTri (u : Int) (e l : Sl) : Value := .iface 120 (.agg #[.int .i64 u, e.v, l.v])
def phWorn : Value := .iface 140 (.agg #[])

theorem Pv.cel {w : World} {p : Nat} {v : Pv} (h : Box w p 94 v.cells) : w.cell? ⟨p, 7, none⟩ = some (.slice v.ga.a v.ga.l v.ga.k) ∧ w.cell? ⟨p, 17, none⟩ = some (.int .i64 v.n) ∧ w.cell? ⟨p, 19, none⟩ = some (.int .i64 v.top) ∧ w.cell? ⟨p, 20, none⟩ = some (.int .i64 v.rd) ∧ w.cell? ⟨p, 21, none⟩ = some v.ph :=
  ⟨h.cell 7, h.cell 17, h.cell 19, h.cell 20, h.cell 21⟩

def okN (n : Int) : Bool := decide (1 ≤ n) && decide (n ≤ 1099511627776)
theorem isNumber_any (n : Int) (w : World) : Calls Try.prog 88 #[.int .i64 n] w (fun e w' => e = .returned (.bool (okN n)) ∧ w' = w) := by
  have HE : Hid (okN n = (decide (1 ≤ n) && decide (n ≤ 1099511627776))) := rfl
  go_enter Try.func88, Try.ntmps88
  go_wp2
  all_goals go_ret
  all_goals refine ⟨ret_bool ?_, rfl⟩
  all_goals rw [HE.out]
  all_goals first | (simp_all; done) | (simp_all; omega) | (simp_all; intros; omega)
theorem round_any (p : Nat) (v : Pv) (w : World) (h : Box w p 94 v.cells) : Calls Try.prog 22 #[.pointer (some ⟨p, 0, none⟩)] w (fun e w' => e = .returned (.int .i64 v.rd) ∧ w' = w) := by
  obtain ⟨c7, c17, c19, c20, c21⟩ := Pv.cel h
  clear h
  go_enter Try.func22, Try.ntmps22
  go_wp2
  go_ret
  exact ⟨rfl, rfl⟩
def needN (l : Nat) : Int := ((l / 2 + 1 : Nat) : Int)
theorem need_any (p : Nat) (v : Pv) (w : World) (h : Box w p 94 v.cells) (hl : v.ga.l ≤ 17592186043904) : Calls Try.prog 76 #[.pointer (some ⟨p, 0, none⟩)] w (fun e w' => e = .returned (.int .i64 (needN v.ga.l)) ∧ w' = w) := by
  obtain ⟨c7, c17, c19, c20, c21⟩ := Pv.cel h
  have HE : Hid (needN v.ga.l = (v.ga.l : Int) / 2 + 1) := by show _ = _; unfold needN; omega
  have ht : (v.ga.l : Int).tdiv 2 = (v.ga.l : Int) / 2 := Int.tdiv_eq_ediv_of_nonneg (by omega)
  clear h
  generalize v.ga.l = l at c7 HE ht hl
  go_enter Try.func76, Try.ntmps76
  go_wp2
  go_ret
  refine ⟨ret_int ?_, rfl⟩
  rw [HE.out]

def movP (v : Pv) (n r : Int) : Pv := if okN n && okN r then { v with n := n, rd := r, top := max v.top n } else { v with ph := phWorn }
def MovOut (w : World) (p : Nat) (v : Pv) (n r : Int) (e : Ending) (w' : World) : Prop := e = .returned (.bool (okN n && okN r)) ∧ Box w' p 94 (movP v n r).cells ∧ Kept (Only p) w w'
theorem movP_no {v : Pv} {n r : Int} (h : (okN n && okN r) = false) : movP v n r = { v with ph := phWorn } := by unfold movP; rw [h]; rfl
theorem movP_yes {v : Pv} {n r : Int} (h : (okN n && okN r) = true) : movP v n r = { v with n := n, rd := r, top := max v.top n } := by unfold movP; rw [h]; rfl
theorem Pv.setPh {w : World} {p : Nat} {v : Pv} (h : Box w p 94 v.cells) (x : Value) : Box (w.setCell ⟨p, 21, none⟩ x) p 94 ({ v with ph := x } : Pv).cells := h.set 21 x
theorem Pv.setN {w : World} {p : Nat} {v : Pv} (h : Box w p 94 v.cells) (n : Int) : Box (w.setCell ⟨p, 17, none⟩ (.int .i64 n)) p 94 ({ v with n := n } : Pv).cells := h.set 17 (.int .i64 n)
theorem Pv.setTop {w : World} {p : Nat} {v : Pv} (h : Box w p 94 v.cells) (n : Int) : Box (w.setCell ⟨p, 19, none⟩ (.int .i64 n)) p 94 ({ v with top := n } : Pv).cells := h.set 19 (.int .i64 n)
theorem Pv.setRd {w : World} {p : Nat} {v : Pv} (h : Box w p 94 v.cells) (n : Int) : Box (w.setCell ⟨p, 20, none⟩ (.int .i64 n)) p 94 ({ v with rd := n } : Pv).cells := h.set 20 (.int .i64 n)
set_option maxHeartbeats 1000000 in
theorem moved_any (p : Nat) (v : Pv) (n r : Int) (w : World) (h : Box w p 94 v.cells) : Calls Try.prog 72 #[.pointer (some ⟨p, 0, none⟩), .int .i64 n, .int .i64 r] w (MovOut w p v n r) := by
  obtain ⟨c7, c17, c19, c20, c21⟩ := Pv.cel h
  have f17 := h.frozen 17
  have f19 := h.frozen 19
  have f20 := h.frozen 20
  have f21 := h.frozen 21
  have HB : Hid (Box w p 94 v.cells) := h
  refine hideC fun C HC => ?_
  clear h c7
  generalize v.ph = ph at c21
  generalize hT : v.top = top at c19
  have HT : Hid (v.top = top) := hT
  generalize v.n = n0 at c17
  generalize v.rd = r0 at c20
  clear hT
  cases hn : okN n with
  | false =>
    have HN : Hid (okN n = false) := hn
    clear hn
    go_enter Try.func72, Try.ntmps72
    go_wp2_with (go_at_call 88
                 refine Calls.mono (isNumber_any n w) ?_
                 rintro e w1 ⟨rfl, rfl⟩
                 rw [HN.out])
    rw [HC.out]
    exact ⟨by rw [HN.out]; rfl, by rw [movP_no (by rw [HN.out]; rfl)]; exact Pv.setPh HB.out _, (Kept.refl (Only p) _).setCell (p := ⟨p, 21, none⟩) (fun _ => rfl) _⟩
  | true =>
    cases hr : okN r with
    | false =>
      have HN : Hid (okN n = true) := hn
      have HR : Hid (okN r = false) := hr
      clear hn hr
      go_enter Try.func72, Try.ntmps72
      go_wp2_with (first
        | (go_at_call 88
           have h0 := D1
           refine Calls.mono (isNumber_any r _) ?_
           rintro e w1 ⟨rfl, rfl⟩
           rw [HR.out])
        | (go_at_call 88
           refine Calls.mono (isNumber_any n w) ?_
           rintro e w1 ⟨rfl, rfl⟩
           have D1 : True := trivial
           rw [HN.out]))
      rw [HC.out]
      exact ⟨by rw [HN.out, HR.out]; rfl, by rw [movP_no (by rw [HN.out, HR.out]; rfl)]; exact Pv.setPh HB.out _, (Kept.refl (Only p) _).setCell (p := ⟨p, 21, none⟩) (fun _ => rfl) _⟩
    | true =>
      have HN : Hid (okN n = true) := hn
      have HR : Hid (okN r = true) := hr
      clear hn hr
      go_enter Try.func72, Try.ntmps72
      go_wp2_with (first
        | (go_at_call 88
           have h0 := D1
           refine Calls.mono (isNumber_any r _) ?_
           rintro e w1 ⟨rfl, rfl⟩
           rw [HR.out])
        | (go_at_call 88
           refine Calls.mono (isNumber_any n w) ?_
           rintro e w1 ⟨rfl, rfl⟩
           have D1 : True := trivial
           rw [HN.out]))
      all_goals rw [HC.out]
      all_goals have HB := HB.out
      all_goals have e1 : max v.top n = if top < n then n else top := by rw [HT.out]; split <;> omega
      all_goals refine ⟨by rw [HN.out, HR.out]; rfl, ?_, (((Kept.refl (Only p) _).setCell (p := ⟨p, 17, none⟩) (fun _ => rfl) _).setCell (p := ⟨p, 20, none⟩) (fun _ => rfl) _).setCell (p := ⟨p, 19, none⟩) (fun _ => rfl) _⟩
      all_goals rw [movP_yes (by rw [HN.out, HR.out]; rfl), e1]
      · rw [if_pos (by assumption)]
        exact Pv.setTop (Pv.setRd (Pv.setN HB n) r) n
      · rw [if_neg (by omega)]
        exact Pv.setTop (Pv.setRd (Pv.setN HB n) r) top
end Go.Proofs.Ytpabpeppgpeaoaa
