import Derived.Test.YtphiokehcgbldaaQi
namespace Go.Proofs.Ytphiokehcgbldaa
open Go.RowKit Go.Shelf
set_option linter.unusedVariables false
set_option linter.unusedSimpArgs false
set_option maxRecDepth 100000
section
variable {o : Oper} {a : Act} {w w' : World} {x y z : Operand} {v : Value}
theorem exec_f37_1 {g : Nat} (ho : o.op = .fieldAddr 37 x 1) (hx : a.eval x = .pointer (some ⟨g, 0, none⟩)) : (execOp a.eval o).run Try.prog w = .ok (.value (.pointer (some ⟨g, 1, none⟩))) w := by
  simp only [execOp, ho, hx]; kernel_rfl
theorem exec_f37_2 {g : Nat} (ho : o.op = .fieldAddr 37 x 2) (hx : a.eval x = .pointer (some ⟨g, 0, none⟩)) : (execOp a.eval o).run Try.prog w = .ok (.value (.pointer (some ⟨g, 3, none⟩))) w := by
  simp only [execOp, ho, hx]; kernel_rfl
theorem exec_f37_3 {g : Nat} (ho : o.op = .fieldAddr 37 x 3) (hx : a.eval x = .pointer (some ⟨g, 0, none⟩)) : (execOp a.eval o).run Try.prog w = .ok (.value (.pointer (some ⟨g, 5, none⟩))) w := by
  simp only [execOp, ho, hx]; kernel_rfl
theorem exec_c12 {u1 u2 u3 : Value} (ho : o.op = .call { callee := .value (.func 12), args := #[x, y, z], argTypes := #[23, 34, 34] }) (hx : a.eval x = u1) (hy : a.eval y = u2) (hz : a.eval z = u3) : (execOp a.eval o).run Try.prog w = .ok (.enter 12 #[u1, u2, u3]) w := by
  subst hx hy hz
  simp only [execOp, ho]
  kernel_rfl
theorem exec_c32 {u1 u2 u3 : Value} (ho : o.op = .call { callee := .value (.func 32), args := #[x, y, z], argTypes := #[25, 34, 34] }) (hx : a.eval x = u1) (hy : a.eval y = u2) (hz : a.eval z = u3) : (execOp a.eval o).run Try.prog w = .ok (.enter 32 #[u1, u2, u3]) w := by
  subst hx hy hz
  simp only [execOp, ho]
  kernel_rfl
theorem exec_c33 {u1 u2 : Value} (ho : o.op = .call { callee := .value (.func 33), args := #[x, y], argTypes := #[3, 3] }) (hx : a.eval x = u1) (hy : a.eval y = u2) : (execOp a.eval o).run Try.prog w = .ok (.enter 33 #[u1, u2]) w := by
  subst hx hy
  simp only [execOp, ho]
  kernel_rfl
theorem exec_c9 {u1 u2 : Value} (ho : o.op = .call { callee := .value (.func 9), args := #[x, y], argTypes := #[31, 37] }) (hx : a.eval x = u1) (hy : a.eval y = u2) : (execOp a.eval o).run Try.prog w = .ok (.enter 9 #[u1, u2]) w := by
  subst hx hy
  simp only [execOp, ho]
  kernel_rfl
theorem exec_ix22 {D off m c0 i : Nat} (ho : o.op = .indexAddr 22 x y) (hx : a.eval x = .slice (some ⟨D, off, none⟩) m c0) (hy : a.eval y = .int .i64 (i : Nat)) (hi : i < m) : (execOp a.eval o).run Try.prog w = .ok (.value (.pointer (some ⟨D, off + i * 7, none⟩))) w :=
  Wa.exec_ixA (o := o) (a := a) (w := w) 22 7 (by kernel_rfl) (by kernel_rfl) x y ho D off m c0 i hx hy hi
theorem ld31 {g : Nat} {c0 c1 : Value} (h : Box w g 31 #[c0, c1]) : (loadVar 31 ⟨g, 0, none⟩).run Try.prog w = .ok (.agg #[c0, c1]) w :=
  run_loadVar_row w g 31 31 _ (0, 0) _ h Try.underlying31 rfl (by kernel_rfl)
theorem ld37 {b p : Nat} {s : St} (h : w.rangeAt b p s.cs) : (loadVar 37 ⟨b, p, none⟩).run Try.prog w = .ok (.agg s.cs.toArray) w :=
  run_loadVar_mid w b p 37 s.cs _ h Try.underlying37 rfl (by kernel_rfl)
theorem ld34at {g p : Nat} {T : TypeId} {cs : List Value} (q : Ad) (hb : Box w g T cs.toArray) (h0 : cs[p]? = some (.bool q.1)) (h1 : cs[p + 1]? = some (.int .i64 q.2)) : (loadVar 34 ⟨g, p, none⟩).run Try.prog w = .ok (mkA q) w :=
  ld34 q hb (fun j v h => by
    match j, h with
    | 0, h => rw [← h]; exact h0
    | 1, h => rw [← h]; exact h1
    | j + 2, h => simp at h)
end
theorem St.range {w : World} {g : Nat} {x : St} (h : Box w g 37 x.cs.toArray) : w.rangeAt g 0 x.cs := fun j v hv => by
  rw [h.cell, Nat.zero_add, List.getElem?_toArray]; exact hv

def t16o0 : Oper := { dst := some 72, op := Op.fieldAddr 31 (Operand.tmp 2) 0, type := 0, pos := "law.go:113", after := #[], guard := none }
def t16o1 : Oper := { dst := some 73, op := Op.load 23 (Operand.tmp 72), type := 23, pos := "law.go:113", after := #[{ on := 0, ground := Ground.data }], guard := none }
def t16o2 : Oper := { dst := some 74, op := Op.fieldAddr 37 (Operand.tmp 3) 1, type := 0, pos := "law.go:113", after := #[], guard := none }
def t16o3 : Oper := { dst := some 75, op := Op.load 34 (Operand.tmp 74), type := 34, pos := "law.go:113", after := #[{ on := 2, ground := Ground.data }], guard := none }
def t16o4 : Oper := { dst := some 76, op := Op.fieldAddr 37 (Operand.tmp 3) 2, type := 0, pos := "law.go:113", after := #[], guard := none }
def t16o5 : Oper := { dst := some 77, op := Op.load 34 (Operand.tmp 76), type := 34, pos := "law.go:113", after := #[{ on := 4, ground := Ground.data }], guard := none }
def t16o6 : Oper := { dst := some 78, op := Op.call { callee := Callee.value (Operand.func 12), args := #[Operand.tmp 73, Operand.tmp 75, Operand.tmp 77], argTypes := #[23, 34, 34] }, type := 3, pos := "law.go:113", after := #[{ on := 1, ground := Ground.data }, { on := 3, ground := Ground.data }, { on := 5, ground := Ground.data }], guard := none }
def t16o7 : Oper := { dst := some 79, op := Op.fieldAddr 31 (Operand.tmp 2) 1, type := 0, pos := "law.go:113", after := #[], guard := none }
def t16o8 : Oper := { dst := some 80, op := Op.load 25 (Operand.tmp 79), type := 25, pos := "law.go:113", after := #[{ on := 7, ground := Ground.data }], guard := none }
def t16o9 : Oper := { dst := some 81, op := Op.fieldAddr 37 (Operand.tmp 3) 1, type := 0, pos := "law.go:113", after := #[], guard := none }
def t16o10 : Oper := { dst := some 82, op := Op.load 34 (Operand.tmp 81), type := 34, pos := "law.go:113", after := #[{ on := 9, ground := Ground.data }], guard := none }
def t16o11 : Oper := { dst := some 83, op := Op.fieldAddr 37 (Operand.tmp 3) 2, type := 0, pos := "law.go:113", after := #[], guard := none }
def t16o12 : Oper := { dst := some 84, op := Op.load 34 (Operand.tmp 83), type := 34, pos := "law.go:113", after := #[{ on := 11, ground := Ground.data }], guard := none }
def t16o13 : Oper := { dst := some 85, op := Op.call { callee := Callee.value (Operand.func 32), args := #[Operand.tmp 80, Operand.tmp 82, Operand.tmp 84], argTypes := #[25, 34, 34] }, type := 3, pos := "law.go:113", after := #[{ on := 8, ground := Ground.data }, { on := 10, ground := Ground.data }, { on := 12, ground := Ground.data }, { on := 6, ground := Ground.chain }], guard := none }
def t16o14 : Oper := { dst := some 86, op := Op.binOp BinOp.eql 3 (Operand.tmp 78) (Operand.tmp 85) 3, type := 4, pos := "law.go:113", after := #[{ on := 6, ground := Ground.data }, { on := 13, ground := Ground.data }], guard := none }
def t16o15 : Oper := { dst := some 4, op := Op.assign (Operand.tmp 86), type := 4, pos := "law.go:113", after := #[{ on := 14, ground := Ground.data }, { on := 13, ground := Ground.chain }, { on := 0, ground := Ground.phase }, { on := 1, ground := Ground.phase }, { on := 2, ground := Ground.phase }, { on := 3, ground := Ground.phase }, { on := 4, ground := Ground.phase }, { on := 5, ground := Ground.phase }, { on := 6, ground := Ground.phase }, { on := 7, ground := Ground.phase }, { on := 8, ground := Ground.phase }, { on := 9, ground := Ground.phase }, { on := 10, ground := Ground.phase }, { on := 11, ground := Ground.phase }, { on := 12, ground := Ground.phase }, { on := 13, ground := Ground.phase }, { on := 14, ground := Ground.phase }], guard := none }
def t16ops : Array Oper := #[t16o0, t16o1, t16o2, t16o3, t16o4, t16o5, t16o6, t16o7, t16o8, t16o9, t16o10, t16o11, t16o12, t16o13, t16o14, t16o15]
set_option maxHeartbeats 4000000 in
theorem t16 (a : Act) (bW bX n r p q : Nat) (xk fi ti cc : Int) (fc tc : Bool) (xd : Value) (wm : World) (Q : Exit → Act → World → Prop) (hsz : a.tmps.size = 140) (h2 : a.eval (.tmp 2) = .pointer (some ⟨bW, 0, none⟩)) (h3 : a.eval (.tmp 3) = .pointer (some ⟨bX, 0, none⟩)) (hc0 : Box wm bW 31 #[.pointer (some ⟨n, 0, none⟩), .pointer (some ⟨r, 0, none⟩)]) (hc1 : Box wm bX 37 #[.int .i64 xk, .bool fc, .int .i64 fi, .bool tc, .int .i64 ti, .int .i64 cc, xd]) (hc12 : ∀ W, Kept No wm W → Calls Try.prog 12 #[.pointer (some ⟨n, 0, none⟩), .agg #[.bool fc, .int .i64 fi], .agg #[.bool tc, .int .i64 ti]] W (fun e w' => e = .returned (.int .i64 (p : Nat)) ∧ Kept No W w')) (hc32 : ∀ W, Kept No wm W → Calls Try.prog 32 #[.pointer (some ⟨r, 0, none⟩), .agg #[.bool fc, .int .i64 fi], .agg #[.bool tc, .int .i64 ti]] W (fun e w' => e = .returned (.int .i64 (p : Nat)) ∧ Kept No W w'))
    (h : ∀ wo, Kept No wm wo → Q .normal ((((((((((((((((a.put (some 72) (.pointer (some ⟨bW, 0, none⟩))).put (some 73) (.pointer (some ⟨n, 0, none⟩))).put (some 74) (.pointer (some ⟨bX, 1, none⟩))).put (some 75) (.agg #[.bool fc, .int .i64 fi])).put (some 76) (.pointer (some ⟨bX, 3, none⟩))).put (some 77) (.agg #[.bool tc, .int .i64 ti])).put (some 79) (.pointer (some ⟨bW, 1, none⟩))).put (some 80) (.pointer (some ⟨r, 0, none⟩))).put (some 81) (.pointer (some ⟨bX, 1, none⟩))).put (some 82) (.agg #[.bool fc, .int .i64 fi])).put (some 83) (.pointer (some ⟨bX, 3, none⟩))).put (some 84) (.agg #[.bool tc, .int .i64 ti])).put (some 78) (.int .i64 (p : Nat))).put (some 85) (.int .i64 (p : Nat))).put (some 86) (.bool true)).put (some 4) (.bool true)) wo) :
    Code.wp Try.prog (.region 16 t16ops true) Q a wm := by
  unfold t16ops
  refine flat_held (S := fun w' => Box w' bW 31 #[.pointer (some ⟨n, 0, none⟩), .pointer (some ⟨r, 0, none⟩)] ∧ Box w' bX 37 #[.int .i64 xk, .bool fc, .int .i64 fi, .bool tc, .int .i64 ti, .int .i64 cc, xd]) rfl ⟨hc0, hc1⟩ (fun hH => ?_)
  refine Wa.aT (i := 0) (oi := t16o0) (v := .pointer (some ⟨bW, 0, none⟩)) (fun _ hw => exec_f31_0 rfl (by assumption)) hH ?_ (hQ := npo)
  refine Wa.aT (i := 1) (oi := t16o1) (v := .pointer (some ⟨n, 0, none⟩)) (fun _ hw => Wa.exec_load 23 _ rfl ⟨bW, 0, none⟩ (by simp [t16o0, ev_ne, ev_eq, sz_put, put_none, evc, hsz, h2, h3]) _ (Wa.load_one (hw.1.cell 0) Try.underlying23 rfl)) hH ?_ (hQ := npo)
  refine Wa.aT (i := 2) (oi := t16o2) (v := .pointer (some ⟨bX, 1, none⟩)) (fun _ hw => exec_f37_1 rfl (by simp [t16o0, t16o1, ev_ne, ev_eq, sz_put, put_none, evc, hsz, h2, h3])) hH ?_ (hQ := npo)
  refine Wa.aT (i := 3) (oi := t16o3) (v := .agg #[.bool fc, .int .i64 fi]) (fun _ hw => Wa.exec_load 34 _ rfl ⟨bX, 1, none⟩ (by simp [t16o0, t16o1, t16o2, ev_ne, ev_eq, sz_put, put_none, evc, hsz, h2, h3]) _ (ld34at (cs := [.int .i64 xk, .bool fc, .int .i64 fi, .bool tc, .int .i64 ti, .int .i64 cc, xd]) (fc, fi) hw.2 rfl rfl)) hH ?_ (hQ := npo)
  refine Wa.aT (i := 4) (oi := t16o4) (v := .pointer (some ⟨bX, 3, none⟩)) (fun _ hw => exec_f37_2 rfl (by simp [t16o0, t16o1, t16o2, t16o3, ev_ne, ev_eq, sz_put, put_none, evc, hsz, h2, h3])) hH ?_ (hQ := npo)
  refine Wa.aT (i := 5) (oi := t16o5) (v := .agg #[.bool tc, .int .i64 ti]) (fun _ hw => Wa.exec_load 34 _ rfl ⟨bX, 3, none⟩ (by simp [t16o0, t16o1, t16o2, t16o3, t16o4, ev_ne, ev_eq, sz_put, put_none, evc, hsz, h2, h3]) _ (ld34at (cs := [.int .i64 xk, .bool fc, .int .i64 fi, .bool tc, .int .i64 ti, .int .i64 cc, xd]) (tc, ti) hw.2 rfl rfl)) hH ?_ (hQ := npo)
  refine Wa.aT (i := 7) (oi := t16o7) (v := .pointer (some ⟨bW, 1, none⟩)) (fun _ hw => exec_f31_1 rfl (by simp [t16o0, t16o1, t16o2, t16o3, t16o4, t16o5, ev_ne, ev_eq, sz_put, put_none, evc, hsz, h2, h3])) hH ?_ (hQ := npo)
  refine Wa.aT (i := 8) (oi := t16o8) (v := .pointer (some ⟨r, 0, none⟩)) (fun _ hw => Wa.exec_load 25 _ rfl ⟨bW, 1, none⟩ (by simp [t16o0, t16o1, t16o2, t16o3, t16o4, t16o5, t16o7, ev_ne, ev_eq, sz_put, put_none, evc, hsz, h2, h3]) _ (Wa.load_one (hw.1.cell 1) Try.underlying25 rfl)) hH ?_ (hQ := npo)
  refine Wa.aT (i := 9) (oi := t16o9) (v := .pointer (some ⟨bX, 1, none⟩)) (fun _ hw => exec_f37_1 rfl (by simp [t16o0, t16o1, t16o2, t16o3, t16o4, t16o5, t16o7, t16o8, ev_ne, ev_eq, sz_put, put_none, evc, hsz, h2, h3])) hH ?_ (hQ := npo)
  refine Wa.aT (i := 10) (oi := t16o10) (v := .agg #[.bool fc, .int .i64 fi]) (fun _ hw => Wa.exec_load 34 _ rfl ⟨bX, 1, none⟩ (by simp [t16o0, t16o1, t16o2, t16o3, t16o4, t16o5, t16o7, t16o8, t16o9, ev_ne, ev_eq, sz_put, put_none, evc, hsz, h2, h3]) _ (ld34at (cs := [.int .i64 xk, .bool fc, .int .i64 fi, .bool tc, .int .i64 ti, .int .i64 cc, xd]) (fc, fi) hw.2 rfl rfl)) hH ?_ (hQ := npo)
  refine Wa.aT (i := 11) (oi := t16o11) (v := .pointer (some ⟨bX, 3, none⟩)) (fun _ hw => exec_f37_2 rfl (by simp [t16o0, t16o1, t16o2, t16o3, t16o4, t16o5, t16o7, t16o8, t16o9, t16o10, ev_ne, ev_eq, sz_put, put_none, evc, hsz, h2, h3])) hH ?_ (hQ := npo)
  refine Wa.aT (i := 12) (oi := t16o12) (v := .agg #[.bool tc, .int .i64 ti]) (fun _ hw => Wa.exec_load 34 _ rfl ⟨bX, 3, none⟩ (by simp [t16o0, t16o1, t16o2, t16o3, t16o4, t16o5, t16o7, t16o8, t16o9, t16o10, t16o11, ev_ne, ev_eq, sz_put, put_none, evc, hsz, h2, h3]) _ (ld34at (cs := [.int .i64 xk, .bool fc, .int .i64 fi, .bool tc, .int .i64 ti, .int .i64 cc, xd]) (tc, ti) hw.2 rfl rfl)) hH ?_ (hQ := npo)
  refine Wa.any_call (i := 6) (o := t16o6) rfl (by kernel_rfl) (by kernel_rfl) 12 #[.pointer (some ⟨n, 0, none⟩), .agg #[.bool fc, .int .i64 fi], .agg #[.bool tc, .int .i64 ti]] (exec_c12 rfl (by simp [t16o0, t16o1, t16o2, t16o3, t16o4, t16o5, t16o7, t16o8, t16o9, t16o10, t16o11, t16o12, ev_ne, ev_eq, sz_put, put_none, evc, hsz, h2, h3]) (by simp [t16o0, t16o1, t16o2, t16o3, t16o4, t16o5, t16o7, t16o8, t16o9, t16o10, t16o11, t16o12, ev_ne, ev_eq, sz_put, put_none, evc, hsz, h2, h3]) (by simp [t16o0, t16o1, t16o2, t16o3, t16o4, t16o5, t16o7, t16o8, t16o9, t16o10, t16o11, t16o12, ev_ne, ev_eq, sz_put, put_none, evc, hsz, h2, h3])) _ (hc12 _ (Kept.refl No wm).drew) ?_
  rintro e w5 ⟨rfl, hk5⟩
  refine ⟨_, rfl, ⟨hH.1.kept hk5 (fun e => e), hH.2.kept hk5 (fun e => e)⟩, fun hH => ?_⟩
  refine Wa.any_call (i := 13) (o := t16o13) rfl (by kernel_rfl) (by kernel_rfl) 32 #[.pointer (some ⟨r, 0, none⟩), .agg #[.bool fc, .int .i64 fi], .agg #[.bool tc, .int .i64 ti]] (exec_c32 rfl (by simp [t16o0, t16o1, t16o2, t16o3, t16o4, t16o5, t16o7, t16o8, t16o9, t16o10, t16o11, t16o12, t16o6, ev_ne, ev_eq, sz_put, put_none, evc, hsz, h2, h3]) (by simp [t16o0, t16o1, t16o2, t16o3, t16o4, t16o5, t16o7, t16o8, t16o9, t16o10, t16o11, t16o12, t16o6, ev_ne, ev_eq, sz_put, put_none, evc, hsz, h2, h3]) (by simp [t16o0, t16o1, t16o2, t16o3, t16o4, t16o5, t16o7, t16o8, t16o9, t16o10, t16o11, t16o12, t16o6, ev_ne, ev_eq, sz_put, put_none, evc, hsz, h2, h3])) _ (hc32 _ ((Kept.refl No wm).drew.then hk5)) ?_
  rintro e w6 ⟨rfl, hk6⟩
  refine ⟨_, rfl, ⟨hH.1.kept hk6 (fun e => e), hH.2.kept hk6 (fun e => e)⟩, fun hH => ?_⟩
  refine Wa.any_step (i := 14) (o := t16o14) (v := .bool (decide (p = p))) rfl (by kernel_rfl) (by kernel_rfl) (exec_eqN rfl (by simp [t16o0, t16o1, t16o2, t16o3, t16o4, t16o5, t16o7, t16o8, t16o9, t16o10, t16o11, t16o12, t16o6, t16o13, ev_ne, ev_eq, sz_put, put_none, evc, hsz, h2, h3]) (by simp [t16o0, t16o1, t16o2, t16o3, t16o4, t16o5, t16o7, t16o8, t16o9, t16o10, t16o11, t16o12, t16o6, t16o13, ev_ne, ev_eq, sz_put, put_none, evc, hsz, h2, h3])) hH (fun hH => ?_)
  rw [decide_eq_true (rfl : p = p)]
  refine Wa.any_step (i := 15) (o := t16o15) (v := .bool true) rfl (by kernel_rfl) (by kernel_rfl) (exec_as rfl (by simp [t16o0, t16o1, t16o2, t16o3, t16o4, t16o5, t16o7, t16o8, t16o9, t16o10, t16o11, t16o12, t16o6, t16o13, t16o14, ev_ne, ev_eq, sz_put, put_none, evc, hsz, h2, h3])) hH (fun hH => ?_)
  refine wpAnyH_done (by kernel_rfl) (npoQ ?_) _
  simp only [t16o0, t16o1, t16o2, t16o3, t16o4, t16o5, t16o6, t16o7, t16o8, t16o9, t16o10, t16o11, t16o12, t16o13, t16o14, t16o15, put_none]
  exact h _ (((Kept.refl No wm).drew.then hk5).then hk6)
def t28o0 : Oper := { dst := some 118, op := Op.fieldAddr 31 (Operand.tmp 2) 1, type := 0, pos := "law.go:125", after := #[], guard := none }
def t28o1 : Oper := { dst := some 119, op := Op.load 25 (Operand.tmp 118), type := 25, pos := "law.go:125", after := #[{ on := 0, ground := Ground.data }], guard := none }
def t28o2 : Oper := { dst := some 120, op := Op.nilCheck (Operand.tmp 119), type := 0, pos := "law.go:125", after := #[{ on := 1, ground := Ground.data }], guard := none }
def t28o3 : Oper := { dst := some 121, op := Op.fieldAddr 29 (Operand.tmp 120) 0, type := 0, pos := "law.go:125", after := #[{ on := 2, ground := Ground.data }], guard := none }
def t28o4 : Oper := { dst := some 122, op := Op.load 26 (Operand.tmp 121), type := 26, pos := "law.go:125", after := #[{ on := 3, ground := Ground.data }], guard := none }
def t28o5 : Oper := { dst := some 123, op := Op.fieldAddr 37 (Operand.tmp 3) 3, type := 0, pos := "law.go:125", after := #[], guard := none }
def t28o6 : Oper := { dst := some 124, op := Op.load 3 (Operand.tmp 123), type := 3, pos := "law.go:125", after := #[{ on := 5, ground := Ground.data }], guard := none }
def t28o7 : Oper := { dst := some 125, op := Op.fieldAddr 31 (Operand.tmp 2) 1, type := 0, pos := "law.go:125", after := #[], guard := none }
def t28o8 : Oper := { dst := some 126, op := Op.load 25 (Operand.tmp 125), type := 25, pos := "law.go:125", after := #[{ on := 7, ground := Ground.data }], guard := none }
def t28o9 : Oper := { dst := some 127, op := Op.nilCheck (Operand.tmp 126), type := 0, pos := "law.go:125", after := #[{ on := 8, ground := Ground.data }], guard := none }
def t28o10 : Oper := { dst := some 128, op := Op.fieldAddr 29 (Operand.tmp 127) 0, type := 0, pos := "law.go:125", after := #[{ on := 9, ground := Ground.data }], guard := none }
def t28o11 : Oper := { dst := some 129, op := Op.load 26 (Operand.tmp 128), type := 26, pos := "law.go:125", after := #[{ on := 10, ground := Ground.data }], guard := none }
def t28o12 : Oper := { dst := some 130, op := Op.call { callee := Callee.builtin Builtin.len, args := #[Operand.tmp 129], argTypes := #[26] }, type := 3, pos := "law.go:125", after := #[{ on := 11, ground := Ground.data }], guard := none }
def t28o13 : Oper := { dst := some 131, op := Op.call { callee := Callee.value (Operand.func 33), args := #[Operand.tmp 124, Operand.tmp 130], argTypes := #[3, 3] }, type := 3, pos := "law.go:125", after := #[{ on := 6, ground := Ground.data }, { on := 12, ground := Ground.data }], guard := none }
def t28o14 : Oper := { dst := some 132, op := Op.indexAddr 26 (Operand.tmp 122) (Operand.tmp 131), type := 0, pos := "law.go:125", after := #[{ on := 4, ground := Ground.data }, { on := 13, ground := Ground.data }], guard := none }
def t28o15 : Oper := { dst := some 133, op := Op.load 44 (Operand.tmp 132), type := 44, pos := "law.go:125", after := #[{ on := 14, ground := Ground.data }], guard := none }
def t28o16 : Oper := { dst := some 10, op := Op.alloc 44, type := 0, pos := "law.go:125", after := #[], guard := none }
def t28o17 : Oper := { dst := none, op := Op.store 44 (Operand.tmp 10) (Operand.tmp 133), type := 0, pos := "law.go:125", after := #[{ on := 16, ground := Ground.data }, { on := 15, ground := Ground.data }, { on := 13, ground := Ground.chain }, { on := 0, ground := Ground.phase }, { on := 1, ground := Ground.phase }, { on := 2, ground := Ground.phase }, { on := 3, ground := Ground.phase }, { on := 4, ground := Ground.phase }, { on := 5, ground := Ground.phase }, { on := 6, ground := Ground.phase }, { on := 7, ground := Ground.phase }, { on := 8, ground := Ground.phase }, { on := 9, ground := Ground.phase }, { on := 10, ground := Ground.phase }, { on := 11, ground := Ground.phase }, { on := 12, ground := Ground.phase }, { on := 13, ground := Ground.phase }, { on := 14, ground := Ground.phase }, { on := 15, ground := Ground.phase }, { on := 16, ground := Ground.phase }], guard := none }
def t28ops : Array Oper := #[t28o0, t28o1, t28o2, t28o3, t28o4, t28o5, t28o6, t28o7, t28o8, t28o9, t28o10, t28o11, t28o12, t28o13, t28o14, t28o15, t28o16, t28o17]
set_option maxHeartbeats 4000000 in
theorem t28 (a : Act) (bW bX n r pg m lc k : Nat) (CS : List Value) (y : Tp) (xk fi ti cc : Int) (fc tc : Bool) (xd sv : Value) (wm : World) (Q : Exit → Act → World → Prop) (hsz : a.tmps.size = 140) (h2 : a.eval (.tmp 2) = .pointer (some ⟨bW, 0, none⟩)) (h3 : a.eval (.tmp 3) = .pointer (some ⟨bX, 0, none⟩)) (hc0 : Box wm bW 31 #[.pointer (some ⟨n, 0, none⟩), .pointer (some ⟨r, 0, none⟩)]) (hc1 : Box wm bX 37 #[.int .i64 xk, .bool fc, .int .i64 fi, .bool tc, .int .i64 ti, .int .i64 cc, xd]) (hc2 : Box wm r 29 #[.slice (some ⟨pg, 0, none⟩) m lc, sv]) (hc3 : Box wm pg 44 CS.toArray) (hkm : k < m) (hpart : Wa.Part CS (k * 6) (pkL y)) (hcall : ∀ W, Calls Try.prog 33 #[.int .i64 cc, .int .i64 (m : Nat)] W (fun e w' => e = .returned (.int .i64 (k : Nat)) ∧ w' = W))
    (h : ∀ wo G, Box wo G 44 (pkL y).toArray → wm.heap.size ≤ G → Kept No wm wo → Q .normal (((((((((((((((((a.put (some 118) (.pointer (some ⟨bW, 1, none⟩))).put (some 119) (.pointer (some ⟨r, 0, none⟩))).put (some 120) (.pointer (some ⟨r, 0, none⟩))).put (some 121) (.pointer (some ⟨r, 0, none⟩))).put (some 122) (.slice (some ⟨pg, 0, none⟩) m lc)).put (some 123) (.pointer (some ⟨bX, 5, none⟩))).put (some 124) (.int .i64 cc)).put (some 125) (.pointer (some ⟨bW, 1, none⟩))).put (some 126) (.pointer (some ⟨r, 0, none⟩))).put (some 127) (.pointer (some ⟨r, 0, none⟩))).put (some 128) (.pointer (some ⟨r, 0, none⟩))).put (some 129) (.slice (some ⟨pg, 0, none⟩) m lc)).put (some 130) (.int .i64 (m : Nat))).put (some 131) (.int .i64 (k : Nat))).put (some 132) (.pointer (some ⟨pg, k * 6, none⟩))).put (some 133) (.agg (pkL y).toArray)).put (some 10) (.pointer (some ⟨G, 0, none⟩))) wo) :
    Code.wp Try.prog (.region 28 t28ops true) Q a wm := by
  unfold t28ops
  refine flat_held (S := fun w' => Box w' bW 31 #[.pointer (some ⟨n, 0, none⟩), .pointer (some ⟨r, 0, none⟩)] ∧ Box w' bX 37 #[.int .i64 xk, .bool fc, .int .i64 fi, .bool tc, .int .i64 ti, .int .i64 cc, xd] ∧ Box w' r 29 #[.slice (some ⟨pg, 0, none⟩) m lc, sv] ∧ Box w' pg 44 CS.toArray) rfl ⟨hc0, hc1, hc2, hc3⟩ (fun hH => ?_)
  refine Wa.aT (i := 0) (oi := t28o0) (v := .pointer (some ⟨bW, 1, none⟩)) (fun _ hw => exec_f31_1 rfl (by assumption)) hH ?_ (hQ := npo)
  refine Wa.aT (i := 1) (oi := t28o1) (v := .pointer (some ⟨r, 0, none⟩)) (fun _ hw => Wa.exec_load 25 _ rfl ⟨bW, 1, none⟩ (by simp [t28o0, ev_ne, ev_eq, sz_put, put_none, evc, hsz, h2, h3]) _ (Wa.load_one (hw.1.cell 1) Try.underlying25 rfl)) hH ?_ (hQ := npo)
  refine Wa.aT (i := 2) (oi := t28o2) (v := .pointer (some ⟨r, 0, none⟩)) (fun _ hw => exec_nil rfl (by simp [t28o0, t28o1, ev_ne, ev_eq, sz_put, put_none, evc, hsz, h2, h3])) hH ?_ (hQ := npo)
  refine Wa.aT (i := 3) (oi := t28o3) (v := .pointer (some ⟨r, 0, none⟩)) (fun _ hw => exec_f29_0 rfl (by simp [t28o0, t28o1, t28o2, ev_ne, ev_eq, sz_put, put_none, evc, hsz, h2, h3])) hH ?_ (hQ := npo)
  refine Wa.aT (i := 4) (oi := t28o4) (v := .slice (some ⟨pg, 0, none⟩) m lc) (fun _ hw => Wa.exec_load 26 _ rfl ⟨r, 0, none⟩ (by simp [t28o0, t28o1, t28o2, t28o3, ev_ne, ev_eq, sz_put, put_none, evc, hsz, h2, h3]) _ (Wa.load_one (hw.2.2.1.cell 0) Try.underlying26 rfl)) hH ?_ (hQ := npo)
  refine Wa.aT (i := 5) (oi := t28o5) (v := .pointer (some ⟨bX, 5, none⟩)) (fun _ hw => exec_f37_3 rfl (by simp [t28o0, t28o1, t28o2, t28o3, t28o4, ev_ne, ev_eq, sz_put, put_none, evc, hsz, h2, h3])) hH ?_ (hQ := npo)
  refine Wa.aT (i := 6) (oi := t28o6) (v := .int .i64 cc) (fun _ hw => Wa.exec_load 3 _ rfl ⟨bX, 5, none⟩ (by simp [t28o0, t28o1, t28o2, t28o3, t28o4, t28o5, ev_ne, ev_eq, sz_put, put_none, evc, hsz, h2, h3]) _ (Wa.load_one (hw.2.1.cell 5) Try.underlying3 rfl)) hH ?_ (hQ := npo)
  refine Wa.aT (i := 7) (oi := t28o7) (v := .pointer (some ⟨bW, 1, none⟩)) (fun _ hw => exec_f31_1 rfl (by simp [t28o0, t28o1, t28o2, t28o3, t28o4, t28o5, t28o6, ev_ne, ev_eq, sz_put, put_none, evc, hsz, h2, h3])) hH ?_ (hQ := npo)
  refine Wa.aT (i := 8) (oi := t28o8) (v := .pointer (some ⟨r, 0, none⟩)) (fun _ hw => Wa.exec_load 25 _ rfl ⟨bW, 1, none⟩ (by simp [t28o0, t28o1, t28o2, t28o3, t28o4, t28o5, t28o6, t28o7, ev_ne, ev_eq, sz_put, put_none, evc, hsz, h2, h3]) _ (Wa.load_one (hw.1.cell 1) Try.underlying25 rfl)) hH ?_ (hQ := npo)
  refine Wa.aT (i := 9) (oi := t28o9) (v := .pointer (some ⟨r, 0, none⟩)) (fun _ hw => exec_nil rfl (by simp [t28o0, t28o1, t28o2, t28o3, t28o4, t28o5, t28o6, t28o7, t28o8, ev_ne, ev_eq, sz_put, put_none, evc, hsz, h2, h3])) hH ?_ (hQ := npo)
  refine Wa.aT (i := 10) (oi := t28o10) (v := .pointer (some ⟨r, 0, none⟩)) (fun _ hw => exec_f29_0 rfl (by simp [t28o0, t28o1, t28o2, t28o3, t28o4, t28o5, t28o6, t28o7, t28o8, t28o9, ev_ne, ev_eq, sz_put, put_none, evc, hsz, h2, h3])) hH ?_ (hQ := npo)
  refine Wa.aT (i := 11) (oi := t28o11) (v := .slice (some ⟨pg, 0, none⟩) m lc) (fun _ hw => Wa.exec_load 26 _ rfl ⟨r, 0, none⟩ (by simp [t28o0, t28o1, t28o2, t28o3, t28o4, t28o5, t28o6, t28o7, t28o8, t28o9, t28o10, ev_ne, ev_eq, sz_put, put_none, evc, hsz, h2, h3]) _ (Wa.load_one (hw.2.2.1.cell 0) Try.underlying26 rfl)) hH ?_ (hQ := npo)
  refine Wa.aT (i := 12) (oi := t28o12) (v := .int .i64 (m : Nat)) (fun _ hw => exec_len26 (p := some ⟨pg, 0, none⟩) (c := lc) rfl (by simp [t28o0, t28o1, t28o2, t28o3, t28o4, t28o5, t28o6, t28o7, t28o8, t28o9, t28o10, t28o11, ev_ne, ev_eq, sz_put, put_none, evc, hsz, h2, h3])) hH ?_ (hQ := npo)
  have HK0 : Kept No wm wm.drew := (Kept.refl No wm).drew
  generalize wm.drew = wq at hH HK0 ⊢
  have hal : Kept No wq (wq.alloc (.cells #[.bool false, .int .i64 0, .int .i64 0, .bool false, .int .i64 0, .slice none 0 0] 44)) := (Kept.refl No wq).alloc _
  have hHa : (fun w' => Box w' bW 31 #[.pointer (some ⟨n, 0, none⟩), .pointer (some ⟨r, 0, none⟩)] ∧ Box w' bX 37 #[.int .i64 xk, .bool fc, .int .i64 fi, .bool tc, .int .i64 ti, .int .i64 cc, xd] ∧ Box w' r 29 #[.slice (some ⟨pg, 0, none⟩) m lc, sv] ∧ Box w' pg 44 CS.toArray) (wq.alloc (.cells #[.bool false, .int .i64 0, .int .i64 0, .bool false, .int .i64 0, .slice none 0 0] 44)) := ⟨hH.1.kept hal (fun e => e), hH.2.1.kept hal (fun e => e), hH.2.2.1.kept hal (fun e => e), hH.2.2.2.kept hal (fun e => e)⟩
  have hne : bW ≠ wq.heap.size ∧ bX ≠ wq.heap.size ∧ r ≠ wq.heap.size ∧ pg ≠ wq.heap.size := ⟨Nat.ne_of_lt hH.1.lt, Nat.ne_of_lt hH.2.1.lt, Nat.ne_of_lt hH.2.2.1.lt, Nat.ne_of_lt hH.2.2.2.lt⟩
  have hbx : Box (wq.alloc (.cells #[.bool false, .int .i64 0, .int .i64 0, .bool false, .int .i64 0, .slice none 0 0] 44)) wq.heap.size 44 #[.bool false, .int .i64 0, .int .i64 0, .bool false, .int .i64 0, .slice none 0 0] := Box.new _ _ _
  have hlo := HK0.size
  refine Wa.any_pick (rs := [13, 16]) (by kernel_rfl) (by simp) ?_
  intro ix hix
  rcases Wa.pick2 hix with rfl | rfl
  · clear hix
    refine Wa.step_call (i := 13) (o := t28o13) rfl (by kernel_rfl) 33 #[.int .i64 cc, .int .i64 (m : Nat)] (exec_c33 rfl (by simp [t28o0, t28o1, t28o2, t28o3, t28o4, t28o5, t28o6, t28o7, t28o8, t28o9, t28o10, t28o11, t28o12, ev_ne, ev_eq, sz_put, put_none, evc, hsz, h2, h3]) (by simp [t28o0, t28o1, t28o2, t28o3, t28o4, t28o5, t28o6, t28o7, t28o8, t28o9, t28o10, t28o11, t28o12, ev_ne, ev_eq, sz_put, put_none, evc, hsz, h2, h3])) _ (hcall wq) ?_
    rintro e w5 ⟨rfl, hw5⟩
    rw [hw5]
    refine ⟨_, rfl, hH, fun hH => ?_⟩
    refine Wa.aT (i := 14) (oi := t28o14) (v := .pointer (some ⟨pg, k * 6, none⟩)) (fun _ hw => exec_ix26 (m := m) (c0 := lc) rfl (by simp [t28o0, t28o1, t28o2, t28o3, t28o4, t28o5, t28o6, t28o7, t28o8, t28o9, t28o10, t28o11, t28o12, t28o13, ev_ne, ev_eq, sz_put, put_none, evc, hsz, h2, h3]) (by simp [t28o0, t28o1, t28o2, t28o3, t28o4, t28o5, t28o6, t28o7, t28o8, t28o9, t28o10, t28o11, t28o12, t28o13, ev_ne, ev_eq, sz_put, put_none, evc, hsz, h2, h3]) hkm) hH ?_ (hQ := npo)
    refine Wa.aT (i := 15) (oi := t28o15) (v := .agg (pkL y).toArray) (fun _ hw => Wa.exec_load 44 _ rfl ⟨pg, k * 6, none⟩ (by simp [t28o0, t28o1, t28o2, t28o3, t28o4, t28o5, t28o6, t28o7, t28o8, t28o9, t28o10, t28o11, t28o12, t28o13, t28o14, ev_ne, ev_eq, sz_put, put_none, evc, hsz, h2, h3]) _ (ldPk hw.2.2.2 hpart)) hH ?_ (hQ := npo)
    refine Wa.any_step (i := 16) (o := t28o16) rfl (by kernel_rfl) (by kernel_rfl) (Wa.exec_alloc 44 rfl #[.bool false, .int .i64 0, .int .i64 0, .bool false, .int .i64 0, .slice none 0 0] (by kernel_rfl)) hHa (fun _ => ?_)
    generalize (wq.alloc (.cells #[.bool false, .int .i64 0, .int .i64 0, .bool false, .int .i64 0, .slice none 0 0] 44)) = w1 at hbx hHa hal ⊢
    generalize wq.heap.size = G at hbx hne hlo ⊢
    refine Wa.any_store (i := 17) (o := t28o17) rfl (by kernel_rfl) (by kernel_rfl) 44 _ _ rfl ⟨G, 0, none⟩ (.agg (pkL y).toArray) (by simp [t28o0, t28o1, t28o2, t28o3, t28o4, t28o5, t28o6, t28o7, t28o8, t28o9, t28o10, t28o11, t28o12, t28o13, t28o14, t28o15, t28o16, ev_ne, ev_eq, sz_put, put_none, evc, hsz, h2, h3]) (by simp [t28o0, t28o1, t28o2, t28o3, t28o4, t28o5, t28o6, t28o7, t28o8, t28o9, t28o10, t28o11, t28o12, t28o13, t28o14, t28o15, t28o16, ev_ne, ev_eq, sz_put, put_none, evc, hsz, h2, h3]) (run_storeVar_row w1 G 44 44 _ _ hbx (by kernel_rfl) rfl (by simp [pkL, Value.oneCell'])) ⟨hHa.1.kept (Wa.Kept.setRow _ _ _) (fun e => hne.1 e), hHa.2.1.kept (Wa.Kept.setRow _ _ _) (fun e => hne.2.1 e), hHa.2.2.1.kept (Wa.Kept.setRow _ _ _) (fun e => hne.2.2.1 e), hHa.2.2.2.kept (Wa.Kept.setRow _ _ _) (fun e => hne.2.2.2 e)⟩ (fun hH => ?_)
    refine wpAnyH_done (by kernel_rfl) (npoQ ?_) _
    simp only [t28o0, t28o1, t28o2, t28o3, t28o4, t28o5, t28o6, t28o7, t28o8, t28o9, t28o10, t28o11, t28o12, t28o13, t28o14, t28o15, t28o16, t28o17, put_none]
    exact h _ G (Wa.Box.setRow hbx _) hlo ((HK0.then hal).trans (Wa.Kept.setRow _ _ _) (fun _ e => e) (fun i hi e => by have e : i = G := e; omega))
  · clear hix
    refine Wa.step_run (i := 16) (o := t28o16) rfl (by kernel_rfl) (Wa.exec_alloc 44 rfl #[.bool false, .int .i64 0, .int .i64 0, .bool false, .int .i64 0, .slice none 0 0] (by kernel_rfl)) hHa (fun hH => ?_)
    refine Wa.any_call (i := 13) (o := t28o13) rfl (by kernel_rfl) (by kernel_rfl) 33 #[.int .i64 cc, .int .i64 (m : Nat)] (exec_c33 rfl (by simp [t28o0, t28o1, t28o2, t28o3, t28o4, t28o5, t28o6, t28o7, t28o8, t28o9, t28o10, t28o11, t28o12, t28o16, ev_ne, ev_eq, sz_put, put_none, evc, hsz, h2, h3]) (by simp [t28o0, t28o1, t28o2, t28o3, t28o4, t28o5, t28o6, t28o7, t28o8, t28o9, t28o10, t28o11, t28o12, t28o16, ev_ne, ev_eq, sz_put, put_none, evc, hsz, h2, h3])) _ (hcall _) ?_
    rintro e w5 ⟨rfl, hw5⟩
    rw [hw5]
    refine ⟨_, rfl, hH, fun hH => ?_⟩
    refine Wa.any_step (i := 14) (o := t28o14) (v := .pointer (some ⟨pg, k * 6, none⟩)) rfl (by kernel_rfl) (by kernel_rfl) (exec_ix26 (m := m) (c0 := lc) rfl (by simp [t28o0, t28o1, t28o2, t28o3, t28o4, t28o5, t28o6, t28o7, t28o8, t28o9, t28o10, t28o11, t28o12, t28o16, t28o13, ev_ne, ev_eq, sz_put, put_none, evc, hsz, h2, h3]) (by simp [t28o0, t28o1, t28o2, t28o3, t28o4, t28o5, t28o6, t28o7, t28o8, t28o9, t28o10, t28o11, t28o12, t28o16, t28o13, ev_ne, ev_eq, sz_put, put_none, evc, hsz, h2, h3]) hkm) hH (fun hH => ?_)
    refine Wa.any_step (i := 15) (o := t28o15) (v := .agg (pkL y).toArray) rfl (by kernel_rfl) (by kernel_rfl) (Wa.exec_load 44 _ rfl ⟨pg, k * 6, none⟩ (by simp [t28o0, t28o1, t28o2, t28o3, t28o4, t28o5, t28o6, t28o7, t28o8, t28o9, t28o10, t28o11, t28o12, t28o16, t28o13, t28o14, ev_ne, ev_eq, sz_put, put_none, evc, hsz, h2, h3]) _ (ldPk hH.2.2.2 hpart)) hH (fun hH => ?_)
    generalize (wq.alloc (.cells #[.bool false, .int .i64 0, .int .i64 0, .bool false, .int .i64 0, .slice none 0 0] 44)) = w1 at hbx hHa hal ⊢
    generalize wq.heap.size = G at hbx hne hlo ⊢
    refine Wa.any_store (i := 17) (o := t28o17) rfl (by kernel_rfl) (by kernel_rfl) 44 _ _ rfl ⟨G, 0, none⟩ (.agg (pkL y).toArray) (by simp [t28o0, t28o1, t28o2, t28o3, t28o4, t28o5, t28o6, t28o7, t28o8, t28o9, t28o10, t28o11, t28o12, t28o16, t28o13, t28o14, t28o15, ev_ne, ev_eq, sz_put, put_none, evc, hsz, h2, h3]) (by simp [t28o0, t28o1, t28o2, t28o3, t28o4, t28o5, t28o6, t28o7, t28o8, t28o9, t28o10, t28o11, t28o12, t28o16, t28o13, t28o14, t28o15, ev_ne, ev_eq, sz_put, put_none, evc, hsz, h2, h3]) (run_storeVar_row w1 G 44 44 _ _ hbx (by kernel_rfl) rfl (by simp [pkL, Value.oneCell'])) ⟨hHa.1.kept (Wa.Kept.setRow _ _ _) (fun e => hne.1 e), hHa.2.1.kept (Wa.Kept.setRow _ _ _) (fun e => hne.2.1 e), hHa.2.2.1.kept (Wa.Kept.setRow _ _ _) (fun e => hne.2.2.1 e), hHa.2.2.2.kept (Wa.Kept.setRow _ _ _) (fun e => hne.2.2.2 e)⟩ (fun hH => ?_)
    refine wpAnyH_done (by kernel_rfl) (npoQ ?_) _
    simp only [t28o0, t28o1, t28o2, t28o3, t28o4, t28o5, t28o6, t28o7, t28o8, t28o9, t28o10, t28o11, t28o12, t28o13, t28o14, t28o15, t28o16, t28o17, put_none]
    rw [put_comm 10 131 (by decide), put_comm 10 132 (by decide), put_comm 10 133 (by decide)]
    exact h _ G (Wa.Box.setRow hbx _) hlo ((HK0.then hal).trans (Wa.Kept.setRow _ _ _) (fun _ e => e) (fun i hi e => by have e : i = G := e; omega))
def p7o0 : Oper := { dst := some 22, op := Op.load 31 (Operand.tmp 3), type := 31, pos := "law.go:139", after := #[], guard := none }
def p7o1 : Oper := { dst := some 23, op := Op.move (Operand.tmp 0), type := 22, pos := "law.go:139", after := #[], guard := none }
def p7o2 : Oper := { dst := some 24, op := Op.move (Operand.tmp 4), type := 3, pos := "law.go:139", after := #[], guard := none }
def p7o3 : Oper := { dst := some 25, op := Op.indexAddr 22 (Operand.tmp 23) (Operand.tmp 24), type := 0, pos := "law.go:139", after := #[{ on := 1, ground := Ground.data }, { on := 2, ground := Ground.data }], guard := none }
def p7o4 : Oper := { dst := some 26, op := Op.load 37 (Operand.tmp 25), type := 37, pos := "law.go:139", after := #[{ on := 3, ground := Ground.data }], guard := none }
def p7o5 : Oper := { dst := some 27, op := Op.call { callee := Callee.value (Operand.func 9), args := #[Operand.tmp 22, Operand.tmp 26], argTypes := #[31, 37] }, type := 4, pos := "law.go:139", after := #[{ on := 0, ground := Ground.data }, { on := 4, ground := Ground.data }], guard := none }
def p7o6 : Oper := { dst := some 28, op := Op.unOp UnOp.not 4 (Operand.tmp 27), type := 4, pos := "law.go:139", after := #[{ on := 5, ground := Ground.data }], guard := none }
def p7ops : Array Oper := #[p7o0, p7o1, p7o2, p7o3, p7o4, p7o5, p7o6]
set_option maxHeartbeats 4000000 in
theorem p7 (a : Act) (bW n r D off m c0 i : Nat) (x : St) (R : World → World → Prop) (wm : World) (Q : Exit → Act → World → Prop) (hsz : a.tmps.size = 34) (h3 : a.eval (.tmp 3) = .pointer (some ⟨bW, 0, none⟩)) (h0 : a.eval (.tmp 0) = .slice (some ⟨D, off, none⟩) m c0) (h4 : a.eval (.tmp 4) = .int .i64 (i : Nat)) (hc0 : Box wm bW 31 #[.pointer (some ⟨n, 0, none⟩), .pointer (some ⟨r, 0, none⟩)]) (hc1 : wm.rangeAt D (off + i * 7) x.cs) (him : i < m) (hcall : ∀ W, W = wm.drew → Calls Try.prog 9 #[.agg #[.pointer (some ⟨n, 0, none⟩), .pointer (some ⟨r, 0, none⟩)], .agg x.cs.toArray] W (fun e w' => e = .returned (.bool true) ∧ R W w' ∧ Box w' bW 31 #[.pointer (some ⟨n, 0, none⟩), .pointer (some ⟨r, 0, none⟩)] ∧ w'.rangeAt D (off + i * 7) x.cs))
    (h : ∀ wo, R wm.drew wo → Q .normal (((((((a.put (some 22) (.agg #[.pointer (some ⟨n, 0, none⟩), .pointer (some ⟨r, 0, none⟩)])).put (some 23) (.slice (some ⟨D, off, none⟩) m c0)).put (some 24) (.int .i64 (i : Nat))).put (some 25) (.pointer (some ⟨D, off + i * 7, none⟩))).put (some 26) (.agg x.cs.toArray)).put (some 27) (.bool true)).put (some 28) (.bool false)) wo) :
    Code.wp Try.prog (.region 7 p7ops true) Q a wm := by
  unfold p7ops
  refine flat_held (S := fun w' => Box w' bW 31 #[.pointer (some ⟨n, 0, none⟩), .pointer (some ⟨r, 0, none⟩)] ∧ w'.rangeAt D (off + i * 7) x.cs) rfl ⟨hc0, hc1⟩ (fun hH => ?_)
  refine Wa.aT (i := 0) (oi := p7o0) (v := .agg #[.pointer (some ⟨n, 0, none⟩), .pointer (some ⟨r, 0, none⟩)]) (fun _ hw => Wa.exec_load 31 _ rfl ⟨bW, 0, none⟩ (by assumption) _ (ld31 hw.1)) hH ?_ (hQ := npo)
  refine Wa.aT (i := 1) (oi := p7o1) (v := .slice (some ⟨D, off, none⟩) m c0) (fun _ hw => exec_mv rfl (by simp [p7o0, ev_ne, ev_eq, sz_put, put_none, evc, hsz, h3, h0, h4])) hH ?_ (hQ := npo)
  refine Wa.any_step (i := 2) (o := p7o2) (v := .int .i64 (i : Nat)) rfl (by kernel_rfl) (by kernel_rfl) (exec_mv rfl (by simp [p7o0, p7o1, ev_ne, ev_eq, sz_put, put_none, evc, hsz, h3, h0, h4])) hH (fun hH => ?_)
  refine Wa.any_step (i := 3) (o := p7o3) (v := .pointer (some ⟨D, off + i * 7, none⟩)) rfl (by kernel_rfl) (by kernel_rfl) (exec_ix22 (m := m) (c0 := c0) rfl (by simp [p7o0, p7o1, p7o2, ev_ne, ev_eq, sz_put, put_none, evc, hsz, h3, h0, h4]) (by simp [p7o0, p7o1, p7o2, ev_ne, ev_eq, sz_put, put_none, evc, hsz, h3, h0, h4]) him) hH (fun hH => ?_)
  refine Wa.any_step (i := 4) (o := p7o4) (v := .agg x.cs.toArray) rfl (by kernel_rfl) (by kernel_rfl) (Wa.exec_load 37 _ rfl ⟨D, off + i * 7, none⟩ (by simp [p7o0, p7o1, p7o2, p7o3, ev_ne, ev_eq, sz_put, put_none, evc, hsz, h3, h0, h4]) _ (ld37 hH.2)) hH (fun hH => ?_)
  refine Wa.any_call (i := 5) (o := p7o5) rfl (by kernel_rfl) (by kernel_rfl) 9 #[.agg #[.pointer (some ⟨n, 0, none⟩), .pointer (some ⟨r, 0, none⟩)], .agg x.cs.toArray] (exec_c9 rfl (by simp [p7o0, p7o1, p7o2, p7o3, p7o4, ev_ne, ev_eq, sz_put, put_none, evc, hsz, h3, h0, h4]) (by simp [p7o0, p7o1, p7o2, p7o3, p7o4, ev_ne, ev_eq, sz_put, put_none, evc, hsz, h3, h0, h4])) _ (hcall _ rfl) ?_
  rintro e w6 ⟨rfl, hR6, hB6, hC6⟩
  refine ⟨_, rfl, ⟨hB6, hC6⟩, fun hH => ?_⟩
  refine Wa.any_step (i := 6) (o := p7o6) (v := .bool false) rfl (by kernel_rfl) (by kernel_rfl) (exec_not (b := true) rfl (by simp [p7o0, p7o1, p7o2, p7o3, p7o4, p7o5, ev_ne, ev_eq, sz_put, put_none, evc, hsz, h3, h0, h4])) hH (fun hH => ?_)
  refine wpAnyH_done (by kernel_rfl) (npoQ ?_) _
  simp only [p7o0, p7o1, p7o2, p7o3, p7o4, p7o5, p7o6, put_none]
  exact h _ hR6
def a11o0 : Oper := { dst := some 72, op := Op.load 31 (Operand.tmp 8), type := 31, pos := "outright.go:182", after := #[], guard := none }
def a11o1 : Oper := { dst := some 73, op := Op.move (Operand.tmp 1), type := 22, pos := "outright.go:182", after := #[], guard := none }
def a11o2 : Oper := { dst := some 74, op := Op.move (Operand.tmp 10), type := 3, pos := "outright.go:182", after := #[], guard := none }
def a11o3 : Oper := { dst := some 75, op := Op.indexAddr 22 (Operand.tmp 73) (Operand.tmp 74), type := 0, pos := "outright.go:182", after := #[{ on := 1, ground := Ground.data }, { on := 2, ground := Ground.data }], guard := none }
def a11o4 : Oper := { dst := some 76, op := Op.load 37 (Operand.tmp 75), type := 37, pos := "outright.go:182", after := #[{ on := 3, ground := Ground.data }], guard := none }
def a11o5 : Oper := { dst := some 77, op := Op.call { callee := Callee.value (Operand.func 9), args := #[Operand.tmp 72, Operand.tmp 76], argTypes := #[31, 37] }, type := 4, pos := "outright.go:182", after := #[{ on := 0, ground := Ground.data }, { on := 4, ground := Ground.data }], guard := none }
def a11o6 : Oper := { dst := some 78, op := Op.unOp UnOp.not 4 (Operand.tmp 77), type := 4, pos := "outright.go:182", after := #[{ on := 5, ground := Ground.data }], guard := none }
def a11ops : Array Oper := #[a11o0, a11o1, a11o2, a11o3, a11o4, a11o5, a11o6]
set_option maxHeartbeats 4000000 in
theorem a11 (a : Act) (bW n r D off m c0 i : Nat) (x : St) (R : World → World → Prop) (wm : World) (Q : Exit → Act → World → Prop) (hsz : a.tmps.size = 99) (h8 : a.eval (.tmp 8) = .pointer (some ⟨bW, 0, none⟩)) (h1 : a.eval (.tmp 1) = .slice (some ⟨D, off, none⟩) m c0) (h10 : a.eval (.tmp 10) = .int .i64 (i : Nat)) (hc0 : Box wm bW 31 #[.pointer (some ⟨n, 0, none⟩), .pointer (some ⟨r, 0, none⟩)]) (hc1 : wm.rangeAt D (off + i * 7) x.cs) (him : i < m) (hcall : ∀ W, W = wm.drew → Calls Try.prog 9 #[.agg #[.pointer (some ⟨n, 0, none⟩), .pointer (some ⟨r, 0, none⟩)], .agg x.cs.toArray] W (fun e w' => e = .returned (.bool true) ∧ R W w' ∧ Box w' bW 31 #[.pointer (some ⟨n, 0, none⟩), .pointer (some ⟨r, 0, none⟩)] ∧ w'.rangeAt D (off + i * 7) x.cs))
    (h : ∀ wo, R wm.drew wo → Q .normal (((((((a.put (some 72) (.agg #[.pointer (some ⟨n, 0, none⟩), .pointer (some ⟨r, 0, none⟩)])).put (some 73) (.slice (some ⟨D, off, none⟩) m c0)).put (some 74) (.int .i64 (i : Nat))).put (some 75) (.pointer (some ⟨D, off + i * 7, none⟩))).put (some 76) (.agg x.cs.toArray)).put (some 77) (.bool true)).put (some 78) (.bool false)) wo) :
    Code.wp Try.prog (.region 11 a11ops true) Q a wm := by
  unfold a11ops
  refine flat_held (S := fun w' => Box w' bW 31 #[.pointer (some ⟨n, 0, none⟩), .pointer (some ⟨r, 0, none⟩)] ∧ w'.rangeAt D (off + i * 7) x.cs) rfl ⟨hc0, hc1⟩ (fun hH => ?_)
  refine Wa.aT (i := 0) (oi := a11o0) (v := .agg #[.pointer (some ⟨n, 0, none⟩), .pointer (some ⟨r, 0, none⟩)]) (fun _ hw => Wa.exec_load 31 _ rfl ⟨bW, 0, none⟩ (by assumption) _ (ld31 hw.1)) hH ?_ (hQ := npo)
  refine Wa.aT (i := 1) (oi := a11o1) (v := .slice (some ⟨D, off, none⟩) m c0) (fun _ hw => exec_mv rfl (by simp [a11o0, ev_ne, ev_eq, sz_put, put_none, evc, hsz, h8, h1, h10])) hH ?_ (hQ := npo)
  refine Wa.any_step (i := 2) (o := a11o2) (v := .int .i64 (i : Nat)) rfl (by kernel_rfl) (by kernel_rfl) (exec_mv rfl (by simp [a11o0, a11o1, ev_ne, ev_eq, sz_put, put_none, evc, hsz, h8, h1, h10])) hH (fun hH => ?_)
  refine Wa.any_step (i := 3) (o := a11o3) (v := .pointer (some ⟨D, off + i * 7, none⟩)) rfl (by kernel_rfl) (by kernel_rfl) (exec_ix22 (m := m) (c0 := c0) rfl (by simp [a11o0, a11o1, a11o2, ev_ne, ev_eq, sz_put, put_none, evc, hsz, h8, h1, h10]) (by simp [a11o0, a11o1, a11o2, ev_ne, ev_eq, sz_put, put_none, evc, hsz, h8, h1, h10]) him) hH (fun hH => ?_)
  refine Wa.any_step (i := 4) (o := a11o4) (v := .agg x.cs.toArray) rfl (by kernel_rfl) (by kernel_rfl) (Wa.exec_load 37 _ rfl ⟨D, off + i * 7, none⟩ (by simp [a11o0, a11o1, a11o2, a11o3, ev_ne, ev_eq, sz_put, put_none, evc, hsz, h8, h1, h10]) _ (ld37 hH.2)) hH (fun hH => ?_)
  refine Wa.any_call (i := 5) (o := a11o5) rfl (by kernel_rfl) (by kernel_rfl) 9 #[.agg #[.pointer (some ⟨n, 0, none⟩), .pointer (some ⟨r, 0, none⟩)], .agg x.cs.toArray] (exec_c9 rfl (by simp [a11o0, a11o1, a11o2, a11o3, a11o4, ev_ne, ev_eq, sz_put, put_none, evc, hsz, h8, h1, h10]) (by simp [a11o0, a11o1, a11o2, a11o3, a11o4, ev_ne, ev_eq, sz_put, put_none, evc, hsz, h8, h1, h10])) _ (hcall _ rfl) ?_
  rintro e w6 ⟨rfl, hR6, hB6, hC6⟩
  refine ⟨_, rfl, ⟨hB6, hC6⟩, fun hH => ?_⟩
  refine Wa.any_step (i := 6) (o := a11o6) (v := .bool false) rfl (by kernel_rfl) (by kernel_rfl) (exec_not (b := true) rfl (by simp [a11o0, a11o1, a11o2, a11o3, a11o4, a11o5, ev_ne, ev_eq, sz_put, put_none, evc, hsz, h8, h1, h10])) hH (fun hH => ?_)
  refine wpAnyH_done (by kernel_rfl) (npoQ ?_) _
  simp only [a11o0, a11o1, a11o2, a11o3, a11o4, a11o5, a11o6, put_none]
  exact h _ hR6
def a14o0 : Oper := { dst := some 81, op := Op.load 31 (Operand.tmp 7), type := 31, pos := "outright.go:188", after := #[], guard := none }
def a14o1 : Oper := { dst := some 82, op := Op.move (Operand.tmp 0), type := 22, pos := "outright.go:188", after := #[], guard := none }
def a14o2 : Oper := { dst := some 83, op := Op.move (Operand.tmp 9), type := 3, pos := "outright.go:188", after := #[], guard := none }
def a14o3 : Oper := { dst := some 84, op := Op.indexAddr 22 (Operand.tmp 82) (Operand.tmp 83), type := 0, pos := "outright.go:188", after := #[{ on := 1, ground := Ground.data }, { on := 2, ground := Ground.data }], guard := none }
def a14o4 : Oper := { dst := some 85, op := Op.load 37 (Operand.tmp 84), type := 37, pos := "outright.go:188", after := #[{ on := 3, ground := Ground.data }], guard := none }
def a14o5 : Oper := { dst := some 86, op := Op.call { callee := Callee.value (Operand.func 9), args := #[Operand.tmp 81, Operand.tmp 85], argTypes := #[31, 37] }, type := 4, pos := "outright.go:188", after := #[{ on := 0, ground := Ground.data }, { on := 4, ground := Ground.data }], guard := none }
def a14o6 : Oper := { dst := some 87, op := Op.unOp UnOp.not 4 (Operand.tmp 86), type := 4, pos := "outright.go:188", after := #[{ on := 5, ground := Ground.data }], guard := none }
def a14ops : Array Oper := #[a14o0, a14o1, a14o2, a14o3, a14o4, a14o5, a14o6]
set_option maxHeartbeats 4000000 in
theorem a14 (a : Act) (bW n r D off m c0 i : Nat) (x : St) (R : World → World → Prop) (wm : World) (Q : Exit → Act → World → Prop) (hsz : a.tmps.size = 99) (h7 : a.eval (.tmp 7) = .pointer (some ⟨bW, 0, none⟩)) (h0 : a.eval (.tmp 0) = .slice (some ⟨D, off, none⟩) m c0) (h9 : a.eval (.tmp 9) = .int .i64 (i : Nat)) (hc0 : Box wm bW 31 #[.pointer (some ⟨n, 0, none⟩), .pointer (some ⟨r, 0, none⟩)]) (hc1 : wm.rangeAt D (off + i * 7) x.cs) (him : i < m) (hcall : ∀ W, W = wm.drew → Calls Try.prog 9 #[.agg #[.pointer (some ⟨n, 0, none⟩), .pointer (some ⟨r, 0, none⟩)], .agg x.cs.toArray] W (fun e w' => e = .returned (.bool true) ∧ R W w' ∧ Box w' bW 31 #[.pointer (some ⟨n, 0, none⟩), .pointer (some ⟨r, 0, none⟩)] ∧ w'.rangeAt D (off + i * 7) x.cs))
    (h : ∀ wo, R wm.drew wo → Q .normal (((((((a.put (some 81) (.agg #[.pointer (some ⟨n, 0, none⟩), .pointer (some ⟨r, 0, none⟩)])).put (some 82) (.slice (some ⟨D, off, none⟩) m c0)).put (some 83) (.int .i64 (i : Nat))).put (some 84) (.pointer (some ⟨D, off + i * 7, none⟩))).put (some 85) (.agg x.cs.toArray)).put (some 86) (.bool true)).put (some 87) (.bool false)) wo) :
    Code.wp Try.prog (.region 14 a14ops true) Q a wm := by
  unfold a14ops
  refine flat_held (S := fun w' => Box w' bW 31 #[.pointer (some ⟨n, 0, none⟩), .pointer (some ⟨r, 0, none⟩)] ∧ w'.rangeAt D (off + i * 7) x.cs) rfl ⟨hc0, hc1⟩ (fun hH => ?_)
  refine Wa.aT (i := 0) (oi := a14o0) (v := .agg #[.pointer (some ⟨n, 0, none⟩), .pointer (some ⟨r, 0, none⟩)]) (fun _ hw => Wa.exec_load 31 _ rfl ⟨bW, 0, none⟩ (by assumption) _ (ld31 hw.1)) hH ?_ (hQ := npo)
  refine Wa.aT (i := 1) (oi := a14o1) (v := .slice (some ⟨D, off, none⟩) m c0) (fun _ hw => exec_mv rfl (by simp [a14o0, ev_ne, ev_eq, sz_put, put_none, evc, hsz, h7, h0, h9])) hH ?_ (hQ := npo)
  refine Wa.any_step (i := 2) (o := a14o2) (v := .int .i64 (i : Nat)) rfl (by kernel_rfl) (by kernel_rfl) (exec_mv rfl (by simp [a14o0, a14o1, ev_ne, ev_eq, sz_put, put_none, evc, hsz, h7, h0, h9])) hH (fun hH => ?_)
  refine Wa.any_step (i := 3) (o := a14o3) (v := .pointer (some ⟨D, off + i * 7, none⟩)) rfl (by kernel_rfl) (by kernel_rfl) (exec_ix22 (m := m) (c0 := c0) rfl (by simp [a14o0, a14o1, a14o2, ev_ne, ev_eq, sz_put, put_none, evc, hsz, h7, h0, h9]) (by simp [a14o0, a14o1, a14o2, ev_ne, ev_eq, sz_put, put_none, evc, hsz, h7, h0, h9]) him) hH (fun hH => ?_)
  refine Wa.any_step (i := 4) (o := a14o4) (v := .agg x.cs.toArray) rfl (by kernel_rfl) (by kernel_rfl) (Wa.exec_load 37 _ rfl ⟨D, off + i * 7, none⟩ (by simp [a14o0, a14o1, a14o2, a14o3, ev_ne, ev_eq, sz_put, put_none, evc, hsz, h7, h0, h9]) _ (ld37 hH.2)) hH (fun hH => ?_)
  refine Wa.any_call (i := 5) (o := a14o5) rfl (by kernel_rfl) (by kernel_rfl) 9 #[.agg #[.pointer (some ⟨n, 0, none⟩), .pointer (some ⟨r, 0, none⟩)], .agg x.cs.toArray] (exec_c9 rfl (by simp [a14o0, a14o1, a14o2, a14o3, a14o4, ev_ne, ev_eq, sz_put, put_none, evc, hsz, h7, h0, h9]) (by simp [a14o0, a14o1, a14o2, a14o3, a14o4, ev_ne, ev_eq, sz_put, put_none, evc, hsz, h7, h0, h9])) _ (hcall _ rfl) ?_
  rintro e w6 ⟨rfl, hR6, hB6, hC6⟩
  refine ⟨_, rfl, ⟨hB6, hC6⟩, fun hH => ?_⟩
  refine Wa.any_step (i := 6) (o := a14o6) (v := .bool false) rfl (by kernel_rfl) (by kernel_rfl) (exec_not (b := true) rfl (by simp [a14o0, a14o1, a14o2, a14o3, a14o4, a14o5, ev_ne, ev_eq, sz_put, put_none, evc, hsz, h7, h0, h9])) hH (fun hH => ?_)
  refine wpAnyH_done (by kernel_rfl) (npoQ ?_) _
  simp only [a14o0, a14o1, a14o2, a14o3, a14o4, a14o5, a14o6, put_none]
  exact h _ hR6
end Go.Proofs.Ytphiokehcgbldaa
