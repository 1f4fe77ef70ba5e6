import Derived.Test.YtphiokehcgbldaaPa
namespace Go.Proofs.Ytphiokehcgbldaa
open Go.RowKit
set_option linter.unusedVariables false
set_option linter.unusedSimpArgs false

/-- append(s, x...), s one's own, x not empty. -/
theorem run_app {w : World} {ty T E : TypeId} {c by' : Nat} {z : Value} (ht : Try.prog.underlying T = some (.slice E))
    (hinf : (Try.prog.info? E).map (fun i => (i.zero, i.size, i.bytes)) = some (some z, c, by')) (hzc : z.cells.size = c) (hc0 : 0 < c)
    {base n cap : Nat} {sa : Option Addr} {vs : List Value} (hown : Own E c w base sa cap n vs) {ad : Addr} {m cc : Nat} {news : List Value} (hl : news.length = m * c) (hnews : ∀ j u, news[j]? = some u → w.cell? (ad.add j) = some u) (h1 : ∀ u ∈ news, u.oneCell' = true) (hbd : (n + m) * by' ≤ 140737488355328) (hb63 : n + m ≤ 9223372036854775807) (hm : 0 < m) (hbase : base ≤ w.heap.size) :
    ∃ g' cap' w', (Builtin.append_ #[T, T] ty #[.slice sa n cap, .slice (some ad) m cc]).run Try.prog w = .ok (.slice (some ⟨g', 0, none⟩) (n + m) cap') w' ∧ Own E c w' base (some ⟨g', 0, none⟩) cap' (n + m) (vs ++ news) ∧ Kept (At sa) w w' ∧ (At sa g' ∨ g' = w.heap.size) := by
  obtain ⟨i0, hi, hz0, hz1, hz2⟩ := info_parts hinf
  obtain ⟨v', w', hrun, r1, r2, _, r4⟩ := run_append_own_at (P := Try.prog) (w := w) base T ty E i0 z c by' ht hi hz0 hz1 hz2 hzc hc0 (.slice sa n cap) n vs hown ad m cc news hl hnews h1 (by unfold maxLen; omega) hbd hbase
  have hk : Kept (At sa) w w' := (Kept.refl (At sa) w).grown r2 (fun k e hk => by
    cases sa with
    | none => cases e
    | some ad' => simp only [Value.ownBlock, Option.some.injEq] at e; exact ⟨ad', rfl, e⟩)
  rcases r1.2 with ⟨e, h0⟩ | ⟨g, cap', cur, e, _⟩
  · omega
  · subst e
    refine ⟨g, cap', w', hrun, r1, hk, ?_⟩
    rcases r4 with e | e
    · left
      cases sa with
      | none => simp [Value.ownBlock] at e
      | some ad' => simp only [Value.ownBlock, Option.some.injEq] at e; exact ⟨ad', rfl, e.symm⟩
    · right; simpa [Value.ownBlock] using e
theorem und59 : Try.prog.underlying 59 = some (.slice 35) := by kernel_rfl
theorem info35 : (Try.prog.info? 35).map (fun i => (i.zero, i.size, i.bytes)) = some (some (.slice none 0 0), 1, 24) := by kernel_rfl
set_option maxRecDepth 100000
section
variable {o : Oper} {a : Act} {w w' : World} {x y z : Operand} {v : Value}
theorem exec_app59 {u1 u2 : Value} (ho : o.op = .call { callee := .builtin .append, args := #[x, y], argTypes := #[59, 59] }) (hx : a.eval x = u1) (hy : a.eval y = u2) (hrun : (Builtin.append_ #[59, 59] o.type #[u1, u2]).run Try.prog w = .ok v w') : (execOp a.eval o).run Try.prog w = .ok (.value v) w' := by
  subst hx hy
  simp [execOp, ho, resolve, invoke, builtin, hrun, Result.andThen]
theorem exec_bs59 {d1 d2 : Option Addr} {l1 l2 c1 c2 : Nat} (ho : o.op = .buildSlice 59 2 #[(0, x), (1, y)]) (hx : a.eval x = .slice d1 l1 c1) (hy : a.eval y = .slice d2 l2 c2) : (execOp a.eval o).run Try.prog w = .ok (.value (.slice (some ⟨w.heap.size, 0, none⟩) 2 2)) (w.alloc (.cells #[.slice d1 l1 c1, .slice d2 l2 c2] 35)) := by
  simp only [execOp, ho, List.map_toArray, List.map_cons, List.map_nil, hx, hy]
  kernel_rfl
end

theorem exec_ix59 {o : Oper} {a : Act} {w : World} {x y : Operand} {D off m c0 i : Nat} (ho : o.op = .indexAddr 59 x y) (hx : a.eval x = .slice (some ⟨D, off, none⟩) m c0) (hy : a.eval y = .int .i64 (i : Nat)) (hi : i < m) : (execOp a.eval o).run Try.prog w = .ok (.value (.pointer (some ⟨D, off + i, none⟩))) w := by
  have h := Wa.exec_ixA (o := o) (a := a) (w := w) 59 1 (by kernel_rfl) (by kernel_rfl) x y ho D off m c0 i hx hy hi
  simpa using h

def b19o0 : Oper := { dst := some 107, op := Op.move (Operand.tmp 7), type := 59, pos := "outright.go:217", after := #[], guard := none }
def b19o1 : Oper := { dst := some 108, op := Op.move (Operand.tmp 0), type := 59, pos := "outright.go:217", after := #[], guard := none }
def b19o2 : Oper := { dst := some 109, op := Op.move (Operand.tmp 8), type := 3, pos := "outright.go:217", after := #[], guard := none }
def b19o3 : Oper := { dst := some 110, op := Op.indexAddr 59 (Operand.tmp 108) (Operand.tmp 109), type := 0, pos := "outright.go:217", after := #[{ on := 1, ground := Ground.data }, { on := 2, ground := Ground.data }], guard := none }
def b19o4 : Oper := { dst := some 111, op := Op.load 35 (Operand.tmp 110), type := 35, pos := "outright.go:217", after := #[{ on := 3, ground := Ground.data }], guard := none }
def b19o5 : Oper := { dst := some 112, op := Op.move (Operand.tmp 0), type := 59, pos := "outright.go:217", after := #[], guard := none }
def b19o6 : Oper := { dst := some 113, op := Op.move (Operand.tmp 8), type := 3, pos := "outright.go:217", after := #[], guard := none }
def b19o7 : Oper := { dst := some 114, op := Op.indexAddr 59 (Operand.tmp 112) (Operand.tmp 113), type := 0, pos := "outright.go:217", after := #[{ on := 5, ground := Ground.data }, { on := 6, ground := Ground.data }], guard := none }
def b19o8 : Oper := { dst := some 115, op := Op.load 35 (Operand.tmp 114), type := 35, pos := "outright.go:217", after := #[{ on := 7, ground := Ground.data }], guard := none }
def b19o9 : Oper := { dst := some 116, op := Op.buildSlice 59 2 #[(0, Operand.tmp 111), (1, Operand.tmp 115)], type := 59, pos := "outright.go:217", after := #[{ on := 4, ground := Ground.data }, { on := 8, ground := Ground.data }], guard := none }
def b19o10 : Oper := { dst := some 117, op := Op.call { callee := Callee.builtin Builtin.append, args := #[Operand.tmp 107, Operand.tmp 116], argTypes := #[59, 59] }, type := 59, pos := "outright.go:217", after := #[{ on := 0, ground := Ground.data }, { on := 9, ground := Ground.data }], guard := none }
def b19o11 : Oper := { dst := some 7, op := Op.assign (Operand.tmp 117), type := 59, pos := "outright.go:217", after := #[{ on := 10, ground := Ground.data }, { on := 10, ground := Ground.chain }, { on := 0, ground := Ground.phase }, { on := 1, ground := Ground.phase }, { on := 2, ground := Ground.phase }, { on := 3, ground := Ground.phase }, { on := 4, ground := Ground.phase }, { on := 5, ground := Ground.phase }, { on := 6, ground := Ground.phase }, { on := 7, ground := Ground.phase }, { on := 8, ground := Ground.phase }, { on := 9, ground := Ground.phase }, { on := 10, ground := Ground.phase }], guard := none }
def b19ops : Array Oper := #[b19o0, b19o1, b19o2, b19o3, b19o4, b19o5, b19o6, b19o7, b19o8, b19o9, b19o10, b19o11]
set_option maxRecDepth 100000 in
set_option maxHeartbeats 4000000 in
theorem b19 (a : Act) (D off m i : Nat) (xa : Option Addr) (xl xc wl wc c0 base : Nat) (wa : Option Addr) (vs : List Value) (wm : World) (Q : Exit → Act → World → Prop) (hsz : a.tmps.size = 204) (h0 : a.eval (.tmp 0) = .slice (some ⟨D, off, none⟩) m c0) (h7 : a.eval (.tmp 7) = .slice wa wl wc) (h8 : a.eval (.tmp 8) = .int .i64 (i : Nat)) (hc0 : wm.cell? ⟨D, off + i, none⟩ = some (.slice xa xl xc)) (him : i < m) (hown : Own 35 1 wm base wa wc wl vs) (hwl : wl ≤ 1000) (hbase : base ≤ wm.heap.size) (hD : ¬ At wa D) (hQ : ∀ c (a : Act) t v w, Q (.panic c) (a.put t v) w → Q (.panic c) a w)
    (h : ∀ g' cap' wo b0, Own 35 1 wo base (some ⟨g', 0, none⟩) cap' (wl + 2) (vs ++ [.slice xa xl xc, .slice xa xl xc]) → Kept (At wa) wm wo → (At wa g' ∨ wm.heap.size ≤ g') → Q .normal ((((((((((((a.put (some 107) (.slice wa wl wc)).put (some 108) (.slice (some ⟨D, off, none⟩) m c0)).put (some 109) (.int .i64 (i : Nat))).put (some 110) (.pointer (some ⟨D, off + i, none⟩))).put (some 111) (.slice xa xl xc)).put (some 112) (.slice (some ⟨D, off, none⟩) m c0)).put (some 113) (.int .i64 (i : Nat))).put (some 114) (.pointer (some ⟨D, off + i, none⟩))).put (some 115) (.slice xa xl xc)).put (some 116) (.slice (some ⟨b0, 0, none⟩) 2 2)).put (some 117) (.slice (some ⟨g', 0, none⟩) (wl + 2) cap')).put (some 7) (.slice (some ⟨g', 0, none⟩) (wl + 2) cap')) wo) :
    Code.wp Try.prog (.region 19 b19ops true) Q a wm := by
  unfold b19ops
  refine wp_region_held_drew (S := fun w' => w'.cell? ⟨D, off + i, none⟩ = some (.slice xa xl xc)) rfl hc0 (fun hH => ?_)
  have HO : Own 35 1 wm.drew base wa wc wl vs := hown.no (Kept.refl No wm).drew
  have HK : Kept No wm wm.drew := (Kept.refl No wm).drew
  have HB : base ≤ wm.drew.heap.size := Nat.le_trans hbase HK.size
  generalize wm.drew = wq0 at HK HO HB hH ⊢
  refine Wa.aT (i := 0) (oi := b19o0) (v := .slice wa wl wc) (fun _ hw => exec_mv rfl (by assumption)) hH ?_ (hQ := fun _ _ _ h => hQ _ _ _ _ _ h)
  refine Wa.aT (i := 1) (oi := b19o1) (v := .slice (some ⟨D, off, none⟩) m c0) (fun _ hw => exec_mv rfl (by simp [b19o0, ev_ne, ev_eq, sz_put, put_none, evc, hsz, h0, h7, h8])) hH ?_ (hQ := fun _ _ _ h => hQ _ _ _ _ _ h)
  refine Wa.aT (i := 2) (oi := b19o2) (v := .int .i64 (i : Nat)) (fun _ hw => exec_mv rfl (by simp [b19o0, b19o1, ev_ne, ev_eq, sz_put, put_none, evc, hsz, h0, h7, h8])) hH ?_ (hQ := fun _ _ _ h => hQ _ _ _ _ _ h)
  refine Wa.aT (i := 3) (oi := b19o3) (v := .pointer (some ⟨D, off + i, none⟩)) (fun _ hw => exec_ix59 (m := m) (c0 := c0) rfl (by simp [b19o0, b19o1, b19o2, ev_ne, ev_eq, sz_put, put_none, evc, hsz, h0, h7, h8]) (by simp [b19o0, b19o1, b19o2, ev_ne, ev_eq, sz_put, put_none, evc, hsz, h0, h7, h8]) him) hH ?_ (hQ := fun _ _ _ h => hQ _ _ _ _ _ h)
  refine Wa.aT (i := 4) (oi := b19o4) (v := .slice xa xl xc) (fun _ hw => Wa.exec_load 35 _ rfl ⟨D, off + i, none⟩ (by simp [b19o0, b19o1, b19o2, b19o3, ev_ne, ev_eq, sz_put, put_none, evc, hsz, h0, h7, h8]) _ (Wa.load_one hw Try.underlying35 rfl)) hH ?_ (hQ := fun _ _ _ h => hQ _ _ _ _ _ h)
  refine Wa.aT (i := 5) (oi := b19o5) (v := .slice (some ⟨D, off, none⟩) m c0) (fun _ hw => exec_mv rfl (by simp [b19o0, b19o1, b19o2, b19o3, b19o4, ev_ne, ev_eq, sz_put, put_none, evc, hsz, h0, h7, h8])) hH ?_ (hQ := fun _ _ _ h => hQ _ _ _ _ _ h)
  refine Wa.any_step (i := 6) (o := b19o6) (v := .int .i64 (i : Nat)) rfl (by kernel_rfl) (by kernel_rfl) (exec_mv rfl (by simp [b19o0, b19o1, b19o2, b19o3, b19o4, b19o5, ev_ne, ev_eq, sz_put, put_none, evc, hsz, h0, h7, h8])) hH (fun hH => ?_)
  refine Wa.any_step (i := 7) (o := b19o7) (v := .pointer (some ⟨D, off + i, none⟩)) rfl (by kernel_rfl) (by kernel_rfl) (exec_ix59 (m := m) (c0 := c0) rfl (by simp [b19o0, b19o1, b19o2, b19o3, b19o4, b19o5, b19o6, ev_ne, ev_eq, sz_put, put_none, evc, hsz, h0, h7, h8]) (by simp [b19o0, b19o1, b19o2, b19o3, b19o4, b19o5, b19o6, ev_ne, ev_eq, sz_put, put_none, evc, hsz, h0, h7, h8]) him) hH (fun hH => ?_)
  refine Wa.any_step (i := 8) (o := b19o8) (v := .slice xa xl xc) rfl (by kernel_rfl) (by kernel_rfl) (Wa.exec_load 35 _ rfl ⟨D, off + i, none⟩ (by simp [b19o0, b19o1, b19o2, b19o3, b19o4, b19o5, b19o6, b19o7, ev_ne, ev_eq, sz_put, put_none, evc, hsz, h0, h7, h8]) _ (Wa.load_one hH Try.underlying35 rfl)) hH (fun hH => ?_)
  have hHc : Hid (wq0.cell? ⟨D, off + i, none⟩ = some (.slice xa xl xc)) := hH
  have hHa : (wq0.alloc (.cells #[.slice xa xl xc, .slice xa xl xc] 35)).cell? ⟨D, off + i, none⟩ = some (.slice xa xl xc) := ((Kept.refl No wq0).alloc _).cell hH (fun e => e)
  refine Wa.any_step (i := 9) (o := b19o9) rfl (by kernel_rfl) (by kernel_rfl) (exec_bs59 rfl (by simp [b19o0, b19o1, b19o2, b19o3, b19o4, b19o5, b19o6, b19o7, b19o8, ev_ne, ev_eq, sz_put, put_none, evc, hsz, h0, h7, h8]) (by simp [b19o0, b19o1, b19o2, b19o3, b19o4, b19o5, b19o6, b19o7, b19o8, ev_ne, ev_eq, sz_put, put_none, evc, hsz, h0, h7, h8])) hHa (fun hH => ?_)
  obtain ⟨g', cap', w2, hr2, hO2, hk2, hg2⟩ := run_app (ty := b19o10.type) (cc := 2) und59 info35 rfl (by omega) (HO.no ((Kept.refl No wq0).alloc (.cells #[.slice xa xl xc, .slice xa xl xc] 35))) (ad := ⟨wq0.heap.size, 0, none⟩) (m := 2) (news := [.slice xa xl xc, .slice xa xl xc]) rfl (cell_newC _ _ _) (by simp [Value.oneCell']) (by omega) (by omega) (by omega) (by simp; omega)
  have hk02 : Kept (At wa) wq0 w2 := (((Kept.refl No wq0).alloc _).of_no).then hk2
  have hHb : w2.cell? ⟨D, off + i, none⟩ = some (.slice xa xl xc) := hk02.cell hHc.out (fun e => hD e)
  refine Wa.any_step (i := 10) (o := b19o10) (v := .slice (some ⟨g', 0, none⟩) (wl + 2) cap') rfl (by kernel_rfl) (by kernel_rfl) (exec_app59 rfl (by simp [b19o0, b19o1, b19o2, b19o3, b19o4, b19o5, b19o6, b19o7, b19o8, b19o9, ev_ne, ev_eq, sz_put, put_none, evc, hsz, h0, h7, h8]) (by simp [b19o0, b19o1, b19o2, b19o3, b19o4, b19o5, b19o6, b19o7, b19o8, b19o9, ev_ne, ev_eq, sz_put, put_none, evc, hsz, h0, h7, h8]) hr2) hHb (fun hH => ?_)
  refine Wa.any_step (i := 11) (o := b19o11) (v := .slice (some ⟨g', 0, none⟩) (wl + 2) cap') rfl (by kernel_rfl) (by kernel_rfl) (exec_as rfl (by simp [b19o0, b19o1, b19o2, b19o3, b19o4, b19o5, b19o6, b19o7, b19o8, b19o9, b19o10, ev_ne, ev_eq, sz_put, put_none, evc, hsz, h0, h7, h8])) hH (fun hH => ?_)
  refine wpAnyH_done (by kernel_rfl) ?_ _
  simp only [b19o0, b19o1, b19o2, b19o3, b19o4, b19o5, b19o6, b19o7, b19o8, b19o9, b19o10, b19o11, put_none]
  exact h g' cap' w2 _ hO2 (HK.of_no.then hk02) (hg2.imp id (fun e => by rw [e]; have := HK.size; simp; omega))
end Go.Proofs.Ytphiokehcgbldaa
