import Derived.Test.YtgiokkcdgoloaabJc
namespace Go.Proofs.Ytgiokkcdgoloaab
open Go.RowKit
set_option linter.unusedVariables false
set_option linter.unusedSimpArgs false

def r14o0 : Oper := { dst := some 37, op := Op.move (Operand.tmp 8), type := 3, pos := "told.go:53", after := #[], guard := none }
def r14o1 : Oper := { dst := some 38, op := Op.load 29 (Operand.tmp 9), type := 29, pos := "told.go:53", after := #[], guard := none }
def r14o2 : Oper := { dst := some 39, op := Op.buildSlice 22 0 #[], type := 22, pos := "told.go:53", after := #[], guard := none }
def r14o3 : Oper := { dst := some 40, op := Op.move (Operand.tmp 1), type := 22, pos := "told.go:53", after := #[], guard := none }
def r14o4 : Oper := { dst := some 41, op := Op.call { callee := Callee.builtin Builtin.append, args := #[Operand.tmp 39, Operand.tmp 40], argTypes := #[22, 22] }, type := 22, pos := "told.go:53", after := #[{ on := 2, ground := Ground.data }, { on := 3, ground := Ground.data }], guard := none }
def r14o5 : Oper := { dst := some 42, op := Op.call { callee := Callee.value (Operand.func 19), args := #[Operand.tmp 37, Operand.const (Value.int IntKind.i64 7), Operand.tmp 38, Operand.tmp 41], argTypes := #[3, 3, 29, 22] }, type := 73, pos := "told.go:53", after := #[{ on := 0, ground := Ground.data }, { on := 1, ground := Ground.data }, { on := 4, ground := Ground.data }, { on := 4, ground := Ground.chain }], guard := none }
def r14o6 : Oper := { dst := some 10, op := Op.alloc 73, type := 0, pos := "told.go:53", after := #[], guard := none }
def r14o7 : Oper := { dst := none, op := Op.store 73 (Operand.tmp 10) (Operand.tmp 42), type := 0, pos := "told.go:53", after := #[{ on := 6, ground := Ground.data }, { on := 5, ground := Ground.data }, { on := 5, ground := Ground.chain }, { on := 0, ground := Ground.phase }, { on := 1, ground := Ground.phase }, { on := 2, ground := Ground.phase }, { on := 3, ground := Ground.phase }, { on := 4, ground := Ground.phase }, { on := 5, ground := Ground.phase }, { on := 6, ground := Ground.phase }], guard := none }
theorem ev_ne {a : Act} {s t : Tmp} {v : Value} (h : t ≠ s) : (a.put (some s) v).eval (.tmp t) = a.eval (.tmp t) := by
  simp [Act.put, Act.eval, Array.getD_eq_getD_getElem?, Array.getElem?_setIfInBounds_ne (Ne.symm h)]
theorem ev_eq {a : Act} {s : Tmp} {v : Value} (h : s < a.tmps.size) : (a.put (some s) v).eval (.tmp s) = v := by
  simp [Act.put, Act.eval, Array.getD_eq_getD_getElem?, h]
theorem sz_put {a : Act} {s : Tmp} {v : Value} : (a.put (some s) v).tmps.size = a.tmps.size := by simp [Act.put]
theorem put_none {a : Act} {v : Value} : a.put none v = a := rfl
theorem put_comm {a : Act} (s t : Tmp) {v u : Value} (h : s ≠ t) : (a.put (some s) v).put (some t) u = (a.put (some t) u).put (some s) v := by
  simp [Act.put, Array.setIfInBounds_comm _ _ h]
theorem exec_mv {o : Oper} {a : Act} {w : World} {x : Operand} {v : Value} (ho : o.op = .move x) (hx : a.eval x = v) : (execOp a.eval o).run Try.prog w = .ok (.value v) w := by
  simp [execOp, ho, hx]
theorem call25 {a : Act} {w : World} (v1 v2 v3 : Value) (h1 : a.eval (.tmp 37) = v1) (h2 : a.eval (.tmp 38) = v2) (h3 : a.eval (.tmp 41) = v3) : (execOp a.eval r14o5).run Try.prog w = .ok (.enter 19 #[v1, .int .i64 7, v2, v3]) w := by
  subst h1 h2 h3
  kernel_rfl
def r14ops : Array Oper := #[r14o0, r14o1, r14o2, r14o3, r14o4, r14o5, r14o6, r14o7]
set_option maxRecDepth 100000 in
set_option maxHeartbeats 4000000 in
theorem r14 (a : Act) (G n1 c1 : Nat) (k n c : Int) (oa : Option Addr) (bz : List Int) (wr w : World) (Q : Exit → Act → World → Prop) (hsz : a.tmps.size = 83) (h1 : a.eval (.tmp 1) = .slice oa n1 c1) (h14 : a.eval (.tmp 8) = .int .i64 k) (h15 : a.eval (.tmp 9) = .pointer (some ⟨G, 0, none⟩)) (hy : bz.length = n1) (hn : n1 ≤ 140737488355328) (hb1 : Bytes wr oa bz) (hnil : oa = none → c1 = 0)
    (hB : Box w G 29 #[.int .i64 n, .int .i64 c]) (hK : Kept No wr w) (hQ : ∀ c (a : Act) t v w, Q (.panic c) (a.put t v) w → Q (.panic c) a w)
    (h : ∀ (eb g6 : Nat) (xa : Option Addr) (xc : Nat) (wd : World), Box wd g6 73 (valD k 7 n c xa n1 xc).cells ∧ OwnB wd wr.heap.size xa xc bz ∧ wr.heap.size ≤ g6 ∧ Kept No wr wd → Q .normal (((((((a.put (some 37) (.int .i64 k)).put (some 38) (.agg #[.int .i64 n, .int .i64 c])).put (some 40) (.slice oa n1 c1)).put (some 39) (.slice (some ⟨eb, 0, none⟩) 0 0)).put (some 41) (.slice xa n1 xc)).put (some 42) (.agg (valD k 7 n c xa n1 xc).cells)).put (some 10) (.pointer (some ⟨g6, 0, none⟩))) wd) :
    Code.wp Try.prog (.region 14 r14ops true) Q a w := by
  unfold r14ops
  refine wp_region_held_drew (S := fun w' => Box w' G 29 #[.int .i64 n, .int .i64 c]) rfl hB (fun hH => ?_)
  have HKq : Kept No wr w.drew := hK.drew
  clear hB hK
  generalize w.drew = wq0 at HKq hH ⊢
  refine Wa.aT (i := 0) (oi := r14o0) (v := .int .i64 k) (fun _ _ => exec_mv rfl h14) hH ?_ (hQ := fun _ _ _ h => hQ _ _ _ _ _ h)
  refine Wa.aT (i := 1) (oi := r14o1) (v := .agg #[.int .i64 n, .int .i64 c]) (fun w' hw => Wa.exec_load 29 _ rfl ⟨G, 0, none⟩ (by simp [r14o0, ev_ne, ev_eq, sz_put, hsz, h1, h14, h15]) _ (Wa.load41 hw)) hH ?_ (hQ := fun _ _ _ h => hQ _ _ _ _ _ h)
  refine Wa.aT (i := 3) (oi := r14o3) (v := .slice oa n1 c1) (fun _ _ => exec_mv rfl (by simp [r14o0, r14o1, ev_ne, ev_eq, sz_put, hsz, h1, h14, h15])) hH ?_ (hQ := fun _ _ _ h => hQ _ _ _ _ _ h)
  refine Wa.any_pick (rs := [2, 6]) (by kernel_rfl) (by simp) ?_
  intro ix hix
  rcases Wa.pick2 hix with rfl | rfl
  ·skip
   clear hix
   have hGl : G < wq0.heap.size := hH.lt
   refine Wa.step_run (i := 2) (o := r14o2) rfl (by kernel_rfl) (Wa.exec_slice0 rfl) (hH.alloc _) (fun hH => ?_)
   have HE : Own 5 1 (wq0.alloc (.cells #[] 5)) wq0.heap.size (some ⟨wq0.heap.size, 0, none⟩) 0 0 [] ∧ wr.heap.size ≤ wq0.heap.size ∧ wq0.heap.size ≤ (wq0.alloc (.cells #[] 5)).heap.size ∧ G < wq0.heap.size := ⟨Wa.own0 _, HKq.size, by simp, hGl⟩
   clear hGl
   have HKq : Kept No wr (wq0.alloc (.cells #[] 5)) := HKq.alloc _
   generalize wq0.alloc (.cells #[] 5) = wq1 at HE HKq hH ⊢
   generalize wq0.heap.size = eb at HE ⊢
   refine Wa.any_pick (rs := [4, 6]) (by kernel_rfl) (by simp) ?_
   intro ix hix
   rcases Wa.pick2 hix with rfl | rfl
   ·skip
    clear hix
    refine Wa.step_appB (i := 4) (o := r14o4) rfl (by kernel_rfl) (.tmp 39) (.tmp 40) rfl eb (by simp [r14o0, r14o1, r14o2, r14o3, r14o6, ev_ne, ev_eq, sz_put, hsz, h1, h14, h15]) HE.1 oa n1 c1 bz (by simp [r14o0, r14o1, r14o2, r14o3, r14o6, ev_ne, ev_eq, sz_put, hsz, h1, h14, h15]) hy (hb1.no HKq) hnil hn HE.2.2.1 ?_
    intro xa xc wq2 hO hk
    have hH2 : Box wq2 G 29 #[.int .i64 n, .int .i64 c] := hH.kept hk (fun e => by have e : G = eb := e; have := HE.2.2.2; omega)
    have HO : OwnB wq2 wr.heap.size xa xc bz := Own.lower hO HE.2.1
    have HKq : Kept No wr wq2 := HKq.trans hk (fun _ e => e) (fun j l e => by have e : j = eb := e; have := HE.2.1; omega)
    clear hO hk HE
    refine ⟨hH2, fun hH => ?_⟩
    clear hH2
    refine Wa.any_pick (rs := [5, 6]) (by kernel_rfl) (by simp) ?_
    intro ix hix
    rcases Wa.pick2 hix with rfl | rfl
    ·skip
     clear hix
     refine Wa.step_call (i := 5) (o := r14o5) rfl (by kernel_rfl) 19 #[.int .i64 k, .int .i64 7, .agg #[.int .i64 n, .int .i64 c], .slice xa n1 xc] (call25 _ _ _ (by simp [r14o0, r14o1, r14o2, r14o3, r14o4, r14o6, ev_ne, ev_eq, sz_put, hsz, h1, h14, h15]) (by simp [r14o0, r14o1, r14o2, r14o3, r14o4, r14o6, ev_ne, ev_eq, sz_put, hsz, h1, h14, h15]) (by simp [r14o0, r14o1, r14o2, r14o3, r14o4, r14o6, ev_ne, ev_eq, sz_put, hsz, h1, h14, h15])) _ (value_any k 7 n c xa n1 xc _) ?_
     rintro e wq3 ⟨rfl, hk⟩
     have hH2 : Box wq3 G 29 #[.int .i64 n, .int .i64 c] := hH.kept hk (fun e => e)
     have HO : OwnB wq3 wr.heap.size xa xc bz := HO.no hk
     have HKq : Kept No wr wq3 := HKq.then hk
     clear hk
     refine ⟨_, rfl, hH2, fun hH => ?_⟩
     clear hH2
     refine Wa.any_pick (rs := [6]) (by kernel_rfl) (by simp) ?_
     intro ix hix
     obtain rfl := Wa.pick1 hix
     clear hix
     have hGl : G < wq3.heap.size := hH.lt
     refine Wa.step_run (i := 6) (o := r14o6) rfl (by kernel_rfl) (Wa.exec_alloc 73 rfl md0.cells md0_zero) (hH.alloc _) (fun hH => ?_)
     have HB6 : Box (wq3.alloc (.cells md0.cells 73)) wq3.heap.size 73 md0.cells ∧ wr.heap.size ≤ wq3.heap.size ∧ G < wq3.heap.size := ⟨Box.new _ _ _, HKq.size, hGl⟩
     clear hGl
     have HKq : Kept No wr (wq3.alloc (.cells md0.cells 73)) := HKq.alloc _
     have HO : OwnB (wq3.alloc (.cells md0.cells 73)) wr.heap.size xa xc bz := HO.no ((Kept.refl No _).alloc _)
     generalize wq3.alloc (.cells md0.cells 73) = wq4 at HB6 HKq hH HO ⊢
     generalize wq3.heap.size = g6 at HB6 ⊢
     refine Wa.any_store (i := 7) (o := r14o7) (w' := wq4.setRow g6 (valD k 7 n c xa n1 xc).cells) rfl (by kernel_rfl) (by kernel_rfl) 73 _ _ rfl ⟨g6, 0, none⟩ (.agg (valD k 7 n c xa n1 xc).cells) (by simp [r14o0, r14o1, r14o2, r14o3, r14o4, r14o5, r14o6, ev_ne, ev_eq, sz_put, hsz, h1, h14, h15]) (by simp [r14o0, r14o1, r14o2, r14o3, r14o4, r14o5, r14o6, ev_ne, ev_eq, sz_put, hsz, h1, h14, h15]) (Wa.run_store52 HB6.1 md0_ok (valD_ok _ _ _ _ _ _ _)) (hH.kept (Kept.setRow _ _ _) (fun e => by have e : G = g6 := e; have := HB6.2.2; omega)) (fun hH => ?_)
     refine wpAnyH_done (by kernel_rfl) ?_ _
     simp only [r14o0, r14o1, r14o2, r14o3, r14o4, r14o5, r14o6, r14o7, put_none]
     exact h _ g6 xa xc _ ⟨Box.setRow HB6.1 _, Own.kept HO (Kept.setRow _ _ _) (fun j e f => (Own.notBox HO HB6.1 (by decide)) ((show j = g6 from f) ▸ e)), HB6.2.1, HKq.trans (Kept.setRow _ _ _) (fun _ e => e) (fun j l e => by have e : j = g6 := e; have := HB6.2.1; omega)⟩
    ·skip
     clear hix
     have hGl : G < wq2.heap.size := hH.lt
     refine Wa.step_run (i := 6) (o := r14o6) rfl (by kernel_rfl) (Wa.exec_alloc 73 rfl md0.cells md0_zero) (hH.alloc _) (fun hH => ?_)
     have HB6 : Box (wq2.alloc (.cells md0.cells 73)) wq2.heap.size 73 md0.cells ∧ wr.heap.size ≤ wq2.heap.size ∧ G < wq2.heap.size := ⟨Box.new _ _ _, HKq.size, hGl⟩
     clear hGl
     have HKq : Kept No wr (wq2.alloc (.cells md0.cells 73)) := HKq.alloc _
     have HO : OwnB (wq2.alloc (.cells md0.cells 73)) wr.heap.size xa xc bz := HO.no ((Kept.refl No _).alloc _)
     generalize wq2.alloc (.cells md0.cells 73) = wq5 at HB6 HKq hH HO ⊢
     generalize wq2.heap.size = g6 at HB6 ⊢
     refine Wa.any_pick (rs := [5]) (by kernel_rfl) (by simp) ?_
     intro ix hix
     obtain rfl := Wa.pick1 hix
     clear hix
     refine Wa.step_call (i := 5) (o := r14o5) rfl (by kernel_rfl) 19 #[.int .i64 k, .int .i64 7, .agg #[.int .i64 n, .int .i64 c], .slice xa n1 xc] (call25 _ _ _ (by simp [r14o0, r14o1, r14o2, r14o3, r14o4, r14o6, ev_ne, ev_eq, sz_put, hsz, h1, h14, h15]) (by simp [r14o0, r14o1, r14o2, r14o3, r14o4, r14o6, ev_ne, ev_eq, sz_put, hsz, h1, h14, h15]) (by simp [r14o0, r14o1, r14o2, r14o3, r14o4, r14o6, ev_ne, ev_eq, sz_put, hsz, h1, h14, h15])) _ (value_any k 7 n c xa n1 xc _) ?_
     rintro e wq6 ⟨rfl, hk⟩
     have hH2 : Box wq6 G 29 #[.int .i64 n, .int .i64 c] := hH.kept hk (fun e => e)
     have HO : OwnB wq6 wr.heap.size xa xc bz := HO.no hk
     have HB6 : Box wq6 g6 73 md0.cells ∧ wr.heap.size ≤ g6 ∧ G < g6 := ⟨HB6.1.kept hk (fun e => e), HB6.2⟩
     have HKq : Kept No wr wq6 := HKq.then hk
     clear hk
     refine ⟨_, rfl, hH2, fun hH => ?_⟩
     clear hH2
     refine Wa.any_store (i := 7) (o := r14o7) (w' := wq6.setRow g6 (valD k 7 n c xa n1 xc).cells) rfl (by kernel_rfl) (by kernel_rfl) 73 _ _ rfl ⟨g6, 0, none⟩ (.agg (valD k 7 n c xa n1 xc).cells) (by simp [r14o0, r14o1, r14o2, r14o3, r14o4, r14o5, r14o6, ev_ne, ev_eq, sz_put, hsz, h1, h14, h15]) (by simp [r14o0, r14o1, r14o2, r14o3, r14o4, r14o5, r14o6, ev_ne, ev_eq, sz_put, hsz, h1, h14, h15]) (Wa.run_store52 HB6.1 md0_ok (valD_ok _ _ _ _ _ _ _)) (hH.kept (Kept.setRow _ _ _) (fun e => by have e : G = g6 := e; have := HB6.2.2; omega)) (fun hH => ?_)
     refine wpAnyH_done (by kernel_rfl) ?_ _
     simp only [r14o0, r14o1, r14o2, r14o3, r14o4, r14o5, r14o6, r14o7, put_none]
     rw [put_comm 10 42 (by decide)]
     exact h _ g6 xa xc _ ⟨Box.setRow HB6.1 _, Own.kept HO (Kept.setRow _ _ _) (fun j e f => (Own.notBox HO HB6.1 (by decide)) ((show j = g6 from f) ▸ e)), HB6.2.1, HKq.trans (Kept.setRow _ _ _) (fun _ e => e) (fun j l e => by have e : j = g6 := e; have := HB6.2.1; omega)⟩
   ·skip
    clear hix
    have hGl : G < wq1.heap.size := hH.lt
    refine Wa.step_run (i := 6) (o := r14o6) rfl (by kernel_rfl) (Wa.exec_alloc 73 rfl md0.cells md0_zero) (hH.alloc _) (fun hH => ?_)
    have HB6 : Box (wq1.alloc (.cells md0.cells 73)) wq1.heap.size 73 md0.cells ∧ wr.heap.size ≤ wq1.heap.size ∧ G < wq1.heap.size := ⟨Box.new _ _ _, HKq.size, hGl⟩
    clear hGl
    have HKq : Kept No wr (wq1.alloc (.cells md0.cells 73)) := HKq.alloc _
    have HE : Own 5 1 (wq1.alloc (.cells md0.cells 73)) eb (some ⟨eb, 0, none⟩) 0 0 [] ∧ wr.heap.size ≤ eb ∧ eb ≤ (wq1.alloc (.cells md0.cells 73)).heap.size ∧ G < eb := ⟨HE.1.no ((Kept.refl No _).alloc _), HE.2.1, by have := HE.2.2.1; simp; omega, HE.2.2.2⟩
    generalize wq1.alloc (.cells md0.cells 73) = wq7 at HB6 HKq hH HE ⊢
    generalize wq1.heap.size = g6 at HB6 ⊢
    refine Wa.any_pick (rs := [4]) (by kernel_rfl) (by simp) ?_
    intro ix hix
    obtain rfl := Wa.pick1 hix
    clear hix
    refine Wa.step_appB (i := 4) (o := r14o4) rfl (by kernel_rfl) (.tmp 39) (.tmp 40) rfl eb (by simp [r14o0, r14o1, r14o2, r14o3, r14o6, ev_ne, ev_eq, sz_put, hsz, h1, h14, h15]) HE.1 oa n1 c1 bz (by simp [r14o0, r14o1, r14o2, r14o3, r14o6, ev_ne, ev_eq, sz_put, hsz, h1, h14, h15]) hy (hb1.no HKq) hnil hn HE.2.2.1 ?_
    intro xa xc wq8 hO hk
    have hH2 : Box wq8 G 29 #[.int .i64 n, .int .i64 c] := hH.kept hk (fun e => by have e : G = eb := e; have := HE.2.2.2; omega)
    have HO : OwnB wq8 wr.heap.size xa xc bz := Own.lower hO HE.2.1
    have HB6 : Box wq8 g6 73 md0.cells ∧ wr.heap.size ≤ g6 ∧ G < g6 := ⟨HB6.1.kept hk (fun e => HE.1.notBox HB6.1 (by decide) ⟨_, rfl, e.symm⟩), HB6.2⟩
    have HKq : Kept No wr wq8 := HKq.trans hk (fun _ e => e) (fun j l e => by have e : j = eb := e; have := HE.2.1; omega)
    clear hO hk HE
    refine ⟨hH2, fun hH => ?_⟩
    clear hH2
    refine Wa.any_pick (rs := [5]) (by kernel_rfl) (by simp) ?_
    intro ix hix
    obtain rfl := Wa.pick1 hix
    clear hix
    refine Wa.step_call (i := 5) (o := r14o5) rfl (by kernel_rfl) 19 #[.int .i64 k, .int .i64 7, .agg #[.int .i64 n, .int .i64 c], .slice xa n1 xc] (call25 _ _ _ (by simp [r14o0, r14o1, r14o2, r14o3, r14o4, r14o6, ev_ne, ev_eq, sz_put, hsz, h1, h14, h15]) (by simp [r14o0, r14o1, r14o2, r14o3, r14o4, r14o6, ev_ne, ev_eq, sz_put, hsz, h1, h14, h15]) (by simp [r14o0, r14o1, r14o2, r14o3, r14o4, r14o6, ev_ne, ev_eq, sz_put, hsz, h1, h14, h15])) _ (value_any k 7 n c xa n1 xc _) ?_
    rintro e wq9 ⟨rfl, hk⟩
    have hH2 : Box wq9 G 29 #[.int .i64 n, .int .i64 c] := hH.kept hk (fun e => e)
    have HO : OwnB wq9 wr.heap.size xa xc bz := HO.no hk
    have HB6 : Box wq9 g6 73 md0.cells ∧ wr.heap.size ≤ g6 ∧ G < g6 := ⟨HB6.1.kept hk (fun e => e), HB6.2⟩
    have HKq : Kept No wr wq9 := HKq.then hk
    clear hk
    refine ⟨_, rfl, hH2, fun hH => ?_⟩
    clear hH2
    refine Wa.any_store (i := 7) (o := r14o7) (w' := wq9.setRow g6 (valD k 7 n c xa n1 xc).cells) rfl (by kernel_rfl) (by kernel_rfl) 73 _ _ rfl ⟨g6, 0, none⟩ (.agg (valD k 7 n c xa n1 xc).cells) (by simp [r14o0, r14o1, r14o2, r14o3, r14o4, r14o5, r14o6, ev_ne, ev_eq, sz_put, hsz, h1, h14, h15]) (by simp [r14o0, r14o1, r14o2, r14o3, r14o4, r14o5, r14o6, ev_ne, ev_eq, sz_put, hsz, h1, h14, h15]) (Wa.run_store52 HB6.1 md0_ok (valD_ok _ _ _ _ _ _ _)) (hH.kept (Kept.setRow _ _ _) (fun e => by have e : G = g6 := e; have := HB6.2.2; omega)) (fun hH => ?_)
    refine wpAnyH_done (by kernel_rfl) ?_ _
    simp only [r14o0, r14o1, r14o2, r14o3, r14o4, r14o5, r14o6, r14o7, put_none]
    rw [put_comm 10 41 (by decide), put_comm 10 42 (by decide)]
    exact h _ g6 xa xc _ ⟨Box.setRow HB6.1 _, Own.kept HO (Kept.setRow _ _ _) (fun j e f => (Own.notBox HO HB6.1 (by decide)) ((show j = g6 from f) ▸ e)), HB6.2.1, HKq.trans (Kept.setRow _ _ _) (fun _ e => e) (fun j l e => by have e : j = g6 := e; have := HB6.2.1; omega)⟩
  ·skip
   clear hix
   have hGl : G < wq0.heap.size := hH.lt
   refine Wa.step_run (i := 6) (o := r14o6) rfl (by kernel_rfl) (Wa.exec_alloc 73 rfl md0.cells md0_zero) (hH.alloc _) (fun hH => ?_)
   have HB6 : Box (wq0.alloc (.cells md0.cells 73)) wq0.heap.size 73 md0.cells ∧ wr.heap.size ≤ wq0.heap.size ∧ G < wq0.heap.size := ⟨Box.new _ _ _, HKq.size, hGl⟩
   clear hGl
   have HKq : Kept No wr (wq0.alloc (.cells md0.cells 73)) := HKq.alloc _
   generalize wq0.alloc (.cells md0.cells 73) = wq10 at HB6 HKq hH ⊢
   generalize wq0.heap.size = g6 at HB6 ⊢
   refine Wa.any_pick (rs := [2]) (by kernel_rfl) (by simp) ?_
   intro ix hix
   obtain rfl := Wa.pick1 hix
   clear hix
   have hGl : G < wq10.heap.size := hH.lt
   refine Wa.step_run (i := 2) (o := r14o2) rfl (by kernel_rfl) (Wa.exec_slice0 rfl) (hH.alloc _) (fun hH => ?_)
   have HE : Own 5 1 (wq10.alloc (.cells #[] 5)) wq10.heap.size (some ⟨wq10.heap.size, 0, none⟩) 0 0 [] ∧ wr.heap.size ≤ wq10.heap.size ∧ wq10.heap.size ≤ (wq10.alloc (.cells #[] 5)).heap.size ∧ G < wq10.heap.size := ⟨Wa.own0 _, HKq.size, by simp, hGl⟩
   clear hGl
   have HKq : Kept No wr (wq10.alloc (.cells #[] 5)) := HKq.alloc _
   have HB6 : Box (wq10.alloc (.cells #[] 5)) g6 73 md0.cells ∧ wr.heap.size ≤ g6 ∧ G < g6 := ⟨HB6.1.alloc _, HB6.2⟩
   generalize wq10.alloc (.cells #[] 5) = wq11 at HE HKq hH HB6 ⊢
   generalize wq10.heap.size = eb at HE ⊢
   refine Wa.any_pick (rs := [4]) (by kernel_rfl) (by simp) ?_
   intro ix hix
   obtain rfl := Wa.pick1 hix
   clear hix
   refine Wa.step_appB (i := 4) (o := r14o4) rfl (by kernel_rfl) (.tmp 39) (.tmp 40) rfl eb (by simp [r14o0, r14o1, r14o2, r14o3, r14o6, ev_ne, ev_eq, sz_put, hsz, h1, h14, h15]) HE.1 oa n1 c1 bz (by simp [r14o0, r14o1, r14o2, r14o3, r14o6, ev_ne, ev_eq, sz_put, hsz, h1, h14, h15]) hy (hb1.no HKq) hnil hn HE.2.2.1 ?_
   intro xa xc wq12 hO hk
   have hH2 : Box wq12 G 29 #[.int .i64 n, .int .i64 c] := hH.kept hk (fun e => by have e : G = eb := e; have := HE.2.2.2; omega)
   have HO : OwnB wq12 wr.heap.size xa xc bz := Own.lower hO HE.2.1
   have HB6 : Box wq12 g6 73 md0.cells ∧ wr.heap.size ≤ g6 ∧ G < g6 := ⟨HB6.1.kept hk (fun e => HE.1.notBox HB6.1 (by decide) ⟨_, rfl, e.symm⟩), HB6.2⟩
   have HKq : Kept No wr wq12 := HKq.trans hk (fun _ e => e) (fun j l e => by have e : j = eb := e; have := HE.2.1; omega)
   clear hO hk HE
   refine ⟨hH2, fun hH => ?_⟩
   clear hH2
   refine Wa.any_pick (rs := [5]) (by kernel_rfl) (by simp) ?_
   intro ix hix
   obtain rfl := Wa.pick1 hix
   clear hix
   refine Wa.step_call (i := 5) (o := r14o5) rfl (by kernel_rfl) 19 #[.int .i64 k, .int .i64 7, .agg #[.int .i64 n, .int .i64 c], .slice xa n1 xc] (call25 _ _ _ (by simp [r14o0, r14o1, r14o2, r14o3, r14o4, r14o6, ev_ne, ev_eq, sz_put, hsz, h1, h14, h15]) (by simp [r14o0, r14o1, r14o2, r14o3, r14o4, r14o6, ev_ne, ev_eq, sz_put, hsz, h1, h14, h15]) (by simp [r14o0, r14o1, r14o2, r14o3, r14o4, r14o6, ev_ne, ev_eq, sz_put, hsz, h1, h14, h15])) _ (value_any k 7 n c xa n1 xc _) ?_
   rintro e wq13 ⟨rfl, hk⟩
   have hH2 : Box wq13 G 29 #[.int .i64 n, .int .i64 c] := hH.kept hk (fun e => e)
   have HO : OwnB wq13 wr.heap.size xa xc bz := HO.no hk
   have HB6 : Box wq13 g6 73 md0.cells ∧ wr.heap.size ≤ g6 ∧ G < g6 := ⟨HB6.1.kept hk (fun e => e), HB6.2⟩
   have HKq : Kept No wr wq13 := HKq.then hk
   clear hk
   refine ⟨_, rfl, hH2, fun hH => ?_⟩
   clear hH2
   refine Wa.any_store (i := 7) (o := r14o7) (w' := wq13.setRow g6 (valD k 7 n c xa n1 xc).cells) rfl (by kernel_rfl) (by kernel_rfl) 73 _ _ rfl ⟨g6, 0, none⟩ (.agg (valD k 7 n c xa n1 xc).cells) (by simp [r14o0, r14o1, r14o2, r14o3, r14o4, r14o5, r14o6, ev_ne, ev_eq, sz_put, hsz, h1, h14, h15]) (by simp [r14o0, r14o1, r14o2, r14o3, r14o4, r14o5, r14o6, ev_ne, ev_eq, sz_put, hsz, h1, h14, h15]) (Wa.run_store52 HB6.1 md0_ok (valD_ok _ _ _ _ _ _ _)) (hH.kept (Kept.setRow _ _ _) (fun e => by have e : G = g6 := e; have := HB6.2.2; omega)) (fun hH => ?_)
   refine wpAnyH_done (by kernel_rfl) ?_ _
   simp only [r14o0, r14o1, r14o2, r14o3, r14o4, r14o5, r14o6, r14o7, put_none]
   rw [put_comm 10 39 (by decide), put_comm 10 41 (by decide), put_comm 10 42 (by decide)]
   exact h _ g6 xa xc _ ⟨Box.setRow HB6.1 _, Own.kept HO (Kept.setRow _ _ _) (fun j e f => (Own.notBox HO HB6.1 (by decide)) ((show j = g6 from f) ▸ e)), HB6.2.1, HKq.trans (Kept.setRow _ _ _) (fun _ e => e) (fun j l e => by have e : j = g6 := e; have := HB6.2.1; omega)⟩

end Go.Proofs.Ytgiokkcdgoloaab
