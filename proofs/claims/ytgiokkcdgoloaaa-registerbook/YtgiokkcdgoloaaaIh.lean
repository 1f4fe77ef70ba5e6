import Derived.Test.YtgiokkcdgoloaaaIf
namespace Go.Proofs.Ytgiokkcdgoloaaa
open Go.RowKit
set_option linter.unusedVariables false
set_option linter.unusedSimpArgs false
namespace Wa
theorem size52 : (Try.prog.info? 52).map (·.size) = some 30 := by kernel_rfl
theorem run_store52 {w : World} {g : Nat} {d0 d : MD} (hb : Box w g 52 d0.cells) (h0 : MdOk d0) (hd : MdOk d) : (storeVar 52 ⟨g, 0, none⟩ (.agg d.cells)).run Try.prog w = .ok () (w.setRow g d.cells) :=
  run_storeVar_row w g 52 52 d0.cells d.cells hb (by rw [MD.size hd]; exact size52) (by rw [MD.size hd, MD.size h0]) (MD.one hd)
theorem load41 {w : World} {g : Nat} {a b : Value} (h : Box w g 41 #[a, b]) : (loadVar 41 ⟨g, 0, none⟩).run Try.prog w = .ok (.agg #[a, b]) w :=
  run_loadVar_row w g 41 41 _ (0, 0) _ h Try.underlying41 rfl (by kernel_rfl)
section
variable {ops : Array Oper} {o : Oper} {a : Act} {w w' : World} {Q : Exit → Act → World → Prop} {md : Region.Mode} {S : World → Prop} {fuel : Nat} {listed : Array Bool}
theorem step_appB {i : Nat} (hi : ops[i]? = some o) (hw : Region.wanted o (yielded ops a.tmps) = true) (s x : Operand) (ho : o.op = .call { callee := Callee.builtin Builtin.append, args := #[s, x], argTypes := #[25, 25] }) (b : Nat) (hs : a.eval s = .slice (some ⟨b, 0, none⟩) 0 0) (hown : w.ownsRow b 5 1 (.slice (some ⟨b, 0, none⟩) 0 0) 0 []) (xa : Option Addr) (n c : Nat) (zs : List Int) (hx : a.eval x = .slice xa n c) (hz : zs.length = n) (hb : Bytes w xa zs) (hnil : xa = none → c = 0) (hn : n ≤ 140737488355328) (hbs : b ≤ w.heap.size)
    (h : ∀ a' c' w', OwnB w' b a' c' zs → Kept (Only b) w w' → S w' ∧ (S w' → wpAnyH Try.prog md ops Q S fuel (listed.setIfInBounds i true) (a.put o.dst (.slice a' n c')) w')) : StepH md ops Q S fuel listed a w i := by
  obtain ⟨a', c', w', hrun, hO, hk⟩ := exec_appB s x ho b hs hown xa n c zs hx hz hb hnil hn hbs
  obtain ⟨h1, h2⟩ := h a' c' w' hO hk
  exact step_run hi hw hrun h1 h2
end
theorem pick1 {i a : Nat} (h : i ∈ [a]) : i = a := by simpa using h
end Wa
theorem Own.notBox {t t' : TypeId} {c : Nat} {w : World} {base : Nat} {a : Option Addr} {cap n : Nat} {vs : List Value} (h : Own t c w base a cap n vs) {g : Nat} {cs : Array Value} (hb : Box w g t' cs) (ht : t ≠ t') : ¬ At a g := fun e => by
  obtain ⟨cur, e1⟩ := Gx.own_type h e
  have e2 : w.heap[g]? = some (.cells cs t' (0, 0)) := hb
  exact Gx.typ_ne e1 e2 ht

def r22o0 : Oper := { dst := some 75, op := Op.move (Operand.tmp 14), type := 3, pos := "own.go:46", after := #[], guard := none }
def r22o1 : Oper := { dst := some 76, op := Op.load 41 (Operand.tmp 15), type := 41, pos := "own.go:46", after := #[], guard := none }
def r22o2 : Oper := { dst := some 77, op := Op.buildSlice 25 0 #[], type := 25, pos := "own.go:46", after := #[], guard := none }
def r22o3 : Oper := { dst := some 78, op := Op.move (Operand.tmp 1), type := 25, pos := "own.go:46", after := #[], guard := none }
def r22o4 : Oper := { dst := some 79, op := Op.call { callee := Callee.builtin Builtin.append, args := #[Operand.tmp 77, Operand.tmp 78], argTypes := #[25, 25] }, type := 25, pos := "own.go:46", after := #[{ on := 2, ground := Ground.data }, { on := 3, ground := Ground.data }], guard := none }
def r22o5 : Oper := { dst := some 80, op := Op.call { callee := Callee.value (Operand.func 25), args := #[Operand.tmp 75, Operand.const (Value.int IntKind.i64 7), Operand.tmp 76, Operand.tmp 79], argTypes := #[3, 3, 41, 25] }, type := 52, pos := "own.go:46", after := #[{ on := 0, ground := Ground.data }, { on := 1, ground := Ground.data }, { on := 4, ground := Ground.data }, { on := 4, ground := Ground.chain }], guard := none }
def r22o6 : Oper := { dst := some 16, op := Op.alloc 52, type := 0, pos := "own.go:46", after := #[], guard := none }
def r22o7 : Oper := { dst := none, op := Op.store 52 (Operand.tmp 16) (Operand.tmp 80), type := 0, pos := "own.go:46", after := #[{ on := 6, ground := Ground.data }, { on := 5, ground := Ground.data }, { on := 5, ground := Ground.chain }, { on := 0, ground := Ground.phase }, { on := 1, ground := Ground.phase }, { on := 2, ground := Ground.phase }, { on := 3, ground := Ground.phase }, { on := 4, ground := Ground.phase }, { on := 5, ground := Ground.phase }, { on := 6, ground := Ground.phase }], guard := none }
theorem ev_ne {a : Act} {s t : Tmp} {v : Value} (h : t ≠ s) : (a.put (some s) v).eval (.tmp t) = a.eval (.tmp t) := by
  simp [Act.put, Act.eval, Array.getD_eq_getD_getElem?, Array.getElem?_setIfInBounds_ne (Ne.symm h)]
theorem ev_eq {a : Act} {s : Tmp} {v : Value} (h : s < a.tmps.size) : (a.put (some s) v).eval (.tmp s) = v := by
  simp [Act.put, Act.eval, Array.getD_eq_getD_getElem?, h]
theorem sz_put {a : Act} {s : Tmp} {v : Value} : (a.put (some s) v).tmps.size = a.tmps.size := by simp [Act.put]
theorem put_none {a : Act} {v : Value} : a.put none v = a := rfl
theorem put_comm {a : Act} (s t : Tmp) {v u : Value} (h : s ≠ t) : (a.put (some s) v).put (some t) u = (a.put (some t) u).put (some s) v := by
  simp [Act.put, Array.setIfInBounds_comm _ _ h]
theorem exec_mv {o : Oper} {a : Act} {w : World} {x : Operand} {v : Value} (ho : o.op = .move x) (hx : a.eval x = v) : (execOp a.eval o).run Try.prog w = .ok (.value v) w := by
  simp [execOp, ho, hx]
theorem call25 {a : Act} {w : World} (v1 v2 v3 : Value) (h1 : a.eval (.tmp 75) = v1) (h2 : a.eval (.tmp 76) = v2) (h3 : a.eval (.tmp 79) = v3) : (execOp a.eval r22o5).run Try.prog w = .ok (.enter 25 #[v1, .int .i64 7, v2, v3]) w := by
  subst h1 h2 h3
  kernel_rfl
def r22ops : Array Oper := #[r22o0, r22o1, r22o2, r22o3, r22o4, r22o5, r22o6, r22o7]
set_option maxRecDepth 100000 in
set_option maxHeartbeats 4000000 in
theorem r22 (a : Act) (G n1 c1 : Nat) (k n c : Int) (oa : Option Addr) (bz : List Int) (wr w : World) (Q : Exit → Act → World → Prop) (hsz : a.tmps.size = 222) (h1 : a.eval (.tmp 1) = .slice oa n1 c1) (h14 : a.eval (.tmp 14) = .int .i64 k) (h15 : a.eval (.tmp 15) = .pointer (some ⟨G, 0, none⟩)) (hy : bz.length = n1) (hn : n1 ≤ 140737488355328) (hb1 : Bytes wr oa bz) (hnil : oa = none → c1 = 0)
    (hB : Box w G 41 #[.int .i64 n, .int .i64 c]) (hK : Kept No wr w) (hQ : ∀ c (a : Act) t v w, Q (.panic c) (a.put t v) w → Q (.panic c) a w)
    (h : ∀ (eb g6 : Nat) (xa : Option Addr) (xc : Nat) (wd : World), Box wd g6 52 (valD k 7 n c xa n1 xc).cells ∧ OwnB wd wr.heap.size xa xc bz ∧ wr.heap.size ≤ g6 ∧ Kept No wr wd → Q .normal (((((((a.put (some 75) (.int .i64 k)).put (some 76) (.agg #[.int .i64 n, .int .i64 c])).put (some 78) (.slice oa n1 c1)).put (some 77) (.slice (some ⟨eb, 0, none⟩) 0 0)).put (some 79) (.slice xa n1 xc)).put (some 80) (.agg (valD k 7 n c xa n1 xc).cells)).put (some 16) (.pointer (some ⟨g6, 0, none⟩))) wd) :
    Code.wp Try.prog (.region 22 r22ops true) Q a w := by
  unfold r22ops
  refine wp_region_held_drew (S := fun w' => Box w' G 41 #[.int .i64 n, .int .i64 c]) rfl hB (fun hH => ?_)
  have HKq : Kept No wr w.drew := hK.drew
  clear hB hK
  generalize w.drew = wq0 at HKq hH ⊢
  refine Wa.aT (i := 0) (oi := r22o0) (v := .int .i64 k) (fun _ _ => exec_mv rfl h14) hH ?_ (hQ := fun _ _ _ h => hQ _ _ _ _ _ h)
  refine Wa.aT (i := 1) (oi := r22o1) (v := .agg #[.int .i64 n, .int .i64 c]) (fun w' hw => Wa.exec_load 41 _ rfl ⟨G, 0, none⟩ (by simp [r22o0, ev_ne, ev_eq, sz_put, hsz, h1, h14, h15]) _ (Wa.load41 hw)) hH ?_ (hQ := fun _ _ _ h => hQ _ _ _ _ _ h)
  refine Wa.aT (i := 3) (oi := r22o3) (v := .slice oa n1 c1) (fun _ _ => exec_mv rfl (by simp [r22o0, r22o1, ev_ne, ev_eq, sz_put, hsz, h1, h14, h15])) hH ?_ (hQ := fun _ _ _ h => hQ _ _ _ _ _ h)
  refine Wa.any_pick (rs := [2, 6]) (by kernel_rfl) (by simp) ?_
  intro ix hix
  rcases Wa.pick2 hix with rfl | rfl
  ·skip
   clear hix
   have hGl : G < wq0.heap.size := hH.lt
   refine Wa.step_run (i := 2) (o := r22o2) rfl (by kernel_rfl) (Wa.exec_slice0 rfl) (hH.alloc _) (fun hH => ?_)
   have HE : Own 5 1 (wq0.alloc (.cells #[] 5)) wq0.heap.size (some ⟨wq0.heap.size, 0, none⟩) 0 0 [] ∧ wr.heap.size ≤ wq0.heap.size ∧ wq0.heap.size ≤ (wq0.alloc (.cells #[] 5)).heap.size ∧ G < wq0.heap.size := ⟨Wa.own0 _, HKq.size, by simp, hGl⟩
   clear hGl
   have HKq : Kept No wr (wq0.alloc (.cells #[] 5)) := HKq.alloc _
   generalize wq0.alloc (.cells #[] 5) = wq1 at HE HKq hH ⊢
   generalize wq0.heap.size = eb at HE ⊢
   refine Wa.any_pick (rs := [4, 6]) (by kernel_rfl) (by simp) ?_
   intro ix hix
   rcases Wa.pick2 hix with rfl | rfl
   ·skip
    clear hix
    refine Wa.step_appB (i := 4) (o := r22o4) rfl (by kernel_rfl) (.tmp 77) (.tmp 78) rfl eb (by simp [r22o0, r22o1, r22o2, r22o3, r22o6, ev_ne, ev_eq, sz_put, hsz, h1, h14, h15]) HE.1 oa n1 c1 bz (by simp [r22o0, r22o1, r22o2, r22o3, r22o6, ev_ne, ev_eq, sz_put, hsz, h1, h14, h15]) hy (hb1.no HKq) hnil hn HE.2.2.1 ?_
    intro xa xc wq2 hO hk
    have hH2 : Box wq2 G 41 #[.int .i64 n, .int .i64 c] := hH.kept hk (fun e => by have e : G = eb := e; have := HE.2.2.2; omega)
    have HO : OwnB wq2 wr.heap.size xa xc bz := Own.lower hO HE.2.1
    have HKq : Kept No wr wq2 := HKq.trans hk (fun _ e => e) (fun j l e => by have e : j = eb := e; have := HE.2.1; omega)
    clear hO hk HE
    refine ⟨hH2, fun hH => ?_⟩
    clear hH2
    refine Wa.any_pick (rs := [5, 6]) (by kernel_rfl) (by simp) ?_
    intro ix hix
    rcases Wa.pick2 hix with rfl | rfl
    ·skip
     clear hix
     refine Wa.step_call (i := 5) (o := r22o5) rfl (by kernel_rfl) 25 #[.int .i64 k, .int .i64 7, .agg #[.int .i64 n, .int .i64 c], .slice xa n1 xc] (call25 _ _ _ (by simp [r22o0, r22o1, r22o2, r22o3, r22o4, r22o6, ev_ne, ev_eq, sz_put, hsz, h1, h14, h15]) (by simp [r22o0, r22o1, r22o2, r22o3, r22o4, r22o6, ev_ne, ev_eq, sz_put, hsz, h1, h14, h15]) (by simp [r22o0, r22o1, r22o2, r22o3, r22o4, r22o6, ev_ne, ev_eq, sz_put, hsz, h1, h14, h15])) _ (value_any k 7 n c xa n1 xc _) ?_
     rintro e wq3 ⟨rfl, hk⟩
     have hH2 : Box wq3 G 41 #[.int .i64 n, .int .i64 c] := hH.kept hk (fun e => e)
     have HO : OwnB wq3 wr.heap.size xa xc bz := HO.no hk
     have HKq : Kept No wr wq3 := HKq.then hk
     clear hk
     refine ⟨_, rfl, hH2, fun hH => ?_⟩
     clear hH2
     refine Wa.any_pick (rs := [6]) (by kernel_rfl) (by simp) ?_
     intro ix hix
     obtain rfl := Wa.pick1 hix
     clear hix
     have hGl : G < wq3.heap.size := hH.lt
     refine Wa.step_run (i := 6) (o := r22o6) rfl (by kernel_rfl) (Wa.exec_alloc 52 rfl md0.cells md0_zero) (hH.alloc _) (fun hH => ?_)
     have HB6 : Box (wq3.alloc (.cells md0.cells 52)) wq3.heap.size 52 md0.cells ∧ wr.heap.size ≤ wq3.heap.size ∧ G < wq3.heap.size := ⟨Box.new _ _ _, HKq.size, hGl⟩
     clear hGl
     have HKq : Kept No wr (wq3.alloc (.cells md0.cells 52)) := HKq.alloc _
     have HO : OwnB (wq3.alloc (.cells md0.cells 52)) wr.heap.size xa xc bz := HO.no ((Kept.refl No _).alloc _)
     generalize wq3.alloc (.cells md0.cells 52) = wq4 at HB6 HKq hH HO ⊢
     generalize wq3.heap.size = g6 at HB6 ⊢
     refine Wa.any_store (i := 7) (o := r22o7) (w' := wq4.setRow g6 (valD k 7 n c xa n1 xc).cells) rfl (by kernel_rfl) (by kernel_rfl) 52 _ _ rfl ⟨g6, 0, none⟩ (.agg (valD k 7 n c xa n1 xc).cells) (by simp [r22o0, r22o1, r22o2, r22o3, r22o4, r22o5, r22o6, ev_ne, ev_eq, sz_put, hsz, h1, h14, h15]) (by simp [r22o0, r22o1, r22o2, r22o3, r22o4, r22o5, r22o6, ev_ne, ev_eq, sz_put, hsz, h1, h14, h15]) (Wa.run_store52 HB6.1 md0_ok (valD_ok _ _ _ _ _ _ _)) (hH.kept (Kept.setRow _ _ _) (fun e => by have e : G = g6 := e; have := HB6.2.2; omega)) (fun hH => ?_)
     refine wpAnyH_done (by kernel_rfl) ?_ _
     simp only [r22o0, r22o1, r22o2, r22o3, r22o4, r22o5, r22o6, r22o7, put_none]
     exact h _ g6 xa xc _ ⟨Box.setRow HB6.1 _, HO.keptS (Kept.setRow _ _ _) (fun j e f => (Own.notBox HO HB6.1 (by decide)) ((show j = g6 from f) ▸ e)), HB6.2.1, HKq.trans (Kept.setRow _ _ _) (fun _ e => e) (fun j l e => by have e : j = g6 := e; have := HB6.2.1; omega)⟩
    ·skip
     clear hix
     have hGl : G < wq2.heap.size := hH.lt
     refine Wa.step_run (i := 6) (o := r22o6) rfl (by kernel_rfl) (Wa.exec_alloc 52 rfl md0.cells md0_zero) (hH.alloc _) (fun hH => ?_)
     have HB6 : Box (wq2.alloc (.cells md0.cells 52)) wq2.heap.size 52 md0.cells ∧ wr.heap.size ≤ wq2.heap.size ∧ G < wq2.heap.size := ⟨Box.new _ _ _, HKq.size, hGl⟩
     clear hGl
     have HKq : Kept No wr (wq2.alloc (.cells md0.cells 52)) := HKq.alloc _
     have HO : OwnB (wq2.alloc (.cells md0.cells 52)) wr.heap.size xa xc bz := HO.no ((Kept.refl No _).alloc _)
     generalize wq2.alloc (.cells md0.cells 52) = wq5 at HB6 HKq hH HO ⊢
     generalize wq2.heap.size = g6 at HB6 ⊢
     refine Wa.any_pick (rs := [5]) (by kernel_rfl) (by simp) ?_
     intro ix hix
     obtain rfl := Wa.pick1 hix
     clear hix
     refine Wa.step_call (i := 5) (o := r22o5) rfl (by kernel_rfl) 25 #[.int .i64 k, .int .i64 7, .agg #[.int .i64 n, .int .i64 c], .slice xa n1 xc] (call25 _ _ _ (by simp [r22o0, r22o1, r22o2, r22o3, r22o4, r22o6, ev_ne, ev_eq, sz_put, hsz, h1, h14, h15]) (by simp [r22o0, r22o1, r22o2, r22o3, r22o4, r22o6, ev_ne, ev_eq, sz_put, hsz, h1, h14, h15]) (by simp [r22o0, r22o1, r22o2, r22o3, r22o4, r22o6, ev_ne, ev_eq, sz_put, hsz, h1, h14, h15])) _ (value_any k 7 n c xa n1 xc _) ?_
     rintro e wq6 ⟨rfl, hk⟩
     have hH2 : Box wq6 G 41 #[.int .i64 n, .int .i64 c] := hH.kept hk (fun e => e)
     have HO : OwnB wq6 wr.heap.size xa xc bz := HO.no hk
     have HB6 : Box wq6 g6 52 md0.cells ∧ wr.heap.size ≤ g6 ∧ G < g6 := ⟨HB6.1.kept hk (fun e => e), HB6.2⟩
     have HKq : Kept No wr wq6 := HKq.then hk
     clear hk
     refine ⟨_, rfl, hH2, fun hH => ?_⟩
     clear hH2
     refine Wa.any_store (i := 7) (o := r22o7) (w' := wq6.setRow g6 (valD k 7 n c xa n1 xc).cells) rfl (by kernel_rfl) (by kernel_rfl) 52 _ _ rfl ⟨g6, 0, none⟩ (.agg (valD k 7 n c xa n1 xc).cells) (by simp [r22o0, r22o1, r22o2, r22o3, r22o4, r22o5, r22o6, ev_ne, ev_eq, sz_put, hsz, h1, h14, h15]) (by simp [r22o0, r22o1, r22o2, r22o3, r22o4, r22o5, r22o6, ev_ne, ev_eq, sz_put, hsz, h1, h14, h15]) (Wa.run_store52 HB6.1 md0_ok (valD_ok _ _ _ _ _ _ _)) (hH.kept (Kept.setRow _ _ _) (fun e => by have e : G = g6 := e; have := HB6.2.2; omega)) (fun hH => ?_)
     refine wpAnyH_done (by kernel_rfl) ?_ _
     simp only [r22o0, r22o1, r22o2, r22o3, r22o4, r22o5, r22o6, r22o7, put_none]
     rw [put_comm 16 80 (by decide)]
     exact h _ g6 xa xc _ ⟨Box.setRow HB6.1 _, HO.keptS (Kept.setRow _ _ _) (fun j e f => (Own.notBox HO HB6.1 (by decide)) ((show j = g6 from f) ▸ e)), HB6.2.1, HKq.trans (Kept.setRow _ _ _) (fun _ e => e) (fun j l e => by have e : j = g6 := e; have := HB6.2.1; omega)⟩
   ·skip
    clear hix
    have hGl : G < wq1.heap.size := hH.lt
    refine Wa.step_run (i := 6) (o := r22o6) rfl (by kernel_rfl) (Wa.exec_alloc 52 rfl md0.cells md0_zero) (hH.alloc _) (fun hH => ?_)
    have HB6 : Box (wq1.alloc (.cells md0.cells 52)) wq1.heap.size 52 md0.cells ∧ wr.heap.size ≤ wq1.heap.size ∧ G < wq1.heap.size := ⟨Box.new _ _ _, HKq.size, hGl⟩
    clear hGl
    have HKq : Kept No wr (wq1.alloc (.cells md0.cells 52)) := HKq.alloc _
    have HE : Own 5 1 (wq1.alloc (.cells md0.cells 52)) eb (some ⟨eb, 0, none⟩) 0 0 [] ∧ wr.heap.size ≤ eb ∧ eb ≤ (wq1.alloc (.cells md0.cells 52)).heap.size ∧ G < eb := ⟨HE.1.no ((Kept.refl No _).alloc _), HE.2.1, by have := HE.2.2.1; simp; omega, HE.2.2.2⟩
    generalize wq1.alloc (.cells md0.cells 52) = wq7 at HB6 HKq hH HE ⊢
    generalize wq1.heap.size = g6 at HB6 ⊢
    refine Wa.any_pick (rs := [4]) (by kernel_rfl) (by simp) ?_
    intro ix hix
    obtain rfl := Wa.pick1 hix
    clear hix
    refine Wa.step_appB (i := 4) (o := r22o4) rfl (by kernel_rfl) (.tmp 77) (.tmp 78) rfl eb (by simp [r22o0, r22o1, r22o2, r22o3, r22o6, ev_ne, ev_eq, sz_put, hsz, h1, h14, h15]) HE.1 oa n1 c1 bz (by simp [r22o0, r22o1, r22o2, r22o3, r22o6, ev_ne, ev_eq, sz_put, hsz, h1, h14, h15]) hy (hb1.no HKq) hnil hn HE.2.2.1 ?_
    intro xa xc wq8 hO hk
    have hH2 : Box wq8 G 41 #[.int .i64 n, .int .i64 c] := hH.kept hk (fun e => by have e : G = eb := e; have := HE.2.2.2; omega)
    have HO : OwnB wq8 wr.heap.size xa xc bz := Own.lower hO HE.2.1
    have HB6 : Box wq8 g6 52 md0.cells ∧ wr.heap.size ≤ g6 ∧ G < g6 := ⟨HB6.1.kept hk (fun e => HE.1.notBox HB6.1 (by decide) ⟨_, rfl, e.symm⟩), HB6.2⟩
    have HKq : Kept No wr wq8 := HKq.trans hk (fun _ e => e) (fun j l e => by have e : j = eb := e; have := HE.2.1; omega)
    clear hO hk HE
    refine ⟨hH2, fun hH => ?_⟩
    clear hH2
    refine Wa.any_pick (rs := [5]) (by kernel_rfl) (by simp) ?_
    intro ix hix
    obtain rfl := Wa.pick1 hix
    clear hix
    refine Wa.step_call (i := 5) (o := r22o5) rfl (by kernel_rfl) 25 #[.int .i64 k, .int .i64 7, .agg #[.int .i64 n, .int .i64 c], .slice xa n1 xc] (call25 _ _ _ (by simp [r22o0, r22o1, r22o2, r22o3, r22o4, r22o6, ev_ne, ev_eq, sz_put, hsz, h1, h14, h15]) (by simp [r22o0, r22o1, r22o2, r22o3, r22o4, r22o6, ev_ne, ev_eq, sz_put, hsz, h1, h14, h15]) (by simp [r22o0, r22o1, r22o2, r22o3, r22o4, r22o6, ev_ne, ev_eq, sz_put, hsz, h1, h14, h15])) _ (value_any k 7 n c xa n1 xc _) ?_
    rintro e wq9 ⟨rfl, hk⟩
    have hH2 : Box wq9 G 41 #[.int .i64 n, .int .i64 c] := hH.kept hk (fun e => e)
    have HO : OwnB wq9 wr.heap.size xa xc bz := HO.no hk
    have HB6 : Box wq9 g6 52 md0.cells ∧ wr.heap.size ≤ g6 ∧ G < g6 := ⟨HB6.1.kept hk (fun e => e), HB6.2⟩
    have HKq : Kept No wr wq9 := HKq.then hk
    clear hk
    refine ⟨_, rfl, hH2, fun hH => ?_⟩
    clear hH2
    refine Wa.any_store (i := 7) (o := r22o7) (w' := wq9.setRow g6 (valD k 7 n c xa n1 xc).cells) rfl (by kernel_rfl) (by kernel_rfl) 52 _ _ rfl ⟨g6, 0, none⟩ (.agg (valD k 7 n c xa n1 xc).cells) (by simp [r22o0, r22o1, r22o2, r22o3, r22o4, r22o5, r22o6, ev_ne, ev_eq, sz_put, hsz, h1, h14, h15]) (by simp [r22o0, r22o1, r22o2, r22o3, r22o4, r22o5, r22o6, ev_ne, ev_eq, sz_put, hsz, h1, h14, h15]) (Wa.run_store52 HB6.1 md0_ok (valD_ok _ _ _ _ _ _ _)) (hH.kept (Kept.setRow _ _ _) (fun e => by have e : G = g6 := e; have := HB6.2.2; omega)) (fun hH => ?_)
    refine wpAnyH_done (by kernel_rfl) ?_ _
    simp only [r22o0, r22o1, r22o2, r22o3, r22o4, r22o5, r22o6, r22o7, put_none]
    rw [put_comm 16 79 (by decide), put_comm 16 80 (by decide)]
    exact h _ g6 xa xc _ ⟨Box.setRow HB6.1 _, HO.keptS (Kept.setRow _ _ _) (fun j e f => (Own.notBox HO HB6.1 (by decide)) ((show j = g6 from f) ▸ e)), HB6.2.1, HKq.trans (Kept.setRow _ _ _) (fun _ e => e) (fun j l e => by have e : j = g6 := e; have := HB6.2.1; omega)⟩
  ·skip
   clear hix
   have hGl : G < wq0.heap.size := hH.lt
   refine Wa.step_run (i := 6) (o := r22o6) rfl (by kernel_rfl) (Wa.exec_alloc 52 rfl md0.cells md0_zero) (hH.alloc _) (fun hH => ?_)
   have HB6 : Box (wq0.alloc (.cells md0.cells 52)) wq0.heap.size 52 md0.cells ∧ wr.heap.size ≤ wq0.heap.size ∧ G < wq0.heap.size := ⟨Box.new _ _ _, HKq.size, hGl⟩
   clear hGl
   have HKq : Kept No wr (wq0.alloc (.cells md0.cells 52)) := HKq.alloc _
   generalize wq0.alloc (.cells md0.cells 52) = wq10 at HB6 HKq hH ⊢
   generalize wq0.heap.size = g6 at HB6 ⊢
   refine Wa.any_pick (rs := [2]) (by kernel_rfl) (by simp) ?_
   intro ix hix
   obtain rfl := Wa.pick1 hix
   clear hix
   have hGl : G < wq10.heap.size := hH.lt
   refine Wa.step_run (i := 2) (o := r22o2) rfl (by kernel_rfl) (Wa.exec_slice0 rfl) (hH.alloc _) (fun hH => ?_)
   have HE : Own 5 1 (wq10.alloc (.cells #[] 5)) wq10.heap.size (some ⟨wq10.heap.size, 0, none⟩) 0 0 [] ∧ wr.heap.size ≤ wq10.heap.size ∧ wq10.heap.size ≤ (wq10.alloc (.cells #[] 5)).heap.size ∧ G < wq10.heap.size := ⟨Wa.own0 _, HKq.size, by simp, hGl⟩
   clear hGl
   have HKq : Kept No wr (wq10.alloc (.cells #[] 5)) := HKq.alloc _
   have HB6 : Box (wq10.alloc (.cells #[] 5)) g6 52 md0.cells ∧ wr.heap.size ≤ g6 ∧ G < g6 := ⟨HB6.1.alloc _, HB6.2⟩
   generalize wq10.alloc (.cells #[] 5) = wq11 at HE HKq hH HB6 ⊢
   generalize wq10.heap.size = eb at HE ⊢
   refine Wa.any_pick (rs := [4]) (by kernel_rfl) (by simp) ?_
   intro ix hix
   obtain rfl := Wa.pick1 hix
   clear hix
   refine Wa.step_appB (i := 4) (o := r22o4) rfl (by kernel_rfl) (.tmp 77) (.tmp 78) rfl eb (by simp [r22o0, r22o1, r22o2, r22o3, r22o6, ev_ne, ev_eq, sz_put, hsz, h1, h14, h15]) HE.1 oa n1 c1 bz (by simp [r22o0, r22o1, r22o2, r22o3, r22o6, ev_ne, ev_eq, sz_put, hsz, h1, h14, h15]) hy (hb1.no HKq) hnil hn HE.2.2.1 ?_
   intro xa xc wq12 hO hk
   have hH2 : Box wq12 G 41 #[.int .i64 n, .int .i64 c] := hH.kept hk (fun e => by have e : G = eb := e; have := HE.2.2.2; omega)
   have HO : OwnB wq12 wr.heap.size xa xc bz := Own.lower hO HE.2.1
   have HB6 : Box wq12 g6 52 md0.cells ∧ wr.heap.size ≤ g6 ∧ G < g6 := ⟨HB6.1.kept hk (fun e => HE.1.notBox HB6.1 (by decide) ⟨_, rfl, e.symm⟩), HB6.2⟩
   have HKq : Kept No wr wq12 := HKq.trans hk (fun _ e => e) (fun j l e => by have e : j = eb := e; have := HE.2.1; omega)
   clear hO hk HE
   refine ⟨hH2, fun hH => ?_⟩
   clear hH2
   refine Wa.any_pick (rs := [5]) (by kernel_rfl) (by simp) ?_
   intro ix hix
   obtain rfl := Wa.pick1 hix
   clear hix
   refine Wa.step_call (i := 5) (o := r22o5) rfl (by kernel_rfl) 25 #[.int .i64 k, .int .i64 7, .agg #[.int .i64 n, .int .i64 c], .slice xa n1 xc] (call25 _ _ _ (by simp [r22o0, r22o1, r22o2, r22o3, r22o4, r22o6, ev_ne, ev_eq, sz_put, hsz, h1, h14, h15]) (by simp [r22o0, r22o1, r22o2, r22o3, r22o4, r22o6, ev_ne, ev_eq, sz_put, hsz, h1, h14, h15]) (by simp [r22o0, r22o1, r22o2, r22o3, r22o4, r22o6, ev_ne, ev_eq, sz_put, hsz, h1, h14, h15])) _ (value_any k 7 n c xa n1 xc _) ?_
   rintro e wq13 ⟨rfl, hk⟩
   have hH2 : Box wq13 G 41 #[.int .i64 n, .int .i64 c] := hH.kept hk (fun e => e)
   have HO : OwnB wq13 wr.heap.size xa xc bz := HO.no hk
   have HB6 : Box wq13 g6 52 md0.cells ∧ wr.heap.size ≤ g6 ∧ G < g6 := ⟨HB6.1.kept hk (fun e => e), HB6.2⟩
   have HKq : Kept No wr wq13 := HKq.then hk
   clear hk
   refine ⟨_, rfl, hH2, fun hH => ?_⟩
   clear hH2
   refine Wa.any_store (i := 7) (o := r22o7) (w' := wq13.setRow g6 (valD k 7 n c xa n1 xc).cells) rfl (by kernel_rfl) (by kernel_rfl) 52 _ _ rfl ⟨g6, 0, none⟩ (.agg (valD k 7 n c xa n1 xc).cells) (by simp [r22o0, r22o1, r22o2, r22o3, r22o4, r22o5, r22o6, ev_ne, ev_eq, sz_put, hsz, h1, h14, h15]) (by simp [r22o0, r22o1, r22o2, r22o3, r22o4, r22o5, r22o6, ev_ne, ev_eq, sz_put, hsz, h1, h14, h15]) (Wa.run_store52 HB6.1 md0_ok (valD_ok _ _ _ _ _ _ _)) (hH.kept (Kept.setRow _ _ _) (fun e => by have e : G = g6 := e; have := HB6.2.2; omega)) (fun hH => ?_)
   refine wpAnyH_done (by kernel_rfl) ?_ _
   simp only [r22o0, r22o1, r22o2, r22o3, r22o4, r22o5, r22o6, r22o7, put_none]
   rw [put_comm 16 77 (by decide), put_comm 16 79 (by decide), put_comm 16 80 (by decide)]
   exact h _ g6 xa xc _ ⟨Box.setRow HB6.1 _, HO.keptS (Kept.setRow _ _ _) (fun j e f => (Own.notBox HO HB6.1 (by decide)) ((show j = g6 from f) ▸ e)), HB6.2.1, HKq.trans (Kept.setRow _ _ _) (fun _ e => e) (fun j l e => by have e : j = g6 := e; have := HB6.2.1; omega)⟩

end Go.Proofs.Ytgiokkcdgoloaaa
