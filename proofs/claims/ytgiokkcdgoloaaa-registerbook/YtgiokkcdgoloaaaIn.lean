import Derived.Test.YtgiokkcdgoloaaaIi
namespace Go.Proofs.Ytgiokkcdgoloaaa
open Go.RowKit
set_option linter.unusedVariables false
set_option linter.unusedSimpArgs false
theorem tellN_le (i : Nat) : tellN i ≤ 5 := by unfold tellN; split <;> omega
theorem tellN_lt {i : Nat} (h : i < 2) : tellN i = 5 := if_pos h
theorem blocks_t {w0 : World} {P X : Nat → Prop} {p : Par} {i : Nat} {la : Option Addr} {ln lc B : Nat} {x : MS} {hq : Qh} {qs : List Qm} {W : World} (h : Tq w0 P X p i la ln lc x hq qs B W) :
    Calls Try.prog 26 #[.slice la ln lc] W (fun e W' => ∃ a' c', e = .returned (.slice a' ln c') ∧ Own 25 1 W' W.heap.size a' c' ln ((qs.map (entQ hq)).map Gx.entV) ∧ Kept No W W') := by
  have hl := tellN_le i
  have h1 := h.ql
  have h2 := h.tl
  have hc := blocks_any la lc x hq qs B W h.ms.row (by omega)
  rw [h1, bkC_ent] at hc
  exact hc

theorem own1 (W : World) (v : Value) (base : Nat) (hb : base ≤ W.heap.size) : Own 25 1 (W.alloc (.cells #[v] 25)) base (some ⟨W.heap.size, 0, none⟩) 1 1 [v] :=
  ⟨by simp, .inr ⟨W.heap.size, 1, #[v], rfl, hb, heap_alloc_new W _, Nat.le_refl _, by unfold maxLen; decide, by simp, by simp⟩⟩
theorem ai_one {X P : Nat → Prop} {p : Par} {w0 : World} {rg : Nat} {ms : Nat → Nat} {i ph : Nat} {ra ra' : Option Addr} {rc rc' : Nat} {K : List Gx.Ent} {I : Nat → Nat → Prop} {Z : Nat → List Int} {W W1 W2 : World} {da : Option Addr} {dc : Nat} (h : Ai X P p w0 rg ms i ph ra rc K I Z W) (hk : Kept No W W1) (hO : OwnB W1 W.heap.size da dc z4) (hR : Gx.Rw W2 w0.heap.size ra' rc' (K ++ [⟨da, 4, dc⟩])) (hA : (ra' = ra ∧ rc' = rc ∧ Kept (At ra) W1 W2) ∨ ((∀ k, At ra' k → W1.heap.size ≤ k) ∧ Kept No W1 W2)) :
    ∃ Z', Ai No No p w0 rg ms i ph ra' rc' (K ++ [⟨da, 4, dc⟩]) I Z' W2 := by
  have h1 : Ai No (At da) p w0 rg ms i ph ra rc K I Z W1 := h.fresh hk (fun k e => e.elim) (fun k e => ⟨Own.base hO e, hO.lt e⟩)
  have hE := h1.er.add (e := ⟨da, 4, dc⟩) (zs := z4) rfl (Own.lower hO h.kp.size) (show (4 : Nat) ≤ 140737488351232 by decide) (fun k e => (h1.po k e).2.2.2.2)
  refine ⟨_, h1.tell hE (fun k e => ?_) hR hA⟩
  obtain ⟨y, hy, ha⟩ := e
  rw [List.mem_singleton.1 hy] at ha
  exact ha
/-- A result laid down. -/
def alR (W : World) (cs : Array Value) : World := (al90 W).setRow W.heap.size cs
theorem alR_run (W : World) (sn sc : Int) (da : Option Addr) (dc : Nat) : Sem.run Try.prog (storeR ⟨W.heap.size, 0, none⟩ (.agg (resC 0 sn sc da 4 dc))) (al90 W) = .ok () (alR W (resC 0 sn sc da 4 dc)) := run_storeR' (Is90.new W) _ rfl (resC_one _ _ _ _ _ _)
theorem alR_kept (W : World) (cs : Array Value) : Kept No W (alR W cs) :=
  ((Kept.refl No W).alloc _).trans (Kept.setRow _ _ _) (fun _ e => e) (fun j l e => by have e : j = W.heap.size := e; omega)
theorem alR_cell (W : World) (sn sc : Int) (da : Option Addr) (dc : Nat) : (alR W (resC 0 sn sc da 4 dc)).cell? ⟨W.heap.size, 6, none⟩ = some (.slice da 4 dc) := by
  have h : Box (alR W (resC 0 sn sc da 4 dc)) W.heap.size 90 (resC 0 sn sc da 4 dc) := Box.setRow (Box.new _ _ _) _
  exact h.cell 6
theorem alR_size (W : World) (cs : Array Value) : W.heap.size ≤ (alR W cs).heap.size := (alR_kept W cs).size

/-- The blocks of a list of five that was told. -/
theorem told_at {W : World} {B : Nat} {la : Option Addr} {lc : Nat} {x : MS} {hq : Qh} {zs : List Int} {qs : List Qm} {n : Nat} (hM : Msgs W B la lc x hq zs qs) (hl : qs.length = 5) (hz : zs.length = n) :
    ∃ G, la = some ⟨G, 0, none⟩ ∧ ∀ W', Kept No W W' → ∀ t, t < 5 → ∃ ba bc, W'.cell? ⟨G, t * 30 + 15, none⟩ = some (.slice ba n bc) ∧ Bytes W' ba zs := by
  obtain ⟨G, rfl, hG⟩ := row_cell hM.row (msgsC_len x hq qs) (by omega)
  refine ⟨G, rfl, fun W' hk t ht => ?_⟩
  obtain ⟨q, hqt⟩ : ∃ q, qs[t]? = some q := ⟨_, List.getElem?_eq_getElem (by omega)⟩
  refine ⟨q.ba, q.bc, ?_, (hM.own q (List.mem_of_getElem? hqt)).bytes.no hk⟩
  have h1 := hG (t * 30 + 15) (by rw [msgsC_len]; omega)
  rw [msgsC_at x hq qs t q hqt, ← hM.len, hz] at h1
  exact hk.cell h1 (fun e => e)

def r54o0 : Oper := { dst := some 205, op := Op.fieldAddr 90 (Operand.tmp 25) 3, type := 0, pos := "own.go:80", after := #[], guard := none }
def r54o1 : Oper := { dst := some 206, op := Op.load 25 (Operand.tmp 205), type := 25, pos := "own.go:80", after := #[{ on := 0, ground := Ground.data }], guard := none }
def r54o2 : Oper := { dst := some 207, op := Op.makeSlice 25 (Operand.const (Value.int IntKind.i64 4)) (Operand.const (Value.int IntKind.i64 4)), type := 25, pos := "own.go:80", after := #[], guard := none }
def r54o3 : Oper := { dst := some 208, op := Op.call { callee := Callee.value (Operand.func 17), args := #[Operand.tmp 206, Operand.tmp 207], argTypes := #[25, 25] }, type := 4, pos := "own.go:80", after := #[{ on := 1, ground := Ground.data }, { on := 2, ground := Ground.data }], guard := none }
def r54o4 : Oper := { dst := some 209, op := Op.move (Operand.tmp 208), type := 4, pos := "own.go:80", after := #[{ on := 3, ground := Ground.data }, { on := 3, ground := Ground.chain }], guard := none }
def r54o5 : Oper := { dst := some 210, op := Op.move (Operand.tmp 27), type := 71, pos := "own.go:80", after := #[{ on := 4, ground := Ground.guard }], guard := some (4, true) }
def r54o6 : Oper := { dst := some 211, op := Op.call { callee := Callee.builtin Builtin.len, args := #[Operand.tmp 210], argTypes := #[71] }, type := 3, pos := "own.go:80", after := #[{ on := 5, ground := Ground.data }, { on := 4, ground := Ground.guard }], guard := some (4, true) }
def r54o7 : Oper := { dst := some 212, op := Op.binOp BinOp.eql 3 (Operand.tmp 211) (Operand.const (Value.int IntKind.i64 5)) 3, type := 4, pos := "own.go:80", after := #[{ on := 6, ground := Ground.data }, { on := 4, ground := Ground.guard }], guard := some (4, true) }
def r54o8 : Oper := { dst := some 213, op := Op.pick (Operand.tmp 209) (Operand.tmp 212) (Operand.const (Value.bool false)), type := 4, pos := "own.go:80", after := #[{ on := 4, ground := Ground.data }, { on := 7, ground := Ground.data }], guard := none }
def r54o9 : Oper := { dst := some 214, op := Op.move (Operand.tmp 213), type := 4, pos := "own.go:80", after := #[{ on := 8, ground := Ground.data }, { on := 4, ground := Ground.chain }], guard := none }
def r54o10 : Oper := { dst := some 215, op := Op.move (Operand.tmp 27), type := 71, pos := "own.go:80", after := #[{ on := 9, ground := Ground.guard }], guard := some (9, true) }
def r54o11 : Oper := { dst := some 216, op := Op.indexAddr 71 (Operand.tmp 215) (Operand.const (Value.int IntKind.i64 0)), type := 0, pos := "own.go:80", after := #[{ on := 10, ground := Ground.data }, { on := 9, ground := Ground.guard }], guard := some (9, true) }
def r54o12 : Oper := { dst := some 217, op := Op.fieldAddr 52 (Operand.tmp 216) 8, type := 0, pos := "own.go:80", after := #[{ on := 11, ground := Ground.data }, { on := 9, ground := Ground.guard }], guard := some (9, true) }
def r54o13 : Oper := { dst := some 218, op := Op.load 25 (Operand.tmp 217), type := 25, pos := "own.go:80", after := #[{ on := 12, ground := Ground.data }, { on := 9, ground := Ground.guard }], guard := some (9, true) }
def r54o14 : Oper := { dst := some 219, op := Op.move (Operand.tmp 0), type := 25, pos := "own.go:80", after := #[{ on := 9, ground := Ground.guard }], guard := some (9, true) }
def r54o15 : Oper := { dst := some 220, op := Op.call { callee := Callee.value (Operand.func 17), args := #[Operand.tmp 218, Operand.tmp 219], argTypes := #[25, 25] }, type := 4, pos := "own.go:80", after := #[{ on := 13, ground := Ground.data }, { on := 14, ground := Ground.data }, { on := 9, ground := Ground.chain }, { on := 9, ground := Ground.guard }], guard := some (9, true) }
def r54o16 : Oper := { dst := some 221, op := Op.pick (Operand.tmp 214) (Operand.tmp 220) (Operand.const (Value.bool false)), type := 4, pos := "own.go:80", after := #[{ on := 9, ground := Ground.data }, { on := 15, ground := Ground.data }], guard := none }
def r54o17 : Oper := { dst := some 4, op := Op.assign (Operand.tmp 221), type := 4, pos := "own.go:80", after := #[{ on := 16, ground := Ground.data }, { on := 15, ground := Ground.chain }, { on := 0, ground := Ground.phase }, { on := 1, ground := Ground.phase }, { on := 2, ground := Ground.phase }, { on := 3, ground := Ground.phase }, { on := 4, ground := Ground.phase }, { on := 5, ground := Ground.phase }, { on := 6, ground := Ground.phase }, { on := 7, ground := Ground.phase }, { on := 8, ground := Ground.phase }, { on := 9, ground := Ground.phase }, { on := 10, ground := Ground.phase }, { on := 11, ground := Ground.phase }, { on := 12, ground := Ground.phase }, { on := 13, ground := Ground.phase }, { on := 14, ground := Ground.phase }, { on := 15, ground := Ground.phase }, { on := 16, ground := Ground.phase }], guard := none }
theorem exec_make4 {a : Act} {w : World} : (execOp a.eval r54o2).run Try.prog w = .ok (.value (.slice (some ⟨w.heap.size, 0, none⟩) 4 4)) (w.alloc (.cells #[.int .u8 0, .int .u8 0, .int .u8 0, .int .u8 0] 5)) := by
  simp only [execOp, r54o2]
  kernel_rfl

theorem tm_ne {a : Act} {s t : Tmp} {v : Value} (h : t ≠ s) : (a.put (some s) v).tmps[t]? = a.tmps[t]? := by
  simp [Act.put, Array.getElem?_setIfInBounds_ne (Ne.symm h)]
theorem tm_eq {a : Act} {s : Tmp} {v : Value} (h : s < a.tmps.size) : (a.put (some s) v).tmps[s]? = some v := by
  simp [Act.put, h]
theorem wanted_g {o : Oper} {a : Act} (ops : Array Oper) (j t : Nat) (hg : o.guard = some (j, true)) (hd : (ops[j]?).bind (·.dst) = some t) (ht : t < a.tmps.size) (hv : a.eval (.tmp t) = .bool true) : Region.wanted o (yielded ops a.tmps) = true := by
  have hv' : a.tmps[t]? = some (.bool true) := by
    have h1 : a.tmps.getD t undef = .bool true := hv
    rw [Array.getD_eq_getD_getElem?, Array.getElem?_eq_getElem ht] at h1
    rw [Array.getElem?_eq_getElem ht]
    exact congrArg some h1
  simp [Region.wanted, hg, yielded, hd, hv']
theorem evc {a : Act} (v : Value) : a.eval (.const v) = v := rfl
theorem fld90 {a : Act} (g : Nat) {w : World} (h : a.eval (.tmp 25) = .pointer (some ⟨g, 0, none⟩)) : (execOp a.eval r54o0).run Try.prog w = .ok (.value (.pointer (some ⟨g, 6, none⟩))) w := by
  simp only [execOp, r54o0, h]
  kernel_rfl
theorem fld52 {a : Act} (g : Nat) {w : World} (h : a.eval (.tmp 216) = .pointer (some ⟨g, 0, none⟩)) : (execOp a.eval r54o12).run Try.prog w = .ok (.value (.pointer (some ⟨g, 15, none⟩))) w := by
  simp only [execOp, r54o12, h]
  kernel_rfl
theorem len71 {a : Act} {x : Option Addr} {c : Nat} {w : World} (h : a.eval (.tmp 210) = .slice x 5 c) : (execOp a.eval r54o6).run Try.prog w = .ok (.value (.int .i64 5)) w := by
  simp [execOp, r54o6, resolve, h]
  kernel_rfl
theorem eql5 {a : Act} {w : World} (h : a.eval (.tmp 211) = .int .i64 5) : (execOp a.eval r54o7).run Try.prog w = .ok (.value (.bool true)) w := by
  simp only [execOp, r54o7, h, evc]
  kernel_rfl
theorem pk8 {a : Act} {w : World} (h1 : a.eval (.tmp 209) = .bool true) (h2 : a.eval (.tmp 212) = .bool true) : (execOp a.eval r54o8).run Try.prog w = .ok (.value (.bool true)) w := by
  simp only [execOp, r54o8, h1, h2, evc]
  kernel_rfl
theorem pk16 {a : Act} {w : World} (h1 : a.eval (.tmp 214) = .bool true) (h2 : a.eval (.tmp 220) = .bool true) : (execOp a.eval r54o16).run Try.prog w = .ok (.value (.bool true)) w := by
  simp only [execOp, r54o16, h1, h2, evc]
  kernel_rfl
theorem ix71 {a : Act} {g c : Nat} {w : World} (h : a.eval (.tmp 215) = .slice (some ⟨g, 0, none⟩) 5 c) : (execOp a.eval r54o11).run Try.prog w = .ok (.value (.pointer (some ⟨g, 0, none⟩))) w := by
  simp only [execOp, r54o11, h, evc]
  kernel_rfl
theorem call17a {a : Act} {w : World} (v1 v2 : Value) (h1 : a.eval (.tmp 206) = v1) (h2 : a.eval (.tmp 207) = v2) : (execOp a.eval r54o3).run Try.prog w = .ok (.enter 17 #[v1, v2]) w := by
  subst h1 h2
  kernel_rfl
theorem call17b {a : Act} {w : World} (v1 v2 : Value) (h1 : a.eval (.tmp 218) = v1) (h2 : a.eval (.tmp 219) = v2) : (execOp a.eval r54o15).run Try.prog w = .ok (.enter 17 #[v1, v2]) w := by
  subst h1 h2
  kernel_rfl
def r54ops : Array Oper := #[r54o0, r54o1, r54o2, r54o3, r54o4, r54o5, r54o6, r54o7, r54o8, r54o9, r54o10, r54o11, r54o12, r54o13, r54o14, r54o15, r54o16, r54o17]
set_option maxRecDepth 100000 in
set_option maxHeartbeats 4000000 in
theorem r54 (a : Act) (H6 G3 n0 c0 lc3 dc1 d3 : Nat) (da1 da0 b3 : Option Addr) (wm : World) (Q : Exit → Act → World → Prop) (hsz : a.tmps.size = 222) (h25 : a.eval (.tmp 25) = .pointer (some ⟨H6, 0, none⟩)) (h27 : a.eval (.tmp 27) = .slice (some ⟨G3, 0, none⟩) 5 lc3) (h0 : a.eval (.tmp 0) = .slice da0 n0 c0)
    (hc6 : wm.cell? ⟨H6, 6, none⟩ = some (.slice da1 4 dc1)) (hc3 : wm.cell? ⟨G3, 15, none⟩ = some (.slice b3 n0 d3)) (hQ : ∀ c (a : Act) t v w, Q (.panic c) (a.put t v) w → Q (.panic c) a w)
    (HS1 : ∀ W, Kept No wm W → Box W wm.heap.size 5 #[.int .u8 0, .int .u8 0, .int .u8 0, .int .u8 0] → Calls Try.prog 17 #[.slice da1 4 dc1, .slice (some ⟨wm.heap.size, 0, none⟩) 4 4] W fun e w' => e = .returned (.bool true) ∧ Kept No W w')
    (HS2 : ∀ W, Kept No wm W → Calls Try.prog 17 #[.slice b3 n0 d3, .slice da0 n0 c0] W fun e w' => e = .returned (.bool true) ∧ Kept No W w')
    (h : ∀ wo, Kept No wm wo → Q .normal ((((((((((((((((((a.put (some 205) (.pointer (some ⟨H6, 6, none⟩))).put (some 206) (.slice da1 4 dc1)).put (some 207) (.slice (some ⟨wm.heap.size, 0, none⟩) 4 4)).put (some 208) (.bool true)).put (some 209) (.bool true)).put (some 210) (.slice (some ⟨G3, 0, none⟩) 5 lc3)).put (some 211) (.int .i64 5)).put (some 212) (.bool true)).put (some 213) (.bool true)).put (some 214) (.bool true)).put (some 219) (.slice da0 n0 c0)).put (some 215) (.slice (some ⟨G3, 0, none⟩) 5 lc3)).put (some 216) (.pointer (some ⟨G3, 0, none⟩))).put (some 217) (.pointer (some ⟨G3, 15, none⟩))).put (some 218) (.slice b3 n0 d3)).put (some 220) (.bool true)).put (some 221) (.bool true)).put (some 4) (.bool true)) wo) :
    Code.wp Try.prog (.region 54 r54ops true) Q a wm := by
  unfold r54ops
  refine wp_region_held_drew (S := fun w' => w'.cell? ⟨H6, 6, none⟩ = some (.slice da1 4 dc1) ∧ w'.cell? ⟨G3, 15, none⟩ = some (.slice b3 n0 d3)) rfl ⟨hc6, hc3⟩ (fun hH => ?_)
  have HKq : Kept No wm wm.drew ∧ wm.heap.size = wm.drew.heap.size := ⟨(Kept.refl No wm).drew, rfl⟩
  generalize wm.drew = wq0 at HKq hH ⊢
  refine Wa.aT (i := 0) (oi := r54o0) (v := .pointer (some ⟨H6, 6, none⟩)) (fun _ _ => fld90 _ h25) hH ?_ (hQ := fun _ _ _ h => hQ _ _ _ _ _ h)
  refine Wa.aT (i := 1) (oi := r54o1) (v := .slice da1 4 dc1) (fun w' hw => Wa.exec_load 25 _ rfl ⟨H6, 6, none⟩ (by simp [r54o0, ev_ne, ev_eq, tm_ne, tm_eq, sz_put, hsz, h25, h27, h0]) _ (Wa.load_one hw.1 Try.underlying25 rfl)) hH ?_ (hQ := fun _ _ _ h => hQ _ _ _ _ _ h)
  refine Wa.any_step (i := 2) (o := r54o2) rfl (by kernel_rfl) (by kernel_rfl) exec_make4 ⟨Lib.cell?_alloc_some _ hH.1, Lib.cell?_alloc_some _ hH.2⟩ (fun hH => ?_)
  have HKr : Kept No wm (wq0.alloc (.cells #[.int .u8 0, .int .u8 0, .int .u8 0, .int .u8 0] 5)) ∧ Box (wq0.alloc (.cells #[.int .u8 0, .int .u8 0, .int .u8 0, .int .u8 0] 5)) wq0.heap.size 5 #[.int .u8 0, .int .u8 0, .int .u8 0, .int .u8 0] := ⟨HKq.1.alloc _, Box.new _ _ _⟩
  generalize wq0.alloc (.cells #[.int .u8 0, .int .u8 0, .int .u8 0, .int .u8 0] 5) = wq1 at HKr hH ⊢
  rw [← HKq.2] at HKr ⊢
  refine Wa.any_call (i := 3) (o := r54o3) rfl (by kernel_rfl) (by kernel_rfl) 17 #[.slice da1 4 dc1, .slice (some ⟨wm.heap.size, 0, none⟩) 4 4] (call17a _ _ (by simp [r54o0, r54o1, r54o2, ev_ne, ev_eq, tm_ne, tm_eq, sz_put, hsz, h25, h27, h0]) (by simp [r54o0, r54o1, r54o2, ev_ne, ev_eq, tm_ne, tm_eq, sz_put, hsz, h25, h27, h0])) _ (HS1 wq1 HKr.1 HKr.2) ?_
  rintro e wn ⟨rfl, hkn⟩
  have HKn : Kept No wm wn := HKr.1.then hkn
  refine ⟨_, rfl, ⟨hkn.cell hH.1 (fun e => e), hkn.cell hH.2 (fun e => e)⟩, fun hH => ?_⟩
  clear hkn HKr HKq
  refine Wa.any_step (i := 4) (o := r54o4) (v := .bool true) rfl (by kernel_rfl) (by kernel_rfl) (exec_mv rfl (by simp [r54o0, r54o1, r54o2, r54o3, ev_ne, ev_eq, tm_ne, tm_eq, sz_put, hsz, h25, h27, h0])) hH (fun hH => ?_)
  refine Wa.any_step (i := 5) (o := r54o5) (v := .slice (some ⟨G3, 0, none⟩) 5 lc3) rfl (by kernel_rfl) (wanted_g _ 4 209 rfl rfl (by simp [r54o0, r54o1, r54o2, r54o3, r54o4, ev_ne, ev_eq, tm_ne, tm_eq, sz_put, hsz, h25, h27, h0]) (by simp [r54o0, r54o1, r54o2, r54o3, r54o4, ev_ne, ev_eq, tm_ne, tm_eq, sz_put, hsz, h25, h27, h0])) (exec_mv rfl (by simp [r54o0, r54o1, r54o2, r54o3, r54o4, ev_ne, ev_eq, tm_ne, tm_eq, sz_put, hsz, h25, h27, h0])) hH (fun hH => ?_)
  refine Wa.any_step (i := 6) (o := r54o6) (v := .int .i64 5) rfl (by kernel_rfl) (wanted_g _ 4 209 rfl rfl (by simp [r54o0, r54o1, r54o2, r54o3, r54o4, r54o5, ev_ne, ev_eq, tm_ne, tm_eq, sz_put, hsz, h25, h27, h0]) (by simp [r54o0, r54o1, r54o2, r54o3, r54o4, r54o5, ev_ne, ev_eq, tm_ne, tm_eq, sz_put, hsz, h25, h27, h0])) (len71 (x := some ⟨G3, 0, none⟩) (c := lc3) (by simp [r54o0, r54o1, r54o2, r54o3, r54o4, r54o5, ev_ne, ev_eq, tm_ne, tm_eq, sz_put, hsz, h25, h27, h0])) hH (fun hH => ?_)
  refine Wa.any_step (i := 7) (o := r54o7) (v := .bool true) rfl (by kernel_rfl) (wanted_g _ 4 209 rfl rfl (by simp [r54o0, r54o1, r54o2, r54o3, r54o4, r54o5, r54o6, ev_ne, ev_eq, tm_ne, tm_eq, sz_put, hsz, h25, h27, h0]) (by simp [r54o0, r54o1, r54o2, r54o3, r54o4, r54o5, r54o6, ev_ne, ev_eq, tm_ne, tm_eq, sz_put, hsz, h25, h27, h0])) (eql5 (by simp [r54o0, r54o1, r54o2, r54o3, r54o4, r54o5, r54o6, ev_ne, ev_eq, tm_ne, tm_eq, sz_put, hsz, h25, h27, h0])) hH (fun hH => ?_)
  refine Wa.any_step (i := 8) (o := r54o8) (v := .bool true) rfl (by kernel_rfl) (by kernel_rfl) (pk8 (by simp [r54o0, r54o1, r54o2, r54o3, r54o4, r54o5, r54o6, r54o7, ev_ne, ev_eq, tm_ne, tm_eq, sz_put, hsz, h25, h27, h0]) (by simp [r54o0, r54o1, r54o2, r54o3, r54o4, r54o5, r54o6, r54o7, ev_ne, ev_eq, tm_ne, tm_eq, sz_put, hsz, h25, h27, h0])) hH (fun hH => ?_)
  refine Wa.any_step (i := 9) (o := r54o9) (v := .bool true) rfl (by kernel_rfl) (by kernel_rfl) (exec_mv rfl (by simp [r54o0, r54o1, r54o2, r54o3, r54o4, r54o5, r54o6, r54o7, r54o8, ev_ne, ev_eq, tm_ne, tm_eq, sz_put, hsz, h25, h27, h0])) hH (fun hH => ?_)
  refine Wa.aT (i := 14) (oi := r54o14) (v := .slice da0 n0 c0) (fun _ _ => exec_mv rfl (by simp [r54o0, r54o1, r54o2, r54o3, r54o4, r54o5, r54o6, r54o7, r54o8, r54o9, ev_ne, ev_eq, tm_ne, tm_eq, sz_put, hsz, h25, h27, h0])) hH ?_ (hQ := fun _ _ _ h => hQ _ _ _ _ _ h) (hw := wanted_g _ 9 214 rfl rfl (by simp [r54o0, r54o1, r54o2, r54o3, r54o4, r54o5, r54o6, r54o7, r54o8, r54o9, ev_ne, ev_eq, tm_ne, tm_eq, sz_put, hsz, h25, h27, h0]) (by simp [r54o0, r54o1, r54o2, r54o3, r54o4, r54o5, r54o6, r54o7, r54o8, r54o9, ev_ne, ev_eq, tm_ne, tm_eq, sz_put, hsz, h25, h27, h0]))
  refine Wa.any_step (i := 10) (o := r54o10) (v := .slice (some ⟨G3, 0, none⟩) 5 lc3) rfl (by kernel_rfl) (wanted_g _ 9 214 rfl rfl (by simp [r54o0, r54o1, r54o2, r54o3, r54o4, r54o5, r54o6, r54o7, r54o8, r54o9, r54o14, ev_ne, ev_eq, tm_ne, tm_eq, sz_put, hsz, h25, h27, h0]) (by simp [r54o0, r54o1, r54o2, r54o3, r54o4, r54o5, r54o6, r54o7, r54o8, r54o9, r54o14, ev_ne, ev_eq, tm_ne, tm_eq, sz_put, hsz, h25, h27, h0])) (exec_mv rfl (by simp [r54o0, r54o1, r54o2, r54o3, r54o4, r54o5, r54o6, r54o7, r54o8, r54o9, r54o14, ev_ne, ev_eq, tm_ne, tm_eq, sz_put, hsz, h25, h27, h0])) hH (fun hH => ?_)
  refine Wa.any_step (i := 11) (o := r54o11) (v := .pointer (some ⟨G3, 0, none⟩)) rfl (by kernel_rfl) (wanted_g _ 9 214 rfl rfl (by simp [r54o0, r54o1, r54o2, r54o3, r54o4, r54o5, r54o6, r54o7, r54o8, r54o9, r54o14, r54o10, ev_ne, ev_eq, tm_ne, tm_eq, sz_put, hsz, h25, h27, h0]) (by simp [r54o0, r54o1, r54o2, r54o3, r54o4, r54o5, r54o6, r54o7, r54o8, r54o9, r54o14, r54o10, ev_ne, ev_eq, tm_ne, tm_eq, sz_put, hsz, h25, h27, h0])) (ix71 (g := G3) (c := lc3) (by simp [r54o0, r54o1, r54o2, r54o3, r54o4, r54o5, r54o6, r54o7, r54o8, r54o9, r54o14, r54o10, ev_ne, ev_eq, tm_ne, tm_eq, sz_put, hsz, h25, h27, h0])) hH (fun hH => ?_)
  refine Wa.any_step (i := 12) (o := r54o12) (v := .pointer (some ⟨G3, 15, none⟩)) rfl (by kernel_rfl) (wanted_g _ 9 214 rfl rfl (by simp [r54o0, r54o1, r54o2, r54o3, r54o4, r54o5, r54o6, r54o7, r54o8, r54o9, r54o14, r54o10, r54o11, ev_ne, ev_eq, tm_ne, tm_eq, sz_put, hsz, h25, h27, h0]) (by simp [r54o0, r54o1, r54o2, r54o3, r54o4, r54o5, r54o6, r54o7, r54o8, r54o9, r54o14, r54o10, r54o11, ev_ne, ev_eq, tm_ne, tm_eq, sz_put, hsz, h25, h27, h0])) (fld52 G3 (by simp [r54o0, r54o1, r54o2, r54o3, r54o4, r54o5, r54o6, r54o7, r54o8, r54o9, r54o14, r54o10, r54o11, ev_ne, ev_eq, tm_ne, tm_eq, sz_put, hsz, h25, h27, h0])) hH (fun hH => ?_)
  refine Wa.any_step (i := 13) (o := r54o13) (v := .slice b3 n0 d3) rfl (by kernel_rfl) (wanted_g _ 9 214 rfl rfl (by simp [r54o0, r54o1, r54o2, r54o3, r54o4, r54o5, r54o6, r54o7, r54o8, r54o9, r54o14, r54o10, r54o11, r54o12, ev_ne, ev_eq, tm_ne, tm_eq, sz_put, hsz, h25, h27, h0]) (by simp [r54o0, r54o1, r54o2, r54o3, r54o4, r54o5, r54o6, r54o7, r54o8, r54o9, r54o14, r54o10, r54o11, r54o12, ev_ne, ev_eq, tm_ne, tm_eq, sz_put, hsz, h25, h27, h0])) (Wa.exec_load 25 _ rfl ⟨G3, 15, none⟩ (by simp [r54o0, r54o1, r54o2, r54o3, r54o4, r54o5, r54o6, r54o7, r54o8, r54o9, r54o14, r54o10, r54o11, r54o12, ev_ne, ev_eq, tm_ne, tm_eq, sz_put, hsz, h25, h27, h0]) _ (Wa.load_one hH.2 Try.underlying25 rfl)) hH (fun hH => ?_)
  refine Wa.any_call (i := 15) (o := r54o15) rfl (by kernel_rfl) (wanted_g _ 9 214 rfl rfl (by simp [r54o0, r54o1, r54o2, r54o3, r54o4, r54o5, r54o6, r54o7, r54o8, r54o9, r54o14, r54o10, r54o11, r54o12, r54o13, ev_ne, ev_eq, tm_ne, tm_eq, sz_put, hsz, h25, h27, h0]) (by simp [r54o0, r54o1, r54o2, r54o3, r54o4, r54o5, r54o6, r54o7, r54o8, r54o9, r54o14, r54o10, r54o11, r54o12, r54o13, ev_ne, ev_eq, tm_ne, tm_eq, sz_put, hsz, h25, h27, h0])) 17 #[.slice b3 n0 d3, .slice da0 n0 c0] (call17b _ _ (by simp [r54o0, r54o1, r54o2, r54o3, r54o4, r54o5, r54o6, r54o7, r54o8, r54o9, r54o14, r54o10, r54o11, r54o12, r54o13, ev_ne, ev_eq, tm_ne, tm_eq, sz_put, hsz, h25, h27, h0]) (by simp [r54o0, r54o1, r54o2, r54o3, r54o4, r54o5, r54o6, r54o7, r54o8, r54o9, r54o14, r54o10, r54o11, r54o12, r54o13, ev_ne, ev_eq, tm_ne, tm_eq, sz_put, hsz, h25, h27, h0])) _ (HS2 wn HKn) ?_
  rintro e wo ⟨rfl, hko⟩
  have HKo : Kept No wm wo := HKn.then hko
  refine ⟨_, rfl, ⟨hko.cell hH.1 (fun e => e), hko.cell hH.2 (fun e => e)⟩, fun hH => ?_⟩
  refine Wa.any_step (i := 16) (o := r54o16) (v := .bool true) rfl (by kernel_rfl) (by kernel_rfl) (pk16 (by simp [r54o0, r54o1, r54o2, r54o3, r54o4, r54o5, r54o6, r54o7, r54o8, r54o9, r54o14, r54o10, r54o11, r54o12, r54o13, r54o15, ev_ne, ev_eq, tm_ne, tm_eq, sz_put, hsz, h25, h27, h0]) (by simp [r54o0, r54o1, r54o2, r54o3, r54o4, r54o5, r54o6, r54o7, r54o8, r54o9, r54o14, r54o10, r54o11, r54o12, r54o13, r54o15, ev_ne, ev_eq, tm_ne, tm_eq, sz_put, hsz, h25, h27, h0])) hH (fun hH => ?_)
  refine Wa.any_step (i := 17) (o := r54o17) (v := .bool true) rfl (by kernel_rfl) (by kernel_rfl) (exec_as rfl (by simp [r54o0, r54o1, r54o2, r54o3, r54o4, r54o5, r54o6, r54o7, r54o8, r54o9, r54o14, r54o10, r54o11, r54o12, r54o13, r54o15, r54o16, ev_ne, ev_eq, tm_ne, tm_eq, sz_put, hsz, h25, h27, h0])) hH (fun hH => ?_)
  refine wpAnyH_done (by kernel_rfl) ?_ _
  exact h wo HKo

end Go.Proofs.Ytgiokkcdgoloaaa
