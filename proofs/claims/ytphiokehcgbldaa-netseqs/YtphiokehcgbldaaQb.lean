import Derived.Test.YtphiokehcgbldaaQa
namespace Go.Proofs.Ytphiokehcgbldaa
open Go.RowKit
set_option linter.unusedVariables false
set_option linter.unusedSimpArgs false
set_option maxRecDepth 100000
section
variable {o : Oper} {a : Act} {w w' : World} {x y z : Operand} {v : Value}
theorem exec_f29_0 {g : Nat} (ho : o.op = .fieldAddr 29 x 0) (hx : a.eval x = .pointer (some ⟨g, 0, none⟩)) : (execOp a.eval o).run Try.prog w = .ok (.value (.pointer (some ⟨g, 0, none⟩))) w := by
  simp only [execOp, ho, hx]; kernel_rfl
theorem exec_f29_1 {g : Nat} (ho : o.op = .fieldAddr 29 x 1) (hx : a.eval x = .pointer (some ⟨g, 0, none⟩)) : (execOp a.eval o).run Try.prog w = .ok (.value (.pointer (some ⟨g, 1, none⟩))) w := by
  simp only [execOp, ho, hx]; kernel_rfl
theorem exec_app27 {u1 u2 : Value} (ho : o.op = .call { callee := .builtin .append, args := #[x, y], argTypes := #[27, 27] }) (hx : a.eval x = u1) (hy : a.eval y = u2) (hrun : (Builtin.append_ #[27, 27] o.type #[u1, u2]).run Try.prog w = .ok v w') : (execOp a.eval o).run Try.prog w = .ok (.value v) w' := by
  subst hx hy
  simp [execOp, ho, resolve, invoke, builtin, hrun, Result.andThen]
theorem exec_app26 {u1 u2 : Value} (ho : o.op = .call { callee := .builtin .append, args := #[x, y], argTypes := #[26, 26] }) (hx : a.eval x = u1) (hy : a.eval y = u2) (hrun : (Builtin.append_ #[26, 26] o.type #[u1, u2]).run Try.prog w = .ok v w') : (execOp a.eval o).run Try.prog w = .ok (.value v) w' := by
  subst hx hy
  simp [execOp, ho, resolve, invoke, builtin, hrun, Result.andThen]
theorem exec_bs27 {c0 : Bool} {c1 : Int} (ho : o.op = .buildSlice 27 1 #[(0, x)]) (hx : a.eval x = .agg #[.bool c0, .int .i64 c1]) : (execOp a.eval o).run Try.prog w = .ok (.value (.slice (some ⟨w.heap.size, 0, none⟩) 1 1)) (w.alloc (.cells #[.bool c0, .int .i64 c1] 34)) := by
  simp only [execOp, ho, List.map_toArray, List.map_cons, List.map_nil, hx]
  kernel_rfl
theorem exec_bs26 {c0 c3 : Bool} {c1 c2 c4 : Int} {d : Option Addr} {l k : Nat} (ho : o.op = .buildSlice 26 1 #[(0, x)]) (hx : a.eval x = .agg #[.bool c0, .int .i64 c1, .int .i64 c2, .bool c3, .int .i64 c4, .slice d l k]) : (execOp a.eval o).run Try.prog w = .ok (.value (.slice (some ⟨w.heap.size, 0, none⟩) 1 1)) (w.alloc (.cells #[.bool c0, .int .i64 c1, .int .i64 c2, .bool c3, .int .i64 c4, .slice d l k] 44)) := by
  simp only [execOp, ho, List.map_toArray, List.map_cons, List.map_nil, hx]
  kernel_rfl
theorem ld44 {g : Nat} {c0 c1 c2 c3 c4 c5 : Value} (h : Box w g 44 #[c0, c1, c2, c3, c4, c5]) : (loadVar 44 ⟨g, 0, none⟩).run Try.prog w = .ok (.agg #[c0, c1, c2, c3, c4, c5]) w :=
  run_loadVar_row w g 44 44 _ (0, 0) _ h Try.underlying44 rfl (by kernel_rfl)
theorem store_29_0 {r : Nat} {c0 c1 : Value} {d : Option Addr} {l k : Nat} (hb : Box w r 29 #[c0, c1]) : (storeVar 26 ⟨r, 0, none⟩ (.slice d l k)).run Try.prog w = .ok () (w.setRow r #[.slice d l k, c1]) :=
  Wa.run_store_at (cur := [c0, c1]) (vs := [.slice d l k]) hb rfl (by kernel_rfl) (by simp) (fun v hv => by rw [List.mem_singleton.1 hv]; rfl)
theorem store_29_1 {r : Nat} {c0 c1 : Value} {d : Option Addr} {l k : Nat} (hb : Box w r 29 #[c0, c1]) : (storeVar 27 ⟨r, 1, none⟩ (.slice d l k)).run Try.prog w = .ok () (w.setRow r #[c0, .slice d l k]) :=
  Wa.run_store_at (cur := [c0, c1]) (vs := [.slice d l k]) hb rfl (by kernel_rfl) (by simp) (fun v hv => by rw [List.mem_singleton.1 hv]; rfl)
end

def q1o0 : Oper := { dst := some 8, op := Op.move (Operand.tmp 0), type := 25, pos := "ref.go:33", after := #[], guard := none }
def q1o1 : Oper := { dst := some 9, op := Op.move (Operand.tmp 0), type := 25, pos := "ref.go:33", after := #[], guard := none }
def q1o2 : Oper := { dst := some 10, op := Op.nilCheck (Operand.tmp 9), type := 0, pos := "ref.go:33", after := #[{ on := 1, ground := Ground.data }], guard := none }
def q1o3 : Oper := { dst := some 11, op := Op.fieldAddr 29 (Operand.tmp 10) 1, type := 0, pos := "ref.go:33", after := #[{ on := 2, ground := Ground.data }], guard := none }
def q1o4 : Oper := { dst := some 12, op := Op.load 27 (Operand.tmp 11), type := 27, pos := "ref.go:33", after := #[{ on := 3, ground := Ground.data }], guard := none }
def q1o5 : Oper := { dst := some 13, op := Op.fieldAddr 44 (Operand.tmp 3) 0, type := 0, pos := "ref.go:33", after := #[], guard := none }
def q1o6 : Oper := { dst := some 14, op := Op.load 34 (Operand.tmp 13), type := 34, pos := "ref.go:33", after := #[{ on := 5, ground := Ground.data }], guard := none }
def q1o7 : Oper := { dst := some 15, op := Op.buildSlice 27 1 #[(0, Operand.tmp 14)], type := 27, pos := "ref.go:33", after := #[{ on := 6, ground := Ground.data }], guard := none }
def q1o8 : Oper := { dst := some 16, op := Op.call { callee := Callee.builtin Builtin.append, args := #[Operand.tmp 12, Operand.tmp 15], argTypes := #[27, 27] }, type := 27, pos := "ref.go:33", after := #[{ on := 4, ground := Ground.data }, { on := 7, ground := Ground.data }], guard := none }
def q1o9 : Oper := { dst := some 17, op := Op.nilCheck (Operand.tmp 8), type := 0, pos := "ref.go:33", after := #[{ on := 0, ground := Ground.data }, { on := 0, ground := Ground.phase }, { on := 1, ground := Ground.phase }, { on := 2, ground := Ground.phase }, { on := 3, ground := Ground.phase }, { on := 4, ground := Ground.phase }, { on := 5, ground := Ground.phase }, { on := 6, ground := Ground.phase }, { on := 7, ground := Ground.phase }, { on := 8, ground := Ground.phase }], guard := none }
def q1o10 : Oper := { dst := some 18, op := Op.fieldAddr 29 (Operand.tmp 17) 1, type := 0, pos := "ref.go:33", after := #[{ on := 9, ground := Ground.data }, { on := 0, ground := Ground.phase }, { on := 1, ground := Ground.phase }, { on := 2, ground := Ground.phase }, { on := 3, ground := Ground.phase }, { on := 4, ground := Ground.phase }, { on := 5, ground := Ground.phase }, { on := 6, ground := Ground.phase }, { on := 7, ground := Ground.phase }, { on := 8, ground := Ground.phase }], guard := none }
def q1o11 : Oper := { dst := none, op := Op.store 27 (Operand.tmp 18) (Operand.tmp 16), type := 0, pos := "ref.go:33", after := #[{ on := 10, ground := Ground.data }, { on := 8, ground := Ground.data }, { on := 8, ground := Ground.chain }, { on := 0, ground := Ground.phase }, { on := 1, ground := Ground.phase }, { on := 2, ground := Ground.phase }, { on := 3, ground := Ground.phase }, { on := 4, ground := Ground.phase }, { on := 5, ground := Ground.phase }, { on := 6, ground := Ground.phase }, { on := 7, ground := Ground.phase }, { on := 8, ground := Ground.phase }], guard := none }
def q1ops : Array Oper := #[q1o0, q1o1, q1o2, q1o3, q1o4, q1o5, q1o6, q1o7, q1o8, q1o9, q1o10, q1o11]
set_option maxHeartbeats 4000000 in
theorem q1 (a : Act) (r W n cap base : Nat) (c0 c3 : Bool) (c1 c2 c4 : Int) (d : Option Addr) (dl dk : Nat) (sa : Option Addr) (u : Value) (vs : List Value) (wm : World) (Q : Exit → Act → World → Prop) (hsz : a.tmps.size = 61) (h0 : a.eval (.tmp 0) = .pointer (some ⟨r, 0, none⟩)) (h3 : a.eval (.tmp 3) = .pointer (some ⟨W, 0, none⟩)) (hc0 : Box wm W 44 #[.bool c0, .int .i64 c1, .int .i64 c2, .bool c3, .int .i64 c4, .slice d dl dk]) (hbr : Box wm r 29 #[u, .slice sa n cap]) (hown : Own 34 2 wm base sa cap n vs) (hnl : n ≤ 100000000000) (hbase : base ≤ wm.heap.size)  (hQ : ∀ c (a : Act) t v w, Q (.panic c) (a.put t v) w → Q (.panic c) a w)
    (h : ∀ wo G g' cap', Own 34 2 wo base (some ⟨g', 0, none⟩) cap' (n + 1) (vs ++ [.bool c0, .int .i64 c1]) → Box wo r 29 #[u, .slice (some ⟨g', 0, none⟩) (n + 1) cap'] → Kept (fun k => k = r ∨ At sa k) wm wo → (At sa g' ∨ wm.heap.size ≤ g') → Box wo W 44 #[.bool c0, .int .i64 c1, .int .i64 c2, .bool c3, .int .i64 c4, .slice d dl dk] → Q .normal (((((((((((a.put (some 8) (.pointer (some ⟨r, 0, none⟩))).put (some 9) (.pointer (some ⟨r, 0, none⟩))).put (some 10) (.pointer (some ⟨r, 0, none⟩))).put (some 11) (.pointer (some ⟨r, 1, none⟩))).put (some 13) (.pointer (some ⟨W, 0, none⟩))).put (some 14) (.agg #[.bool c0, .int .i64 c1])).put (some 12) (.slice sa n cap)).put (some 15) (.slice (some ⟨G, 0, none⟩) 1 1)).put (some 16) (.slice (some ⟨g', 0, none⟩) (n + 1) cap')).put (some 17) (.pointer (some ⟨r, 0, none⟩))).put (some 18) (.pointer (some ⟨r, 1, none⟩))) wo) :
    Code.wp Try.prog (.region 1 q1ops true) Q a wm := by
  unfold q1ops
  refine wp_region_held_drew (S := fun w' => Box w' W 44 #[.bool c0, .int .i64 c1, .int .i64 c2, .bool c3, .int .i64 c4, .slice d dl dk]) rfl hc0 (fun hH => ?_)
  have HK : Kept No wm wm.drew ∧ Box wm.drew r 29 #[u, .slice sa n cap] ∧ Own 34 2 wm.drew base sa cap n vs ∧ base ≤ wm.drew.heap.size := ⟨(Kept.refl No wm).drew, hbr, hown.no (Kept.refl No wm).drew, hbase⟩
  generalize wm.drew = wq0 at HK hH ⊢
  refine Wa.aT (i := 0) (oi := q1o0) (v := .pointer (some ⟨r, 0, none⟩)) (fun _ hw => exec_mv rfl (by assumption)) hH ?_ (hQ := fun _ _ _ h => hQ _ _ _ _ _ h)
  refine Wa.aT (i := 1) (oi := q1o1) (v := .pointer (some ⟨r, 0, none⟩)) (fun _ hw => exec_mv rfl (by simp [q1o0, ev_ne, ev_eq, sz_put, put_none, evc, hsz, h0, h3])) hH ?_ (hQ := fun _ _ _ h => hQ _ _ _ _ _ h)
  refine Wa.aT (i := 2) (oi := q1o2) (v := .pointer (some ⟨r, 0, none⟩)) (fun _ hw => exec_nil rfl (by simp [q1o0, q1o1, ev_ne, ev_eq, sz_put, put_none, evc, hsz, h0, h3])) hH ?_ (hQ := fun _ _ _ h => hQ _ _ _ _ _ h)
  refine Wa.aT (i := 3) (oi := q1o3) (v := .pointer (some ⟨r, 1, none⟩)) (fun _ hw => exec_f29_1 rfl (by simp [q1o0, q1o1, q1o2, ev_ne, ev_eq, sz_put, put_none, evc, hsz, h0, h3])) hH ?_ (hQ := fun _ _ _ h => hQ _ _ _ _ _ h)
  refine Wa.aT (i := 5) (oi := q1o5) (v := .pointer (some ⟨W, 0, none⟩)) (fun _ hw => exec_f44_0 rfl (by simp [q1o0, q1o1, q1o2, q1o3, ev_ne, ev_eq, sz_put, put_none, evc, hsz, h0, h3])) hH ?_ (hQ := fun _ _ _ h => hQ _ _ _ _ _ h)
  refine Wa.aT (i := 6) (oi := q1o6) (v := .agg #[.bool c0, .int .i64 c1]) (fun _ hw => Wa.exec_load 34 _ rfl ⟨W, 0, none⟩ (by simp [q1o0, q1o1, q1o2, q1o3, q1o5, ev_ne, ev_eq, sz_put, put_none, evc, hsz, h0, h3]) _ (ld34_0 (rest := [.int .i64 c2, .bool c3, .int .i64 c4, .slice d dl dk]) (c0, c1) hw)) hH ?_ (hQ := fun _ _ _ h => hQ _ _ _ _ _ h)
  have hal : Kept No wq0 (wq0.alloc (.cells #[.bool c0, .int .i64 c1] 34)) := (Kept.refl No _).alloc _
  have hHa : Box (wq0.alloc (.cells #[.bool c0, .int .i64 c1] 34)) W 44 #[.bool c0, .int .i64 c1, .int .i64 c2, .bool c3, .int .i64 c4, .slice d dl dk] := hH.kept hal (fun e => e)
  have hnw : ∀ j u, ([.bool c0, .int .i64 c1] : List Value)[j]? = some u → (wq0.alloc (.cells #[.bool c0, .int .i64 c1] 34)).cell? ((⟨wq0.heap.size, 0, none⟩ : Addr).add j) = some u := cell_newC wq0 34 [.bool c0, .int .i64 c1]
  refine Wa.any_pick (rs := [4, 7]) (by kernel_rfl) (by simp) ?_
  intro ix hix
  rcases Wa.pick2 hix with rfl | rfl
  · clear hix
    refine Wa.step_run (i := 4) (o := q1o4) (v := .slice sa n cap) rfl (by kernel_rfl) (Wa.exec_load 27 _ rfl ⟨r, 1, none⟩ (by simp [q1o0, q1o1, q1o2, q1o3, q1o5, q1o6, ev_ne, ev_eq, sz_put, put_none, evc, hsz, h0, h3]) _ (Wa.load_one (HK.2.1.cell 1) Try.underlying27 rfl)) hH (fun hH => ?_)
    refine Wa.any_step (i := 7) (o := q1o7) rfl (by kernel_rfl) (by kernel_rfl) (exec_bs27 rfl (by simp [q1o0, q1o1, q1o2, q1o3, q1o5, q1o6, q1o4, ev_ne, ev_eq, sz_put, put_none, evc, hsz, h0, h3])) hHa (fun hH => ?_)
    have HB1 := HK.2.1.kept hal (fun e => e)
    have HO1 := HK.2.2.1.no hal
    have HK1 := HK.1.then hal
    have HS1 := Nat.le_trans HK.2.2.2 hal.size
    have HG : wq0.heap.size < (wq0.alloc (.cells #[.bool c0, .int .i64 c1] 34)).heap.size := by simp
    have HG0 : wm.heap.size ≤ wq0.heap.size := HK.1.size
    clear hal
    generalize (wq0.alloc (.cells #[.bool c0, .int .i64 c1] 34)) = w1 at hnw hH HB1 HO1 HK1 HS1 HG hHa ⊢
    clear HK
    generalize wq0.heap.size = G at hnw HG HG0 ⊢
    obtain ⟨g', cap', w2, hr2, hO2, hk2, hg2⟩ := run_app (ty := q1o8.type) (cc := 1) und27 info34 rfl (by omega) HO1 (ad := ⟨G, 0, none⟩) (m := 1) (news := [.bool c0, .int .i64 c1]) rfl hnw (by simp [Value.oneCell']) (by omega) (by omega) (by omega) HS1
    have HB2 : Box w2 r 29 #[u, .slice sa n cap] := HB1.kept hk2 (Own.neBox HO1 HB1 (by decide))
    have hH2 : Box w2 W 44 #[.bool c0, .int .i64 c1, .int .i64 c2, .bool c3, .int .i64 c4, .slice d dl dk] := hH.kept hk2 (Own.neBox HO1 hH (by decide))
    refine Wa.any_step (i := 8) (o := q1o8) (v := .slice (some ⟨g', 0, none⟩) (n + 1) cap') rfl (by kernel_rfl) (by kernel_rfl) (exec_app27 rfl (by simp [q1o0, q1o1, q1o2, q1o3, q1o5, q1o6, q1o4, q1o7, ev_ne, ev_eq, sz_put, put_none, evc, hsz, h0, h3]) (by simp [q1o0, q1o1, q1o2, q1o3, q1o5, q1o6, q1o4, q1o7, ev_ne, ev_eq, sz_put, put_none, evc, hsz, h0, h3]) hr2) hH2 (fun hH => ?_)
    refine Wa.any_step (i := 9) (o := q1o9) (v := .pointer (some ⟨r, 0, none⟩)) rfl (by kernel_rfl) (by kernel_rfl) (exec_nil rfl (by simp [q1o0, q1o1, q1o2, q1o3, q1o5, q1o6, q1o4, q1o7, q1o8, ev_ne, ev_eq, sz_put, put_none, evc, hsz, h0, h3])) hH (fun hH => ?_)
    refine Wa.any_step (i := 10) (o := q1o10) (v := .pointer (some ⟨r, 1, none⟩)) rfl (by kernel_rfl) (by kernel_rfl) (exec_f29_1 rfl (by simp [q1o0, q1o1, q1o2, q1o3, q1o5, q1o6, q1o4, q1o7, q1o8, q1o9, ev_ne, ev_eq, sz_put, put_none, evc, hsz, h0, h3])) hH (fun hH => ?_)
    have hrW : W ≠ r := Wa.box_ne hH HB2 (by decide)
    refine Wa.any_store (i := 11) (o := q1o11) rfl (by kernel_rfl) (by kernel_rfl) 27 _ _ rfl ⟨r, 1, none⟩ (.slice (some ⟨g', 0, none⟩) (n + 1) cap') (by simp [q1o0, q1o1, q1o2, q1o3, q1o5, q1o6, q1o4, q1o7, q1o8, q1o9, q1o10, ev_ne, ev_eq, sz_put, put_none, evc, hsz, h0, h3]) (by simp [q1o0, q1o1, q1o2, q1o3, q1o5, q1o6, q1o4, q1o7, q1o8, q1o9, q1o10, ev_ne, ev_eq, sz_put, put_none, evc, hsz, h0, h3]) (store_29_1 HB2) (hH.kept (Wa.Kept.setRow _ _ _) (fun e => hrW e)) (fun hH => ?_)
    refine wpAnyH_done (by kernel_rfl) ?_ _
    simp only [q1o0, q1o1, q1o2, q1o3, q1o4, q1o5, q1o6, q1o7, q1o8, q1o9, q1o10, q1o11, put_none]
    exact h _ G g' cap' (hO2.kept (Wa.Kept.setRow _ _ _) (fun k e f => Own.neBox hO2 HB2 (by decide) (by have f : k = r := f; rw [← f]; exact e))) (Wa.Box.setRow HB2 _) ((HK1.of_no.then (hk2.mono (fun k _ e => .inr e))).then ((Wa.Kept.setRow _ _ _).mono (fun k _ e => .inl e))) (hg2.imp id (fun e => by have := HK1.size; omega)) hH
  · clear hix
    refine Wa.step_run (i := 7) (o := q1o7) rfl (by kernel_rfl) (exec_bs27 rfl (by simp [q1o0, q1o1, q1o2, q1o3, q1o5, q1o6, ev_ne, ev_eq, sz_put, put_none, evc, hsz, h0, h3])) hHa (fun hH => ?_)
    refine Wa.any_step (i := 4) (o := q1o4) (v := .slice sa n cap) rfl (by kernel_rfl) (by kernel_rfl) (Wa.exec_load 27 _ rfl ⟨r, 1, none⟩ (by simp [q1o0, q1o1, q1o2, q1o3, q1o5, q1o6, q1o7, ev_ne, ev_eq, sz_put, put_none, evc, hsz, h0, h3]) _ (Wa.load_one ((HK.2.1.kept hal (fun e => e)).cell 1) Try.underlying27 rfl)) hH (fun hH => ?_)
    have HB1 := HK.2.1.kept hal (fun e => e)
    have HO1 := HK.2.2.1.no hal
    have HK1 := HK.1.then hal
    have HS1 := Nat.le_trans HK.2.2.2 hal.size
    have HG : wq0.heap.size < (wq0.alloc (.cells #[.bool c0, .int .i64 c1] 34)).heap.size := by simp
    have HG0 : wm.heap.size ≤ wq0.heap.size := HK.1.size
    clear hal
    generalize (wq0.alloc (.cells #[.bool c0, .int .i64 c1] 34)) = w1 at hnw hH HB1 HO1 HK1 HS1 HG hHa ⊢
    clear HK
    generalize wq0.heap.size = G at hnw HG HG0 ⊢
    obtain ⟨g', cap', w2, hr2, hO2, hk2, hg2⟩ := run_app (ty := q1o8.type) (cc := 1) und27 info34 rfl (by omega) HO1 (ad := ⟨G, 0, none⟩) (m := 1) (news := [.bool c0, .int .i64 c1]) rfl hnw (by simp [Value.oneCell']) (by omega) (by omega) (by omega) HS1
    have HB2 : Box w2 r 29 #[u, .slice sa n cap] := HB1.kept hk2 (Own.neBox HO1 HB1 (by decide))
    have hH2 : Box w2 W 44 #[.bool c0, .int .i64 c1, .int .i64 c2, .bool c3, .int .i64 c4, .slice d dl dk] := hH.kept hk2 (Own.neBox HO1 hH (by decide))
    refine Wa.any_step (i := 8) (o := q1o8) (v := .slice (some ⟨g', 0, none⟩) (n + 1) cap') rfl (by kernel_rfl) (by kernel_rfl) (exec_app27 rfl (by simp [q1o0, q1o1, q1o2, q1o3, q1o5, q1o6, q1o7, q1o4, ev_ne, ev_eq, sz_put, put_none, evc, hsz, h0, h3]) (by simp [q1o0, q1o1, q1o2, q1o3, q1o5, q1o6, q1o7, q1o4, ev_ne, ev_eq, sz_put, put_none, evc, hsz, h0, h3]) hr2) hH2 (fun hH => ?_)
    refine Wa.any_step (i := 9) (o := q1o9) (v := .pointer (some ⟨r, 0, none⟩)) rfl (by kernel_rfl) (by kernel_rfl) (exec_nil rfl (by simp [q1o0, q1o1, q1o2, q1o3, q1o5, q1o6, q1o7, q1o4, q1o8, ev_ne, ev_eq, sz_put, put_none, evc, hsz, h0, h3])) hH (fun hH => ?_)
    refine Wa.any_step (i := 10) (o := q1o10) (v := .pointer (some ⟨r, 1, none⟩)) rfl (by kernel_rfl) (by kernel_rfl) (exec_f29_1 rfl (by simp [q1o0, q1o1, q1o2, q1o3, q1o5, q1o6, q1o7, q1o4, q1o8, q1o9, ev_ne, ev_eq, sz_put, put_none, evc, hsz, h0, h3])) hH (fun hH => ?_)
    have hrW : W ≠ r := Wa.box_ne hH HB2 (by decide)
    refine Wa.any_store (i := 11) (o := q1o11) rfl (by kernel_rfl) (by kernel_rfl) 27 _ _ rfl ⟨r, 1, none⟩ (.slice (some ⟨g', 0, none⟩) (n + 1) cap') (by simp [q1o0, q1o1, q1o2, q1o3, q1o5, q1o6, q1o7, q1o4, q1o8, q1o9, q1o10, ev_ne, ev_eq, sz_put, put_none, evc, hsz, h0, h3]) (by simp [q1o0, q1o1, q1o2, q1o3, q1o5, q1o6, q1o7, q1o4, q1o8, q1o9, q1o10, ev_ne, ev_eq, sz_put, put_none, evc, hsz, h0, h3]) (store_29_1 HB2) (hH.kept (Wa.Kept.setRow _ _ _) (fun e => hrW e)) (fun hH => ?_)
    refine wpAnyH_done (by kernel_rfl) ?_ _
    simp only [q1o0, q1o1, q1o2, q1o3, q1o4, q1o5, q1o6, q1o7, q1o8, q1o9, q1o10, q1o11, put_none]
    rw [put_comm 15 12 (by decide)]
    exact h _ G g' cap' (hO2.kept (Wa.Kept.setRow _ _ _) (fun k e f => Own.neBox hO2 HB2 (by decide) (by have f : k = r := f; rw [← f]; exact e))) (Wa.Box.setRow HB2 _) ((HK1.of_no.then (hk2.mono (fun k _ e => .inr e))).then ((Wa.Kept.setRow _ _ _).mono (fun k _ e => .inl e))) (hg2.imp id (fun e => by have := HK1.size; omega)) hH
def q11o0 : Oper := { dst := some 50, op := Op.move (Operand.tmp 0), type := 25, pos := "ref.go:44", after := #[], guard := none }
def q11o1 : Oper := { dst := some 51, op := Op.move (Operand.tmp 0), type := 25, pos := "ref.go:44", after := #[], guard := none }
def q11o2 : Oper := { dst := some 52, op := Op.nilCheck (Operand.tmp 51), type := 0, pos := "ref.go:44", after := #[{ on := 1, ground := Ground.data }], guard := none }
def q11o3 : Oper := { dst := some 53, op := Op.fieldAddr 29 (Operand.tmp 52) 0, type := 0, pos := "ref.go:44", after := #[{ on := 2, ground := Ground.data }], guard := none }
def q11o4 : Oper := { dst := some 54, op := Op.load 26 (Operand.tmp 53), type := 26, pos := "ref.go:44", after := #[{ on := 3, ground := Ground.data }], guard := none }
def q11o5 : Oper := { dst := some 55, op := Op.load 44 (Operand.tmp 3), type := 44, pos := "ref.go:44", after := #[], guard := none }
def q11o6 : Oper := { dst := some 56, op := Op.buildSlice 26 1 #[(0, Operand.tmp 55)], type := 26, pos := "ref.go:44", after := #[{ on := 5, ground := Ground.data }], guard := none }
def q11o7 : Oper := { dst := some 57, op := Op.call { callee := Callee.builtin Builtin.append, args := #[Operand.tmp 54, Operand.tmp 56], argTypes := #[26, 26] }, type := 26, pos := "ref.go:44", after := #[{ on := 4, ground := Ground.data }, { on := 6, ground := Ground.data }], guard := none }
def q11o8 : Oper := { dst := some 58, op := Op.nilCheck (Operand.tmp 50), type := 0, pos := "ref.go:44", after := #[{ on := 0, ground := Ground.data }, { on := 0, ground := Ground.phase }, { on := 1, ground := Ground.phase }, { on := 2, ground := Ground.phase }, { on := 3, ground := Ground.phase }, { on := 4, ground := Ground.phase }, { on := 5, ground := Ground.phase }, { on := 6, ground := Ground.phase }, { on := 7, ground := Ground.phase }], guard := none }
def q11o9 : Oper := { dst := some 59, op := Op.fieldAddr 29 (Operand.tmp 58) 0, type := 0, pos := "ref.go:44", after := #[{ on := 8, ground := Ground.data }, { on := 0, ground := Ground.phase }, { on := 1, ground := Ground.phase }, { on := 2, ground := Ground.phase }, { on := 3, ground := Ground.phase }, { on := 4, ground := Ground.phase }, { on := 5, ground := Ground.phase }, { on := 6, ground := Ground.phase }, { on := 7, ground := Ground.phase }], guard := none }
def q11o10 : Oper := { dst := none, op := Op.store 26 (Operand.tmp 59) (Operand.tmp 57), type := 0, pos := "ref.go:44", after := #[{ on := 9, ground := Ground.data }, { on := 7, ground := Ground.data }, { on := 7, ground := Ground.chain }, { on := 0, ground := Ground.phase }, { on := 1, ground := Ground.phase }, { on := 2, ground := Ground.phase }, { on := 3, ground := Ground.phase }, { on := 4, ground := Ground.phase }, { on := 5, ground := Ground.phase }, { on := 6, ground := Ground.phase }, { on := 7, ground := Ground.phase }], guard := none }
def q11ops : Array Oper := #[q11o0, q11o1, q11o2, q11o3, q11o4, q11o5, q11o6, q11o7, q11o8, q11o9, q11o10]
set_option maxHeartbeats 4000000 in
theorem q11 (a : Act) (r W n cap base : Nat) (c0 c3 : Bool) (c1 c2 c4 : Int) (d : Option Addr) (dl dk : Nat) (sa : Option Addr) (u : Value) (vs : List Value) (wm : World) (Q : Exit → Act → World → Prop) (hsz : a.tmps.size = 61) (h0 : a.eval (.tmp 0) = .pointer (some ⟨r, 0, none⟩)) (h3 : a.eval (.tmp 3) = .pointer (some ⟨W, 0, none⟩)) (hc0 : Box wm W 44 #[.bool c0, .int .i64 c1, .int .i64 c2, .bool c3, .int .i64 c4, .slice d dl dk]) (hbr : Box wm r 29 #[.slice sa n cap, u]) (hown : Own 44 6 wm base sa cap n vs) (hnl : n ≤ 100000000000) (hbase : base ≤ wm.heap.size) (hW : ¬ At sa W) (hQ : ∀ c (a : Act) t v w, Q (.panic c) (a.put t v) w → Q (.panic c) a w)
    (h : ∀ wo G g' cap', Own 44 6 wo base (some ⟨g', 0, none⟩) cap' (n + 1) (vs ++ [.bool c0, .int .i64 c1, .int .i64 c2, .bool c3, .int .i64 c4, .slice d dl dk]) → Box wo r 29 #[.slice (some ⟨g', 0, none⟩) (n + 1) cap', u] → Kept (fun k => k = r ∨ At sa k) wm wo → (At sa g' ∨ wm.heap.size ≤ g') → Box wo W 44 #[.bool c0, .int .i64 c1, .int .i64 c2, .bool c3, .int .i64 c4, .slice d dl dk] → Q .normal ((((((((((a.put (some 50) (.pointer (some ⟨r, 0, none⟩))).put (some 51) (.pointer (some ⟨r, 0, none⟩))).put (some 52) (.pointer (some ⟨r, 0, none⟩))).put (some 53) (.pointer (some ⟨r, 0, none⟩))).put (some 55) (.agg #[.bool c0, .int .i64 c1, .int .i64 c2, .bool c3, .int .i64 c4, .slice d dl dk])).put (some 54) (.slice sa n cap)).put (some 56) (.slice (some ⟨G, 0, none⟩) 1 1)).put (some 57) (.slice (some ⟨g', 0, none⟩) (n + 1) cap')).put (some 58) (.pointer (some ⟨r, 0, none⟩))).put (some 59) (.pointer (some ⟨r, 0, none⟩))) wo) :
    Code.wp Try.prog (.region 11 q11ops true) Q a wm := by
  unfold q11ops
  refine wp_region_held_drew (S := fun w' => Box w' W 44 #[.bool c0, .int .i64 c1, .int .i64 c2, .bool c3, .int .i64 c4, .slice d dl dk]) rfl hc0 (fun hH => ?_)
  have HK : Kept No wm wm.drew ∧ Box wm.drew r 29 #[.slice sa n cap, u] ∧ Own 44 6 wm.drew base sa cap n vs ∧ base ≤ wm.drew.heap.size := ⟨(Kept.refl No wm).drew, hbr, hown.no (Kept.refl No wm).drew, hbase⟩
  generalize wm.drew = wq0 at HK hH ⊢
  refine Wa.aT (i := 0) (oi := q11o0) (v := .pointer (some ⟨r, 0, none⟩)) (fun _ hw => exec_mv rfl (by assumption)) hH ?_ (hQ := fun _ _ _ h => hQ _ _ _ _ _ h)
  refine Wa.aT (i := 1) (oi := q11o1) (v := .pointer (some ⟨r, 0, none⟩)) (fun _ hw => exec_mv rfl (by simp [q11o0, ev_ne, ev_eq, sz_put, put_none, evc, hsz, h0, h3])) hH ?_ (hQ := fun _ _ _ h => hQ _ _ _ _ _ h)
  refine Wa.aT (i := 2) (oi := q11o2) (v := .pointer (some ⟨r, 0, none⟩)) (fun _ hw => exec_nil rfl (by simp [q11o0, q11o1, ev_ne, ev_eq, sz_put, put_none, evc, hsz, h0, h3])) hH ?_ (hQ := fun _ _ _ h => hQ _ _ _ _ _ h)
  refine Wa.aT (i := 3) (oi := q11o3) (v := .pointer (some ⟨r, 0, none⟩)) (fun _ hw => exec_f29_0 rfl (by simp [q11o0, q11o1, q11o2, ev_ne, ev_eq, sz_put, put_none, evc, hsz, h0, h3])) hH ?_ (hQ := fun _ _ _ h => hQ _ _ _ _ _ h)
  refine Wa.aT (i := 5) (oi := q11o5) (v := .agg #[.bool c0, .int .i64 c1, .int .i64 c2, .bool c3, .int .i64 c4, .slice d dl dk]) (fun _ hw => Wa.exec_load 44 _ rfl ⟨W, 0, none⟩ (by simp [q11o0, q11o1, q11o2, q11o3, ev_ne, ev_eq, sz_put, put_none, evc, hsz, h0, h3]) _ (ld44 hw)) hH ?_ (hQ := fun _ _ _ h => hQ _ _ _ _ _ h)
  have hal : Kept No wq0 (wq0.alloc (.cells #[.bool c0, .int .i64 c1, .int .i64 c2, .bool c3, .int .i64 c4, .slice d dl dk] 44)) := (Kept.refl No _).alloc _
  have hHa : Box (wq0.alloc (.cells #[.bool c0, .int .i64 c1, .int .i64 c2, .bool c3, .int .i64 c4, .slice d dl dk] 44)) W 44 #[.bool c0, .int .i64 c1, .int .i64 c2, .bool c3, .int .i64 c4, .slice d dl dk] := hH.kept hal (fun e => e)
  have hnw : ∀ j u, ([.bool c0, .int .i64 c1, .int .i64 c2, .bool c3, .int .i64 c4, .slice d dl dk] : List Value)[j]? = some u → (wq0.alloc (.cells #[.bool c0, .int .i64 c1, .int .i64 c2, .bool c3, .int .i64 c4, .slice d dl dk] 44)).cell? ((⟨wq0.heap.size, 0, none⟩ : Addr).add j) = some u := cell_newC wq0 44 [.bool c0, .int .i64 c1, .int .i64 c2, .bool c3, .int .i64 c4, .slice d dl dk]
  refine Wa.any_pick (rs := [4, 6]) (by kernel_rfl) (by simp) ?_
  intro ix hix
  rcases Wa.pick2 hix with rfl | rfl
  · clear hix
    refine Wa.step_run (i := 4) (o := q11o4) (v := .slice sa n cap) rfl (by kernel_rfl) (Wa.exec_load 26 _ rfl ⟨r, 0, none⟩ (by simp [q11o0, q11o1, q11o2, q11o3, q11o5, ev_ne, ev_eq, sz_put, put_none, evc, hsz, h0, h3]) _ (Wa.load_one (HK.2.1.cell 0) Try.underlying26 rfl)) hH (fun hH => ?_)
    refine Wa.any_step (i := 6) (o := q11o6) rfl (by kernel_rfl) (by kernel_rfl) (exec_bs26 rfl (by simp [q11o0, q11o1, q11o2, q11o3, q11o5, q11o4, ev_ne, ev_eq, sz_put, put_none, evc, hsz, h0, h3])) hHa (fun hH => ?_)
    have HB1 := HK.2.1.kept hal (fun e => e)
    have HO1 := HK.2.2.1.no hal
    have HK1 := HK.1.then hal
    have HS1 := Nat.le_trans HK.2.2.2 hal.size
    have HG : wq0.heap.size < (wq0.alloc (.cells #[.bool c0, .int .i64 c1, .int .i64 c2, .bool c3, .int .i64 c4, .slice d dl dk] 44)).heap.size := by simp
    have HG0 : wm.heap.size ≤ wq0.heap.size := HK.1.size
    clear hal
    generalize (wq0.alloc (.cells #[.bool c0, .int .i64 c1, .int .i64 c2, .bool c3, .int .i64 c4, .slice d dl dk] 44)) = w1 at hnw hH HB1 HO1 HK1 HS1 HG hHa ⊢
    clear HK
    generalize wq0.heap.size = G at hnw HG HG0 ⊢
    obtain ⟨g', cap', w2, hr2, hO2, hk2, hg2⟩ := run_app (ty := q11o7.type) (cc := 1) und26 info44 rfl (by omega) HO1 (ad := ⟨G, 0, none⟩) (m := 1) (news := [.bool c0, .int .i64 c1, .int .i64 c2, .bool c3, .int .i64 c4, .slice d dl dk]) rfl hnw (by simp [Value.oneCell']) (by omega) (by omega) (by omega) HS1
    have HB2 : Box w2 r 29 #[.slice sa n cap, u] := HB1.kept hk2 (Own.neBox HO1 HB1 (by decide))
    have hH2 : Box w2 W 44 #[.bool c0, .int .i64 c1, .int .i64 c2, .bool c3, .int .i64 c4, .slice d dl dk] := hH.kept hk2 (fun e => hW e)
    refine Wa.any_step (i := 7) (o := q11o7) (v := .slice (some ⟨g', 0, none⟩) (n + 1) cap') rfl (by kernel_rfl) (by kernel_rfl) (exec_app26 rfl (by simp [q11o0, q11o1, q11o2, q11o3, q11o5, q11o4, q11o6, ev_ne, ev_eq, sz_put, put_none, evc, hsz, h0, h3]) (by simp [q11o0, q11o1, q11o2, q11o3, q11o5, q11o4, q11o6, ev_ne, ev_eq, sz_put, put_none, evc, hsz, h0, h3]) hr2) hH2 (fun hH => ?_)
    refine Wa.any_step (i := 8) (o := q11o8) (v := .pointer (some ⟨r, 0, none⟩)) rfl (by kernel_rfl) (by kernel_rfl) (exec_nil rfl (by simp [q11o0, q11o1, q11o2, q11o3, q11o5, q11o4, q11o6, q11o7, ev_ne, ev_eq, sz_put, put_none, evc, hsz, h0, h3])) hH (fun hH => ?_)
    refine Wa.any_step (i := 9) (o := q11o9) (v := .pointer (some ⟨r, 0, none⟩)) rfl (by kernel_rfl) (by kernel_rfl) (exec_f29_0 rfl (by simp [q11o0, q11o1, q11o2, q11o3, q11o5, q11o4, q11o6, q11o7, q11o8, ev_ne, ev_eq, sz_put, put_none, evc, hsz, h0, h3])) hH (fun hH => ?_)
    have hrW : W ≠ r := Wa.box_ne hH HB2 (by decide)
    refine Wa.any_store (i := 10) (o := q11o10) rfl (by kernel_rfl) (by kernel_rfl) 26 _ _ rfl ⟨r, 0, none⟩ (.slice (some ⟨g', 0, none⟩) (n + 1) cap') (by simp [q11o0, q11o1, q11o2, q11o3, q11o5, q11o4, q11o6, q11o7, q11o8, q11o9, ev_ne, ev_eq, sz_put, put_none, evc, hsz, h0, h3]) (by simp [q11o0, q11o1, q11o2, q11o3, q11o5, q11o4, q11o6, q11o7, q11o8, q11o9, ev_ne, ev_eq, sz_put, put_none, evc, hsz, h0, h3]) (store_29_0 HB2) (hH.kept (Wa.Kept.setRow _ _ _) (fun e => hrW e)) (fun hH => ?_)
    refine wpAnyH_done (by kernel_rfl) ?_ _
    simp only [q11o0, q11o1, q11o2, q11o3, q11o4, q11o5, q11o6, q11o7, q11o8, q11o9, q11o10, put_none]
    exact h _ G g' cap' (hO2.kept (Wa.Kept.setRow _ _ _) (fun k e f => Own.neBox hO2 HB2 (by decide) (by have f : k = r := f; rw [← f]; exact e))) (Wa.Box.setRow HB2 _) ((HK1.of_no.then (hk2.mono (fun k _ e => .inr e))).then ((Wa.Kept.setRow _ _ _).mono (fun k _ e => .inl e))) (hg2.imp id (fun e => by have := HK1.size; omega)) hH
  · clear hix
    refine Wa.step_run (i := 6) (o := q11o6) rfl (by kernel_rfl) (exec_bs26 rfl (by simp [q11o0, q11o1, q11o2, q11o3, q11o5, ev_ne, ev_eq, sz_put, put_none, evc, hsz, h0, h3])) hHa (fun hH => ?_)
    refine Wa.any_step (i := 4) (o := q11o4) (v := .slice sa n cap) rfl (by kernel_rfl) (by kernel_rfl) (Wa.exec_load 26 _ rfl ⟨r, 0, none⟩ (by simp [q11o0, q11o1, q11o2, q11o3, q11o5, q11o6, ev_ne, ev_eq, sz_put, put_none, evc, hsz, h0, h3]) _ (Wa.load_one ((HK.2.1.kept hal (fun e => e)).cell 0) Try.underlying26 rfl)) hH (fun hH => ?_)
    have HB1 := HK.2.1.kept hal (fun e => e)
    have HO1 := HK.2.2.1.no hal
    have HK1 := HK.1.then hal
    have HS1 := Nat.le_trans HK.2.2.2 hal.size
    have HG : wq0.heap.size < (wq0.alloc (.cells #[.bool c0, .int .i64 c1, .int .i64 c2, .bool c3, .int .i64 c4, .slice d dl dk] 44)).heap.size := by simp
    have HG0 : wm.heap.size ≤ wq0.heap.size := HK.1.size
    clear hal
    generalize (wq0.alloc (.cells #[.bool c0, .int .i64 c1, .int .i64 c2, .bool c3, .int .i64 c4, .slice d dl dk] 44)) = w1 at hnw hH HB1 HO1 HK1 HS1 HG hHa ⊢
    clear HK
    generalize wq0.heap.size = G at hnw HG HG0 ⊢
    obtain ⟨g', cap', w2, hr2, hO2, hk2, hg2⟩ := run_app (ty := q11o7.type) (cc := 1) und26 info44 rfl (by omega) HO1 (ad := ⟨G, 0, none⟩) (m := 1) (news := [.bool c0, .int .i64 c1, .int .i64 c2, .bool c3, .int .i64 c4, .slice d dl dk]) rfl hnw (by simp [Value.oneCell']) (by omega) (by omega) (by omega) HS1
    have HB2 : Box w2 r 29 #[.slice sa n cap, u] := HB1.kept hk2 (Own.neBox HO1 HB1 (by decide))
    have hH2 : Box w2 W 44 #[.bool c0, .int .i64 c1, .int .i64 c2, .bool c3, .int .i64 c4, .slice d dl dk] := hH.kept hk2 (fun e => hW e)
    refine Wa.any_step (i := 7) (o := q11o7) (v := .slice (some ⟨g', 0, none⟩) (n + 1) cap') rfl (by kernel_rfl) (by kernel_rfl) (exec_app26 rfl (by simp [q11o0, q11o1, q11o2, q11o3, q11o5, q11o6, q11o4, ev_ne, ev_eq, sz_put, put_none, evc, hsz, h0, h3]) (by simp [q11o0, q11o1, q11o2, q11o3, q11o5, q11o6, q11o4, ev_ne, ev_eq, sz_put, put_none, evc, hsz, h0, h3]) hr2) hH2 (fun hH => ?_)
    refine Wa.any_step (i := 8) (o := q11o8) (v := .pointer (some ⟨r, 0, none⟩)) rfl (by kernel_rfl) (by kernel_rfl) (exec_nil rfl (by simp [q11o0, q11o1, q11o2, q11o3, q11o5, q11o6, q11o4, q11o7, ev_ne, ev_eq, sz_put, put_none, evc, hsz, h0, h3])) hH (fun hH => ?_)
    refine Wa.any_step (i := 9) (o := q11o9) (v := .pointer (some ⟨r, 0, none⟩)) rfl (by kernel_rfl) (by kernel_rfl) (exec_f29_0 rfl (by simp [q11o0, q11o1, q11o2, q11o3, q11o5, q11o6, q11o4, q11o7, q11o8, ev_ne, ev_eq, sz_put, put_none, evc, hsz, h0, h3])) hH (fun hH => ?_)
    have hrW : W ≠ r := Wa.box_ne hH HB2 (by decide)
    refine Wa.any_store (i := 10) (o := q11o10) rfl (by kernel_rfl) (by kernel_rfl) 26 _ _ rfl ⟨r, 0, none⟩ (.slice (some ⟨g', 0, none⟩) (n + 1) cap') (by simp [q11o0, q11o1, q11o2, q11o3, q11o5, q11o6, q11o4, q11o7, q11o8, q11o9, ev_ne, ev_eq, sz_put, put_none, evc, hsz, h0, h3]) (by simp [q11o0, q11o1, q11o2, q11o3, q11o5, q11o6, q11o4, q11o7, q11o8, q11o9, ev_ne, ev_eq, sz_put, put_none, evc, hsz, h0, h3]) (store_29_0 HB2) (hH.kept (Wa.Kept.setRow _ _ _) (fun e => hrW e)) (fun hH => ?_)
    refine wpAnyH_done (by kernel_rfl) ?_ _
    simp only [q11o0, q11o1, q11o2, q11o3, q11o4, q11o5, q11o6, q11o7, q11o8, q11o9, q11o10, put_none]
    rw [put_comm 56 54 (by decide)]
    exact h _ G g' cap' (hO2.kept (Wa.Kept.setRow _ _ _) (fun k e f => Own.neBox hO2 HB2 (by decide) (by have f : k = r := f; rw [← f]; exact e))) (Wa.Box.setRow HB2 _) ((HK1.of_no.then (hk2.mono (fun k _ e => .inr e))).then ((Wa.Kept.setRow _ _ _).mono (fun k _ e => .inl e))) (hg2.imp id (fun e => by have := HK1.size; omega)) hH
def q6o0 : Oper := { dst := some 29, op := Op.move (Operand.tmp 0), type := 25, pos := "ref.go:79", after := #[], guard := none }
def q6o1 : Oper := { dst := some 30, op := Op.move (Operand.tmp 0), type := 25, pos := "ref.go:79", after := #[], guard := none }
def q6o2 : Oper := { dst := some 31, op := Op.nilCheck (Operand.tmp 30), type := 0, pos := "ref.go:79", after := #[{ on := 1, ground := Ground.data }], guard := none }
def q6o3 : Oper := { dst := some 32, op := Op.fieldAddr 29 (Operand.tmp 31) 0, type := 0, pos := "ref.go:79", after := #[{ on := 2, ground := Ground.data }], guard := none }
def q6o4 : Oper := { dst := some 33, op := Op.load 26 (Operand.tmp 32), type := 26, pos := "ref.go:79", after := #[{ on := 3, ground := Ground.data }], guard := none }
def q6o5 : Oper := { dst := some 34, op := Op.load 44 (Operand.tmp 8), type := 44, pos := "ref.go:79", after := #[], guard := none }
def q6o6 : Oper := { dst := some 35, op := Op.buildSlice 26 1 #[(0, Operand.tmp 34)], type := 26, pos := "ref.go:79", after := #[{ on := 5, ground := Ground.data }], guard := none }
def q6o7 : Oper := { dst := some 36, op := Op.call { callee := Callee.builtin Builtin.append, args := #[Operand.tmp 33, Operand.tmp 35], argTypes := #[26, 26] }, type := 26, pos := "ref.go:79", after := #[{ on := 4, ground := Ground.data }, { on := 6, ground := Ground.data }], guard := none }
def q6o8 : Oper := { dst := some 37, op := Op.nilCheck (Operand.tmp 29), type := 0, pos := "ref.go:79", after := #[{ on := 0, ground := Ground.data }, { on := 0, ground := Ground.phase }, { on := 1, ground := Ground.phase }, { on := 2, ground := Ground.phase }, { on := 3, ground := Ground.phase }, { on := 4, ground := Ground.phase }, { on := 5, ground := Ground.phase }, { on := 6, ground := Ground.phase }, { on := 7, ground := Ground.phase }], guard := none }
def q6o9 : Oper := { dst := some 38, op := Op.fieldAddr 29 (Operand.tmp 37) 0, type := 0, pos := "ref.go:79", after := #[{ on := 8, ground := Ground.data }, { on := 0, ground := Ground.phase }, { on := 1, ground := Ground.phase }, { on := 2, ground := Ground.phase }, { on := 3, ground := Ground.phase }, { on := 4, ground := Ground.phase }, { on := 5, ground := Ground.phase }, { on := 6, ground := Ground.phase }, { on := 7, ground := Ground.phase }], guard := none }
def q6o10 : Oper := { dst := none, op := Op.store 26 (Operand.tmp 38) (Operand.tmp 36), type := 0, pos := "ref.go:79", after := #[{ on := 9, ground := Ground.data }, { on := 7, ground := Ground.data }, { on := 7, ground := Ground.chain }, { on := 0, ground := Ground.phase }, { on := 1, ground := Ground.phase }, { on := 2, ground := Ground.phase }, { on := 3, ground := Ground.phase }, { on := 4, ground := Ground.phase }, { on := 5, ground := Ground.phase }, { on := 6, ground := Ground.phase }, { on := 7, ground := Ground.phase }], guard := none }
def q6ops : Array Oper := #[q6o0, q6o1, q6o2, q6o3, q6o4, q6o5, q6o6, q6o7, q6o8, q6o9, q6o10]
set_option maxHeartbeats 4000000 in
theorem q6 (a : Act) (r W n cap base : Nat) (c0 c3 : Bool) (c1 c2 c4 : Int) (d : Option Addr) (dl dk : Nat) (sa : Option Addr) (u : Value) (vs : List Value) (wm : World) (Q : Exit → Act → World → Prop) (hsz : a.tmps.size = 39) (h0 : a.eval (.tmp 0) = .pointer (some ⟨r, 0, none⟩)) (h8 : a.eval (.tmp 8) = .pointer (some ⟨W, 0, none⟩)) (hc0 : Box wm W 44 #[.bool c0, .int .i64 c1, .int .i64 c2, .bool c3, .int .i64 c4, .slice d dl dk]) (hbr : Box wm r 29 #[.slice sa n cap, u]) (hown : Own 44 6 wm base sa cap n vs) (hnl : n ≤ 100000000000) (hbase : base ≤ wm.heap.size) (hW : ¬ At sa W) (hQ : ∀ c (a : Act) t v w, Q (.panic c) (a.put t v) w → Q (.panic c) a w)
    (h : ∀ wo G g' cap', Own 44 6 wo base (some ⟨g', 0, none⟩) cap' (n + 1) (vs ++ [.bool c0, .int .i64 c1, .int .i64 c2, .bool c3, .int .i64 c4, .slice d dl dk]) → Box wo r 29 #[.slice (some ⟨g', 0, none⟩) (n + 1) cap', u] → Kept (fun k => k = r ∨ At sa k) wm wo → (At sa g' ∨ wm.heap.size ≤ g') → Box wo W 44 #[.bool c0, .int .i64 c1, .int .i64 c2, .bool c3, .int .i64 c4, .slice d dl dk] → Q .normal ((((((((((a.put (some 29) (.pointer (some ⟨r, 0, none⟩))).put (some 30) (.pointer (some ⟨r, 0, none⟩))).put (some 31) (.pointer (some ⟨r, 0, none⟩))).put (some 32) (.pointer (some ⟨r, 0, none⟩))).put (some 34) (.agg #[.bool c0, .int .i64 c1, .int .i64 c2, .bool c3, .int .i64 c4, .slice d dl dk])).put (some 33) (.slice sa n cap)).put (some 35) (.slice (some ⟨G, 0, none⟩) 1 1)).put (some 36) (.slice (some ⟨g', 0, none⟩) (n + 1) cap')).put (some 37) (.pointer (some ⟨r, 0, none⟩))).put (some 38) (.pointer (some ⟨r, 0, none⟩))) wo) :
    Code.wp Try.prog (.region 6 q6ops true) Q a wm := by
  unfold q6ops
  refine wp_region_held_drew (S := fun w' => Box w' W 44 #[.bool c0, .int .i64 c1, .int .i64 c2, .bool c3, .int .i64 c4, .slice d dl dk]) rfl hc0 (fun hH => ?_)
  have HK : Kept No wm wm.drew ∧ Box wm.drew r 29 #[.slice sa n cap, u] ∧ Own 44 6 wm.drew base sa cap n vs ∧ base ≤ wm.drew.heap.size := ⟨(Kept.refl No wm).drew, hbr, hown.no (Kept.refl No wm).drew, hbase⟩
  generalize wm.drew = wq0 at HK hH ⊢
  refine Wa.aT (i := 0) (oi := q6o0) (v := .pointer (some ⟨r, 0, none⟩)) (fun _ hw => exec_mv rfl (by assumption)) hH ?_ (hQ := fun _ _ _ h => hQ _ _ _ _ _ h)
  refine Wa.aT (i := 1) (oi := q6o1) (v := .pointer (some ⟨r, 0, none⟩)) (fun _ hw => exec_mv rfl (by simp [q6o0, ev_ne, ev_eq, sz_put, put_none, evc, hsz, h0, h8])) hH ?_ (hQ := fun _ _ _ h => hQ _ _ _ _ _ h)
  refine Wa.aT (i := 2) (oi := q6o2) (v := .pointer (some ⟨r, 0, none⟩)) (fun _ hw => exec_nil rfl (by simp [q6o0, q6o1, ev_ne, ev_eq, sz_put, put_none, evc, hsz, h0, h8])) hH ?_ (hQ := fun _ _ _ h => hQ _ _ _ _ _ h)
  refine Wa.aT (i := 3) (oi := q6o3) (v := .pointer (some ⟨r, 0, none⟩)) (fun _ hw => exec_f29_0 rfl (by simp [q6o0, q6o1, q6o2, ev_ne, ev_eq, sz_put, put_none, evc, hsz, h0, h8])) hH ?_ (hQ := fun _ _ _ h => hQ _ _ _ _ _ h)
  refine Wa.aT (i := 5) (oi := q6o5) (v := .agg #[.bool c0, .int .i64 c1, .int .i64 c2, .bool c3, .int .i64 c4, .slice d dl dk]) (fun _ hw => Wa.exec_load 44 _ rfl ⟨W, 0, none⟩ (by simp [q6o0, q6o1, q6o2, q6o3, ev_ne, ev_eq, sz_put, put_none, evc, hsz, h0, h8]) _ (ld44 hw)) hH ?_ (hQ := fun _ _ _ h => hQ _ _ _ _ _ h)
  have hal : Kept No wq0 (wq0.alloc (.cells #[.bool c0, .int .i64 c1, .int .i64 c2, .bool c3, .int .i64 c4, .slice d dl dk] 44)) := (Kept.refl No _).alloc _
  have hHa : Box (wq0.alloc (.cells #[.bool c0, .int .i64 c1, .int .i64 c2, .bool c3, .int .i64 c4, .slice d dl dk] 44)) W 44 #[.bool c0, .int .i64 c1, .int .i64 c2, .bool c3, .int .i64 c4, .slice d dl dk] := hH.kept hal (fun e => e)
  have hnw : ∀ j u, ([.bool c0, .int .i64 c1, .int .i64 c2, .bool c3, .int .i64 c4, .slice d dl dk] : List Value)[j]? = some u → (wq0.alloc (.cells #[.bool c0, .int .i64 c1, .int .i64 c2, .bool c3, .int .i64 c4, .slice d dl dk] 44)).cell? ((⟨wq0.heap.size, 0, none⟩ : Addr).add j) = some u := cell_newC wq0 44 [.bool c0, .int .i64 c1, .int .i64 c2, .bool c3, .int .i64 c4, .slice d dl dk]
  refine Wa.any_pick (rs := [4, 6]) (by kernel_rfl) (by simp) ?_
  intro ix hix
  rcases Wa.pick2 hix with rfl | rfl
  · clear hix
    refine Wa.step_run (i := 4) (o := q6o4) (v := .slice sa n cap) rfl (by kernel_rfl) (Wa.exec_load 26 _ rfl ⟨r, 0, none⟩ (by simp [q6o0, q6o1, q6o2, q6o3, q6o5, ev_ne, ev_eq, sz_put, put_none, evc, hsz, h0, h8]) _ (Wa.load_one (HK.2.1.cell 0) Try.underlying26 rfl)) hH (fun hH => ?_)
    refine Wa.any_step (i := 6) (o := q6o6) rfl (by kernel_rfl) (by kernel_rfl) (exec_bs26 rfl (by simp [q6o0, q6o1, q6o2, q6o3, q6o5, q6o4, ev_ne, ev_eq, sz_put, put_none, evc, hsz, h0, h8])) hHa (fun hH => ?_)
    have HB1 := HK.2.1.kept hal (fun e => e)
    have HO1 := HK.2.2.1.no hal
    have HK1 := HK.1.then hal
    have HS1 := Nat.le_trans HK.2.2.2 hal.size
    have HG : wq0.heap.size < (wq0.alloc (.cells #[.bool c0, .int .i64 c1, .int .i64 c2, .bool c3, .int .i64 c4, .slice d dl dk] 44)).heap.size := by simp
    have HG0 : wm.heap.size ≤ wq0.heap.size := HK.1.size
    clear hal
    generalize (wq0.alloc (.cells #[.bool c0, .int .i64 c1, .int .i64 c2, .bool c3, .int .i64 c4, .slice d dl dk] 44)) = w1 at hnw hH HB1 HO1 HK1 HS1 HG hHa ⊢
    clear HK
    generalize wq0.heap.size = G at hnw HG HG0 ⊢
    obtain ⟨g', cap', w2, hr2, hO2, hk2, hg2⟩ := run_app (ty := q6o7.type) (cc := 1) und26 info44 rfl (by omega) HO1 (ad := ⟨G, 0, none⟩) (m := 1) (news := [.bool c0, .int .i64 c1, .int .i64 c2, .bool c3, .int .i64 c4, .slice d dl dk]) rfl hnw (by simp [Value.oneCell']) (by omega) (by omega) (by omega) HS1
    have HB2 : Box w2 r 29 #[.slice sa n cap, u] := HB1.kept hk2 (Own.neBox HO1 HB1 (by decide))
    have hH2 : Box w2 W 44 #[.bool c0, .int .i64 c1, .int .i64 c2, .bool c3, .int .i64 c4, .slice d dl dk] := hH.kept hk2 (fun e => hW e)
    refine Wa.any_step (i := 7) (o := q6o7) (v := .slice (some ⟨g', 0, none⟩) (n + 1) cap') rfl (by kernel_rfl) (by kernel_rfl) (exec_app26 rfl (by simp [q6o0, q6o1, q6o2, q6o3, q6o5, q6o4, q6o6, ev_ne, ev_eq, sz_put, put_none, evc, hsz, h0, h8]) (by simp [q6o0, q6o1, q6o2, q6o3, q6o5, q6o4, q6o6, ev_ne, ev_eq, sz_put, put_none, evc, hsz, h0, h8]) hr2) hH2 (fun hH => ?_)
    refine Wa.any_step (i := 8) (o := q6o8) (v := .pointer (some ⟨r, 0, none⟩)) rfl (by kernel_rfl) (by kernel_rfl) (exec_nil rfl (by simp [q6o0, q6o1, q6o2, q6o3, q6o5, q6o4, q6o6, q6o7, ev_ne, ev_eq, sz_put, put_none, evc, hsz, h0, h8])) hH (fun hH => ?_)
    refine Wa.any_step (i := 9) (o := q6o9) (v := .pointer (some ⟨r, 0, none⟩)) rfl (by kernel_rfl) (by kernel_rfl) (exec_f29_0 rfl (by simp [q6o0, q6o1, q6o2, q6o3, q6o5, q6o4, q6o6, q6o7, q6o8, ev_ne, ev_eq, sz_put, put_none, evc, hsz, h0, h8])) hH (fun hH => ?_)
    have hrW : W ≠ r := Wa.box_ne hH HB2 (by decide)
    refine Wa.any_store (i := 10) (o := q6o10) rfl (by kernel_rfl) (by kernel_rfl) 26 _ _ rfl ⟨r, 0, none⟩ (.slice (some ⟨g', 0, none⟩) (n + 1) cap') (by simp [q6o0, q6o1, q6o2, q6o3, q6o5, q6o4, q6o6, q6o7, q6o8, q6o9, ev_ne, ev_eq, sz_put, put_none, evc, hsz, h0, h8]) (by simp [q6o0, q6o1, q6o2, q6o3, q6o5, q6o4, q6o6, q6o7, q6o8, q6o9, ev_ne, ev_eq, sz_put, put_none, evc, hsz, h0, h8]) (store_29_0 HB2) (hH.kept (Wa.Kept.setRow _ _ _) (fun e => hrW e)) (fun hH => ?_)
    refine wpAnyH_done (by kernel_rfl) ?_ _
    simp only [q6o0, q6o1, q6o2, q6o3, q6o4, q6o5, q6o6, q6o7, q6o8, q6o9, q6o10, put_none]
    exact h _ G g' cap' (hO2.kept (Wa.Kept.setRow _ _ _) (fun k e f => Own.neBox hO2 HB2 (by decide) (by have f : k = r := f; rw [← f]; exact e))) (Wa.Box.setRow HB2 _) ((HK1.of_no.then (hk2.mono (fun k _ e => .inr e))).then ((Wa.Kept.setRow _ _ _).mono (fun k _ e => .inl e))) (hg2.imp id (fun e => by have := HK1.size; omega)) hH
  · clear hix
    refine Wa.step_run (i := 6) (o := q6o6) rfl (by kernel_rfl) (exec_bs26 rfl (by simp [q6o0, q6o1, q6o2, q6o3, q6o5, ev_ne, ev_eq, sz_put, put_none, evc, hsz, h0, h8])) hHa (fun hH => ?_)
    refine Wa.any_step (i := 4) (o := q6o4) (v := .slice sa n cap) rfl (by kernel_rfl) (by kernel_rfl) (Wa.exec_load 26 _ rfl ⟨r, 0, none⟩ (by simp [q6o0, q6o1, q6o2, q6o3, q6o5, q6o6, ev_ne, ev_eq, sz_put, put_none, evc, hsz, h0, h8]) _ (Wa.load_one ((HK.2.1.kept hal (fun e => e)).cell 0) Try.underlying26 rfl)) hH (fun hH => ?_)
    have HB1 := HK.2.1.kept hal (fun e => e)
    have HO1 := HK.2.2.1.no hal
    have HK1 := HK.1.then hal
    have HS1 := Nat.le_trans HK.2.2.2 hal.size
    have HG : wq0.heap.size < (wq0.alloc (.cells #[.bool c0, .int .i64 c1, .int .i64 c2, .bool c3, .int .i64 c4, .slice d dl dk] 44)).heap.size := by simp
    have HG0 : wm.heap.size ≤ wq0.heap.size := HK.1.size
    clear hal
    generalize (wq0.alloc (.cells #[.bool c0, .int .i64 c1, .int .i64 c2, .bool c3, .int .i64 c4, .slice d dl dk] 44)) = w1 at hnw hH HB1 HO1 HK1 HS1 HG hHa ⊢
    clear HK
    generalize wq0.heap.size = G at hnw HG HG0 ⊢
    obtain ⟨g', cap', w2, hr2, hO2, hk2, hg2⟩ := run_app (ty := q6o7.type) (cc := 1) und26 info44 rfl (by omega) HO1 (ad := ⟨G, 0, none⟩) (m := 1) (news := [.bool c0, .int .i64 c1, .int .i64 c2, .bool c3, .int .i64 c4, .slice d dl dk]) rfl hnw (by simp [Value.oneCell']) (by omega) (by omega) (by omega) HS1
    have HB2 : Box w2 r 29 #[.slice sa n cap, u] := HB1.kept hk2 (Own.neBox HO1 HB1 (by decide))
    have hH2 : Box w2 W 44 #[.bool c0, .int .i64 c1, .int .i64 c2, .bool c3, .int .i64 c4, .slice d dl dk] := hH.kept hk2 (fun e => hW e)
    refine Wa.any_step (i := 7) (o := q6o7) (v := .slice (some ⟨g', 0, none⟩) (n + 1) cap') rfl (by kernel_rfl) (by kernel_rfl) (exec_app26 rfl (by simp [q6o0, q6o1, q6o2, q6o3, q6o5, q6o6, q6o4, ev_ne, ev_eq, sz_put, put_none, evc, hsz, h0, h8]) (by simp [q6o0, q6o1, q6o2, q6o3, q6o5, q6o6, q6o4, ev_ne, ev_eq, sz_put, put_none, evc, hsz, h0, h8]) hr2) hH2 (fun hH => ?_)
    refine Wa.any_step (i := 8) (o := q6o8) (v := .pointer (some ⟨r, 0, none⟩)) rfl (by kernel_rfl) (by kernel_rfl) (exec_nil rfl (by simp [q6o0, q6o1, q6o2, q6o3, q6o5, q6o6, q6o4, q6o7, ev_ne, ev_eq, sz_put, put_none, evc, hsz, h0, h8])) hH (fun hH => ?_)
    refine Wa.any_step (i := 9) (o := q6o9) (v := .pointer (some ⟨r, 0, none⟩)) rfl (by kernel_rfl) (by kernel_rfl) (exec_f29_0 rfl (by simp [q6o0, q6o1, q6o2, q6o3, q6o5, q6o6, q6o4, q6o7, q6o8, ev_ne, ev_eq, sz_put, put_none, evc, hsz, h0, h8])) hH (fun hH => ?_)
    have hrW : W ≠ r := Wa.box_ne hH HB2 (by decide)
    refine Wa.any_store (i := 10) (o := q6o10) rfl (by kernel_rfl) (by kernel_rfl) 26 _ _ rfl ⟨r, 0, none⟩ (.slice (some ⟨g', 0, none⟩) (n + 1) cap') (by simp [q6o0, q6o1, q6o2, q6o3, q6o5, q6o6, q6o4, q6o7, q6o8, q6o9, ev_ne, ev_eq, sz_put, put_none, evc, hsz, h0, h8]) (by simp [q6o0, q6o1, q6o2, q6o3, q6o5, q6o6, q6o4, q6o7, q6o8, q6o9, ev_ne, ev_eq, sz_put, put_none, evc, hsz, h0, h8]) (store_29_0 HB2) (hH.kept (Wa.Kept.setRow _ _ _) (fun e => hrW e)) (fun hH => ?_)
    refine wpAnyH_done (by kernel_rfl) ?_ _
    simp only [q6o0, q6o1, q6o2, q6o3, q6o4, q6o5, q6o6, q6o7, q6o8, q6o9, q6o10, put_none]
    rw [put_comm 35 33 (by decide)]
    exact h _ G g' cap' (hO2.kept (Wa.Kept.setRow _ _ _) (fun k e f => Own.neBox hO2 HB2 (by decide) (by have f : k = r := f; rw [← f]; exact e))) (Wa.Box.setRow HB2 _) ((HK1.of_no.then (hk2.mono (fun k _ e => .inr e))).then ((Wa.Kept.setRow _ _ _).mono (fun k _ e => .inl e))) (hg2.imp id (fun e => by have := HK1.size; omega)) hH
end Go.Proofs.Ytphiokehcgbldaa
