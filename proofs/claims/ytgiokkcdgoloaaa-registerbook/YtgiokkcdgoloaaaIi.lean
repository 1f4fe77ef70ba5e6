import Derived.Test.YtgiokkcdgoloaaaIh
namespace Go.Proofs.Ytgiokkcdgoloaaa
open Go.RowKit
set_option linter.unusedVariables false
set_option linter.unusedSimpArgs false

def r23o0 : Oper := { dst := some 81, op := Op.move (Operand.tmp 10), type := 69, pos := "own.go:47", after := #[], guard := none }
def r23o1 : Oper := { dst := some 82, op := Op.move (Operand.tmp 12), type := 3, pos := "own.go:47", after := #[], guard := none }
def r23o2 : Oper := { dst := some 83, op := Op.indexAddr 69 (Operand.tmp 81) (Operand.tmp 82), type := 0, pos := "own.go:47", after := #[{ on := 0, ground := Ground.data }, { on := 1, ground := Ground.data }], guard := none }
def r23o3 : Oper := { dst := some 84, op := Op.load 31 (Operand.tmp 83), type := 31, pos := "own.go:47", after := #[{ on := 2, ground := Ground.data }], guard := none }
def r23o4 : Oper := { dst := some 85, op := Op.load 52 (Operand.tmp 16), type := 52, pos := "own.go:47", after := #[], guard := none }
def r23o5 : Oper := { dst := some 86, op := Op.call { callee := Callee.invoke (Operand.tmp 84) "Take", args := #[Operand.tmp 85], argTypes := #[52] }, type := 71, pos := "own.go:47", after := #[{ on := 3, ground := Ground.data }, { on := 4, ground := Ground.data }], guard := none }
def r23o6 : Oper := { dst := some 13, op := Op.assign (Operand.tmp 86), type := 71, pos := "own.go:47", after := #[{ on := 5, ground := Ground.data }, { on := 5, ground := Ground.chain }, { on := 0, ground := Ground.phase }, { on := 1, ground := Ground.phase }, { on := 2, ground := Ground.phase }, { on := 3, ground := Ground.phase }, { on := 4, ground := Ground.phase }, { on := 5, ground := Ground.phase }], guard := none }
theorem exec_as {o : Oper} {a : Act} {w : World} {x : Operand} {v : Value} (ho : o.op = .assign x) (hx : a.eval x = v) : (execOp a.eval o).run Try.prog w = .ok (.value v) w := by
  simp [execOp, ho, hx]
theorem call85 (f : Operand → Value) (p : Option Addr) (v : Value) (w : World) (h1 : f (.tmp 84) = .iface 115 (.pointer p)) (h2 : f (.tmp 85) = v) : (execOp f r23o5).run Try.prog w = .ok (.enter 85 #[.pointer p, v]) w := by
  simp [execOp, r23o5, resolve, h1, h2]
  kernel_rfl
theorem und69 : Try.prog.underlying 69 = some (.slice (Try.prog.elem 69)) := by kernel_rfl
theorem size69 : (Try.prog.info? (Try.prog.elem 69)).map (·.size) = some 1 := by kernel_rfl
theorem ixA69 {o : Oper} {a : Act} {w : World} {x y : Operand} (d : Unit) (ho : o.op = .indexAddr 69 x y) (b i : Nat) (hx : a.eval x = .slice (some ⟨b, 0, none⟩) 3 3) (hy : a.eval y = .int .i64 i) (hi : i < 3) : (execOp a.eval o).run Try.prog w = .ok (.value (.pointer (some ⟨b, i, none⟩))) w := by
  have h := Wa.exec_ixA (w := w) 69 1 und69 size69 x y ho b 0 3 3 i hx hy hi
  simpa using h
theorem Ai.noX {X P : Nat → Prop} {p : Par} {w0 : World} {rg : Nat} {ms : Nat → Nat} {i ph : Nat} {ra : Option Addr} {rc : Nat} {K : List Gx.Ent} {I : Nat → Nat → Prop} {Z : Nat → List Int} {W : World} (h : Ai X P p w0 rg ms i ph ra rc K I Z W) : Ai No P p w0 rg ms i ph ra rc K I Z W :=
  ⟨h.st, fun j hj k e => ⟨(h.bd j hj k e).1, (h.bd j hj k e).2.1, (h.bd j hj k e).2.2.1, (h.bd j hj k e).2.2.2.1, fun f => f⟩, h.tk, h.ap, h.er, h.row, h.rl, h.mr, h.rb, h.kp, fun k e => e.elim, h.po⟩
theorem Tq.noX {w0 : World} {P X : Nat → Prop} {p : Par} {i : Nat} {la : Option Addr} {ln lc B : Nat} {x : MS} {hq : Qh} {qs : List Qm} {W : World} (h : Tq w0 P X p i la ln lc x hq qs B W) : Tq w0 P No p i la ln lc x hq qs B W :=
  ⟨h.ms, h.bs, h.ql, h.tl, fun q hqm j e => ⟨(h.pq q hqm j e).1, fun f => f⟩, fun j e f => f⟩
def r23ops : Array Oper := #[r23o0, r23o1, r23o2, r23o3, r23o4, r23o5, r23o6]
set_option maxRecDepth 100000 in
set_option maxHeartbeats 4000000 in
theorem r23 (a : Act) (rg g6 i mi : Nat) (d : MD) (w : World) (Q : Exit → Act → World → Prop) (hsz : a.tmps.size = 222) (h10 : a.eval (.tmp 10) = .slice (some ⟨rg, 0, none⟩) 3 3) (h12 : a.eval (.tmp 12) = .int .i64 (i : Int)) (h16 : a.eval (.tmp 16) = .pointer (some ⟨g6, 0, none⟩)) (hi : i < 3) (hok : MdOk d)
    (hB : Box w g6 52 d.cells) (hc : w.cell? ⟨rg, i, none⟩ = some (.iface 115 (.pointer (some ⟨mi, 0, none⟩)))) (hQ : ∀ c (a : Act) t v w, Q (.panic c) (a.put t v) w → Q (.panic c) a w) (C : Ending → World → Prop) (hC : Calls Try.prog 85 #[.pointer (some ⟨mi, 0, none⟩), .agg d.cells] w.drew C)
    (h : ∀ e w', C e w' → ∃ la ln lc, e = .returned (.slice la ln lc) ∧ (Box w' g6 52 d.cells ∧ w'.cell? ⟨rg, i, none⟩ = some (.iface 115 (.pointer (some ⟨mi, 0, none⟩)))) ∧ Q .normal (((((((a.put (some 81) (.slice (some ⟨rg, 0, none⟩) 3 3)).put (some 82) (.int .i64 (i : Int))).put (some 83) (.pointer (some ⟨rg, i, none⟩))).put (some 84) (.iface 115 (.pointer (some ⟨mi, 0, none⟩)))).put (some 85) (.agg d.cells)).put (some 86) (.slice la ln lc)).put (some 13) (.slice la ln lc)) w') :
    Code.wp Try.prog (.region 23 r23ops true) Q a w := by
  unfold r23ops
  refine wp_region_held_drew (S := fun w' => Box w' g6 52 d.cells ∧ w'.cell? ⟨rg, i, none⟩ = some (.iface 115 (.pointer (some ⟨mi, 0, none⟩)))) rfl ⟨hB, hc⟩ (fun hH => ?_)
  refine Wa.aT (i := 0) (oi := r23o0) (v := .slice (some ⟨rg, 0, none⟩) 3 3) (fun _ _ => exec_mv rfl h10) hH ?_ (hQ := fun _ _ _ h => hQ _ _ _ _ _ h)
  refine Wa.aT (i := 1) (oi := r23o1) (v := .int .i64 (i : Int)) (fun _ _ => exec_mv rfl (by simp [r23o0, ev_ne, ev_eq, sz_put, hsz, h10, h12, h16])) hH ?_ (hQ := fun _ _ _ h => hQ _ _ _ _ _ h)
  refine Wa.aT (i := 2) (oi := r23o2) (v := .pointer (some ⟨rg, i, none⟩)) (fun _ _ => ixA69 () rfl rg i (by simp [r23o0, r23o1, ev_ne, ev_eq, sz_put, hsz, h10, h12, h16]) (by simp [r23o0, r23o1, ev_ne, ev_eq, sz_put, hsz, h10, h12, h16]) hi) hH ?_ (hQ := fun _ _ _ h => hQ _ _ _ _ _ h)
  refine Wa.aT (i := 3) (oi := r23o3) (v := .iface 115 (.pointer (some ⟨mi, 0, none⟩))) (fun w' hw => Wa.exec_load 31 _ rfl ⟨rg, i, none⟩ (by simp [r23o0, r23o1, r23o2, ev_ne, ev_eq, sz_put, hsz, h10, h12, h16]) _ (Wa.load_one hw.2 Try.underlying31 rfl)) hH ?_ (hQ := fun _ _ _ h => hQ _ _ _ _ _ h)
  refine Wa.aT (i := 4) (oi := r23o4) (v := .agg d.cells) (fun w' hw => Wa.exec_load 52 _ rfl ⟨g6, 0, none⟩ (by simp [r23o0, r23o1, r23o2, r23o3, ev_ne, ev_eq, sz_put, hsz, h10, h12, h16]) _ (run_loadS g6 d w' hw.1 hok)) hH ?_ (hQ := fun _ _ _ h => hQ _ _ _ _ _ h)
  refine Wa.any_call (i := 5) (o := r23o5) rfl (by kernel_rfl) (by kernel_rfl) 85 #[.pointer (some ⟨mi, 0, none⟩), .agg d.cells] (call85 _ _ _ _ (by simp [r23o0, r23o1, r23o2, r23o3, r23o4, ev_ne, ev_eq, sz_put, hsz]) (by simp [r23o0, r23o1, r23o2, r23o3, r23o4, ev_ne, ev_eq, sz_put, hsz])) C hC ?_
  intro e w' hCe
  obtain ⟨la, ln, lc, rfl, hS, hq⟩ := h e w' hCe
  refine ⟨_, rfl, hS, fun hH => ?_⟩
  refine Wa.aT (i := 6) (oi := r23o6) (v := .slice la ln lc) (fun _ _ => exec_as rfl (by simp [r23o0, r23o1, r23o2, r23o3, r23o4, r23o5, ev_ne, ev_eq, sz_put, hsz])) hH ?_ (hQ := fun _ _ _ h => hQ _ _ _ _ _ h)
  refine wpAnyH_done (by kernel_rfl) ?_ _
  exact hq

end Go.Proofs.Ytgiokkcdgoloaaa
