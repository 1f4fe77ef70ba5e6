import Derived.Test.YtphiokehcgbldaaNc
namespace Go.Proofs.Ytphiokehcgbldaa
open Go.RowKit
set_option linter.unusedVariables false
set_option linter.unusedSimpArgs false

theorem Box.neMap {K : Type} [DecidableEq K] {mk : K → Value} {w : World} {n b : Nat} {T : TypeId} {cs : Array Value} {g : K → Option Value} (h : Box w n T cs) (hm : MapG mk w b g) : n ≠ b := fun e => by
  subst e
  obtain ⟨es, c, hb, _⟩ := hm
  have h' : w.heap[n]? = some (.cells cs T (0, 0)) := h
  rw [h'] at hb
  cases hb
/-- A map at a key. -/
def LkG {K : Type} [DecidableEq K] (mk : K → Value) (w : World) (b : Nat) (q : K) (z v : Value) : Prop := ∃ g, MapG mk w b g ∧ (g q).getD z = v
/-- A map (or none) at a key. -/
def LkV {K : Type} [DecidableEq K] (mk : K → Value) (w : World) (mv : Value) (q : K) (ov : Option Value) : Prop := (mv = .map none ∧ ov = none) ∨ ∃ b g, mv = .map (some b) ∧ MapG mk w b g ∧ g q = ov
theorem LkV.kept {K : Type} [DecidableEq K] {mk : K → Value} {S : Nat → Prop} {w w' : World} {mv : Value} {q : K} {ov : Option Value} (h : LkV mk w mv q ov) (hk : Kept S w w') (hS : ∀ b, mv = .map (some b) → ¬ S b) : LkV mk w' mv q ov := by
  rcases h with h | ⟨b, g, h1, h2, h3⟩
  · exact .inl h
  · exact .inr ⟨b, g, h1, h2.kept hk (hS b h1), h3⟩
theorem exec_lookV {K : Type} [DecidableEq K] {mk : K → Value} {k t e : TypeId} (H : KeyG k mk) {o : Oper} {a : Act} {w : World} {x y : Operand} {v mv : Value} {q : K} {ov : Option Value} (hm : LkV mk w mv q ov) (ht : Try.prog.underlying t = some (.map k e)) {z : Value} (hz : (zeroValue e).run Try.prog w = .ok z w) (ok : Bool) (ho : o.op = .lookup t x y ok) (hx : a.eval x = mv) (hy : a.eval y = mk q) (hv : tupOk (ov.getD z) ov.isSome ok = v) : (execOp a.eval o).run Try.prog w = .ok (.value v) w := by
  rcases hm with ⟨rfl, rfl⟩ | ⟨b, g, rfl, hg, rfl⟩
  · exact exec_lookN H ht hz q ok ho hx hy hv
  · exact exec_look H hg ht hz q ok ho hx hy hv
theorem ld34_0 {w : World} {g : Nat} {T : TypeId} {rest : List Value} (a : Ad) (hb : Box w g T (Value.bool a.1 :: Value.int .i64 a.2 :: rest).toArray) : (loadVar 34 ⟨g, 0, none⟩).run Try.prog w = .ok (mkA a) w :=
  ld34 a hb (fun j v h => by
    match j, h with
    | 0, h => exact h
    | 1, h => exact h
    | j + 2, h => simp at h)
theorem ld34_3 {w : World} {g : Nat} {T : TypeId} {x y z : Value} {rest : List Value} (a : Ad) (hb : Box w g T (x :: y :: z :: Value.bool a.1 :: Value.int .i64 a.2 :: rest).toArray) : (loadVar 34 ⟨g, 3, none⟩).run Try.prog w = .ok (mkA a) w :=
  ld34 a hb (fun j v h => by
    match j, h with
    | 0, h => exact h
    | 1, h => exact h
    | j + 2, h => simp at h)
theorem store_81 {w : World} {A : Nat} {c0 c1 c2 pv v2 : Value} (hb : Box w A 81 #[c0, c1, c2, pv]) (hv : v2.cells = #[v2]) (h1 : v2.oneCell' = true) : (storeVar 57 ⟨A, 3, none⟩ v2).run Try.prog w = .ok () (w.setRow A #[c0, c1, c2, v2]) :=
  Wa.run_store_at (cur := [c0, c1, c2, pv]) (vs := [v2]) hb hv (by kernel_rfl) (by simp) (fun v hv => by rw [List.mem_singleton.1 hv]; exact h1)
theorem any_do {ops : Array Oper} {o : Oper} {a : Act} {w w' : World} {Q : Exit → Act → World → Prop} {md : Region.Mode} {S : World → Prop} {i : Nat} {fuel : Nat} {listed : Array Bool} (hi : ops[i]? = some o) (hr : Region.ready md ops listed = [i]) (hw : Region.wanted o (yielded ops a.tmps) = true)
    (hrun : (execOp a.eval o).run Try.prog w = .ok .skip w') (hS : S w') (h : S w' → wpAnyH Try.prog md ops Q S fuel (listed.setIfInBounds i true) (a.put o.dst undef) w') : wpAnyH Try.prog md ops Q S (fuel + 1) listed a w := by
  refine wpAnyH_ready hr (by simp) (AllReadyH.cons hi (fun K hK => ?_) AllReadyH.nil)
  rw [if_pos hw]
  unfold Oper.wp
  rw [hrun, Oper.upon_skip]
  exact hK.out _ _ hS h
section
variable {o : Oper} {a : Act} {w w' : World} {x y z : Operand} {v : Value}
theorem exec_entry {K : Type} [DecidableEq K] {mk : K → Value} {t : TypeId} {b : Nat} {q : K} (ho : o.op = .mapEntry t x y) (hx : a.eval x = .map (some b)) (hy : a.eval y = mk q) (hrun : (Instr.mapEntry t (.map (some b)) (mk q)).run Try.prog w = .ok v w') : (execOp a.eval o).run Try.prog w = .ok (.value v) w' := by
  simp [execOp, ho, hx, hy, hrun, Result.andThen]
theorem exec_estore {t : TypeId} {b : Nat} {s : Int} (ho : o.op = .entryStore t x y z) (hx : a.eval x = .map (some b)) (hy : a.eval y = .int .i64 s) (hz : a.eval z = v) (hrun : (Instr.entryStore t (.map (some b)) (.int .i64 s) v).run Try.prog w = .ok () w') : (execOp a.eval o).run Try.prog w = .ok .skip w' := by
  simp [execOp, ho, hx, hy, hz, hrun, Result.andThen]
theorem exec_upd {K : Type} [DecidableEq K] {mk : K → Value} {t : TypeId} {b : Nat} {q : K} (ho : o.op = .mapUpdate t x y z) (hx : a.eval x = .map (some b)) (hy : a.eval y = mk q) (hz : a.eval z = v) (hrun : (Instr.mapUpdate t (.map (some b)) (mk q) v).run Try.prog w = .ok () w') : (execOp a.eval o).run Try.prog w = .ok .skip w' := by
  simp [execOp, ho, hx, hy, hz, hrun, Result.andThen]
theorem exec_b76 {p q : Ad} (ho : o.op = .build 76 #[(0, x), (1, y)]) (hx : a.eval x = mkA p) (hy : a.eval y = mkA q) : (execOp a.eval o).run Try.prog w = .ok (.value (mkP (p, q))) w := by
  refine Wa.exec_build 76 _ ho _ ?_
  simp only [List.map_toArray, List.map_cons, List.map_nil, hx, hy]
  kernel_rfl
theorem exec_b79 {p : Ad} {c : Int} (ho : o.op = .build 79 #[(0, x), (1, y)]) (hx : a.eval x = mkA p) (hy : a.eval y = .int .i64 c) : (execOp a.eval o).run Try.prog w = .ok (.value (mkN (p, c))) w := by
  refine Wa.exec_build 79 _ ho _ ?_
  simp only [List.map_toArray, List.map_cons, List.map_nil, hx, hy]
  kernel_rfl
theorem exec_b81 {p : Ad} {d : Option Addr} {l c : Nat} (ho : o.op = .build 81 #[(0, x), (1, y)]) (hx : a.eval x = mkA p) (hy : a.eval y = .slice d l c) : (execOp a.eval o).run Try.prog w = .ok (.value (.agg #[.bool p.1, .int .i64 p.2, .slice d l c, .slice none 0 0])) w := by
  refine Wa.exec_build 81 _ ho _ ?_
  simp only [List.map_toArray, List.map_cons, List.map_nil, hx, hy]
  kernel_rfl
theorem exec_b44 {p q : Ad} {d : Option Addr} {l c : Nat} {k : Int} {u : Operand} (ho : o.op = .build 44 #[(0, x), (1, y), (2, z), (3, u)]) (hx : a.eval x = mkA p) (hy : a.eval y = .int .i64 k) (hz : a.eval z = mkA q) (hu : a.eval u = .slice d l c) : (execOp a.eval o).run Try.prog w = .ok (.value (.agg #[.bool p.1, .int .i64 p.2, .int .i64 k, .bool q.1, .int .i64 q.2, .slice d l c])) w := by
  refine Wa.exec_build 44 _ ho _ ?_
  simp only [List.map_toArray, List.map_cons, List.map_nil, hx, hy, hz, hu]
  kernel_rfl
theorem exec_bs57 {c : Int} (ho : o.op = .buildSlice 57 1 #[(0, x)]) (hx : a.eval x = .int .i64 c) : (execOp a.eval o).run Try.prog w = .ok (.value (.slice (some ⟨w.heap.size, 0, none⟩) 1 1)) (w.alloc (.cells #[.int .i64 c] 3)) := by
  simp only [execOp, ho, List.map_toArray, List.map_cons, List.map_nil, hx]
  kernel_rfl
theorem exec_app57 {u1 u2 : Value} (ho : o.op = .call { callee := .builtin .append, args := #[x, y], argTypes := #[57, 57] }) (hx : a.eval x = u1) (hy : a.eval y = u2) (hrun : (Builtin.append_ #[57, 57] o.type #[u1, u2]).run Try.prog w = .ok v w') : (execOp a.eval o).run Try.prog w = .ok (.value v) w' := by
  subst hx hy
  simp [execOp, ho, resolve, invoke, builtin, hrun, Result.andThen]
theorem exec_c35 {u1 : Value} (ho : o.op = .call { callee := .value (.func 35), args := #[x], argTypes := #[35] }) (hx : a.eval x = u1) : (execOp a.eval o).run Try.prog w = .ok (.enter 35 #[u1]) w := by
  subst hx
  simp only [execOp, ho]
  kernel_rfl
theorem exec_c34 {u1 u2 u3 : Value} (ho : o.op = .call { callee := .value (.func 34), args := #[x, y, z], argTypes := #[23, 79, 81] }) (hx : a.eval x = u1) (hy : a.eval y = u2) (hz : a.eval z = u3) : (execOp a.eval o).run Try.prog w = .ok (.enter 34 #[u1, u2, u3]) w := by
  subst hx hy hz
  simp only [execOp, ho]
  kernel_rfl
theorem exec_del {t k : TypeId} {u1 u2 : Value} (ho : o.op = .call { callee := .builtin .delete, args := #[x, y], argTypes := #[t, k] }) (hx : a.eval x = u1) (hy : a.eval y = u2) (hrun : (Builtin.delete_ #[t, k] o.type #[u1, u2]).run Try.prog w = .ok (.tuple #[]) w') : (execOp a.eval o).run Try.prog w = .ok (.value (.tuple #[])) w' := by
  have h := hrun
  subst hx hy
  simp [execOp, ho, resolve, invoke, builtin, h, Result.andThen]
end

def c2o0 : Oper := { dst := some 13, op := Op.move (Operand.tmp 0), type := 23, pos := "way.go:32", after := #[], guard := none }
def c2o1 : Oper := { dst := some 14, op := Op.nilCheck (Operand.tmp 13), type := 0, pos := "way.go:32", after := #[{ on := 0, ground := Ground.data }], guard := none }
def c2o2 : Oper := { dst := some 15, op := Op.fieldAddr 69 (Operand.tmp 14) 1, type := 0, pos := "way.go:32", after := #[{ on := 1, ground := Ground.data }], guard := none }
def c2o3 : Oper := { dst := some 16, op := Op.load 66 (Operand.tmp 15), type := 66, pos := "way.go:32", after := #[{ on := 2, ground := Ground.data }], guard := none }
def c2o4 : Oper := { dst := some 17, op := Op.load 76 (Operand.tmp 7), type := 76, pos := "way.go:32", after := #[], guard := none }
def c2o5 : Oper := { dst := some 18, op := Op.lookup 66 (Operand.tmp 16) (Operand.tmp 17) false, type := 3, pos := "way.go:32", after := #[{ on := 3, ground := Ground.data }, { on := 4, ground := Ground.data }], guard := none }
def c2o6 : Oper := { dst := some 19, op := Op.binOp BinOp.geq 3 (Operand.tmp 18) (Operand.const (Value.int IntKind.i64 64)) 3, type := 4, pos := "way.go:32", after := #[{ on := 5, ground := Ground.data }], guard := none }
def c2ops : Array Oper := #[c2o0, c2o1, c2o2, c2o3, c2o4, c2o5, c2o6]
set_option maxRecDepth 100000 in
set_option maxHeartbeats 4000000 in
theorem c2 (a : Act) (n W b c : Nat) (q : Pr) (m0 m2 m3 : Value) (wm : World) (Q : Exit → Act → World → Prop) (hsz : a.tmps.size = 51) (h0 : a.eval (.tmp 0) = .pointer (some ⟨n, 0, none⟩)) (h7 : a.eval (.tmp 7) = .pointer (some ⟨W, 0, none⟩)) (hc0 : Box wm n 69 #[m0, .map (some b), m2, m3]) (hc1 : Box wm W 76 #[.bool q.1.1, .int .i64 q.1.2, .bool q.2.1, .int .i64 q.2.2]) (hc2 : LkG mkP wm b q (.int .i64 0) (.int .i64 (c : Nat)))  (hQ : ∀ c (a : Act) t v w, Q (.panic c) (a.put t v) w → Q (.panic c) a w)
    (h : ∀ wo, Kept No wm wo → Q .normal (((((((a.put (some 13) (.pointer (some ⟨n, 0, none⟩))).put (some 14) (.pointer (some ⟨n, 0, none⟩))).put (some 15) (.pointer (some ⟨n, 1, none⟩))).put (some 16) (.map (some b))).put (some 17) (mkP q)).put (some 18) (.int .i64 (c : Nat))).put (some 19) (.bool (decide (64 ≤ c)))) wo) :
    Code.wp Try.prog (.region 2 c2ops true) Q a wm := by
  unfold c2ops
  refine wp_region_held_drew (S := fun w' => Box w' n 69 #[m0, .map (some b), m2, m3] ∧ Box w' W 76 #[.bool q.1.1, .int .i64 q.1.2, .bool q.2.1, .int .i64 q.2.2] ∧ LkG mkP w' b q (.int .i64 0) (.int .i64 (c : Nat))) rfl ⟨hc0, hc1, hc2⟩ (fun hH => ?_)
  refine Wa.aT (i := 0) (oi := c2o0) (v := .pointer (some ⟨n, 0, none⟩)) (fun _ hw => exec_mv rfl (by assumption)) hH ?_ (hQ := fun _ _ _ h => hQ _ _ _ _ _ h)
  refine Wa.aT (i := 1) (oi := c2o1) (v := .pointer (some ⟨n, 0, none⟩)) (fun _ hw => exec_nil rfl (by simp [c2o0, ev_ne, ev_eq, sz_put, put_none, evc, hsz, h0, h7])) hH ?_ (hQ := fun _ _ _ h => hQ _ _ _ _ _ h)
  refine Wa.aT (i := 2) (oi := c2o2) (v := .pointer (some ⟨n, 1, none⟩)) (fun _ hw => exec_f69_1 rfl (by simp [c2o0, c2o1, ev_ne, ev_eq, sz_put, put_none, evc, hsz, h0, h7])) hH ?_ (hQ := fun _ _ _ h => hQ _ _ _ _ _ h)
  refine Wa.aT (i := 3) (oi := c2o3) (v := .map (some b)) (fun _ hw => Wa.exec_load 66 _ rfl ⟨n, 1, none⟩ (by simp [c2o0, c2o1, c2o2, ev_ne, ev_eq, sz_put, put_none, evc, hsz, h0, h7]) _ (Wa.load_one (hw.1.cell 1) Try.underlying66 rfl)) hH ?_ (hQ := fun _ _ _ h => hQ _ _ _ _ _ h)
  refine Wa.any_step (i := 4) (o := c2o4) (v := mkP q) rfl (by kernel_rfl) (by kernel_rfl) (Wa.exec_load 76 _ rfl ⟨W, 0, none⟩ (by simp [c2o0, c2o1, c2o2, c2o3, ev_ne, ev_eq, sz_put, put_none, evc, hsz, h0, h7]) _ (ld76 q hH.2.1)) hH (fun hH => ?_)
  refine Wa.any_step (i := 5) (o := c2o5) (v := .int .i64 (c : Nat)) rfl (by kernel_rfl) (by kernel_rfl) ((by obtain ⟨g, hg, hv⟩ := hH.2.2; exact exec_look keyP hg und66 (zer3 _) q false rfl (by simp [c2o0, c2o1, c2o2, c2o3, c2o4, ev_ne, ev_eq, sz_put, put_none, evc, hsz, h0, h7]) (by simp [c2o0, c2o1, c2o2, c2o3, c2o4, ev_ne, ev_eq, sz_put, put_none, evc, hsz, h0, h7]) hv)) hH (fun hH => ?_)
  refine Wa.any_step (i := 6) (o := c2o6) (v := .bool (decide (64 ≤ c))) rfl (by kernel_rfl) (by kernel_rfl) (exec_ge64 rfl (by simp [c2o0, c2o1, c2o2, c2o3, c2o4, c2o5, ev_ne, ev_eq, sz_put, put_none, evc, hsz, h0, h7])) hH (fun hH => ?_)
  refine wpAnyH_done (by kernel_rfl) ?_ _
  simp only [c2o0, c2o1, c2o2, c2o3, c2o4, c2o5, c2o6, put_none]
  exact h _ (Kept.refl No wm).drew
def l10o0 : Oper := { dst := some 54, op := Op.move (Operand.tmp 0), type := 23, pos := "way.go:54", after := #[], guard := none }
def l10o1 : Oper := { dst := some 55, op := Op.nilCheck (Operand.tmp 54), type := 0, pos := "way.go:54", after := #[{ on := 0, ground := Ground.data }], guard := none }
def l10o2 : Oper := { dst := some 56, op := Op.fieldAddr 69 (Operand.tmp 55) 1, type := 0, pos := "way.go:54", after := #[{ on := 1, ground := Ground.data }], guard := none }
def l10o3 : Oper := { dst := some 57, op := Op.load 66 (Operand.tmp 56), type := 66, pos := "way.go:54", after := #[{ on := 2, ground := Ground.data }], guard := none }
def l10o4 : Oper := { dst := some 58, op := Op.load 76 (Operand.tmp 8), type := 76, pos := "way.go:54", after := #[], guard := none }
def l10o5 : Oper := { dst := some 59, op := Op.lookup 66 (Operand.tmp 57) (Operand.tmp 58) false, type := 3, pos := "way.go:54", after := #[{ on := 3, ground := Ground.data }, { on := 4, ground := Ground.data }], guard := none }
def l10o6 : Oper := { dst := some 60, op := Op.binOp BinOp.eql 3 (Operand.tmp 59) (Operand.const (Value.int IntKind.i64 0)) 3, type := 4, pos := "way.go:54", after := #[{ on := 5, ground := Ground.data }], guard := none }
def l10ops : Array Oper := #[l10o0, l10o1, l10o2, l10o3, l10o4, l10o5, l10o6]
set_option maxRecDepth 100000 in
set_option maxHeartbeats 4000000 in
theorem l10 (a : Act) (n W b c : Nat) (q : Pr) (m0 m2 m3 : Value) (wm : World) (Q : Exit → Act → World → Prop) (hsz : a.tmps.size = 67) (h0 : a.eval (.tmp 0) = .pointer (some ⟨n, 0, none⟩)) (h8 : a.eval (.tmp 8) = .pointer (some ⟨W, 0, none⟩)) (hc0 : Box wm n 69 #[m0, .map (some b), m2, m3]) (hc1 : Box wm W 76 #[.bool q.1.1, .int .i64 q.1.2, .bool q.2.1, .int .i64 q.2.2]) (hc2 : LkG mkP wm b q (.int .i64 0) (.int .i64 (c : Nat)))  (hQ : ∀ c (a : Act) t v w, Q (.panic c) (a.put t v) w → Q (.panic c) a w)
    (h : ∀ wo, Kept No wm wo → Q .normal (((((((a.put (some 54) (.pointer (some ⟨n, 0, none⟩))).put (some 55) (.pointer (some ⟨n, 0, none⟩))).put (some 56) (.pointer (some ⟨n, 1, none⟩))).put (some 57) (.map (some b))).put (some 58) (mkP q)).put (some 59) (.int .i64 (c : Nat))).put (some 60) (.bool (decide (c = 0)))) wo) :
    Code.wp Try.prog (.region 10 l10ops true) Q a wm := by
  unfold l10ops
  refine wp_region_held_drew (S := fun w' => Box w' n 69 #[m0, .map (some b), m2, m3] ∧ Box w' W 76 #[.bool q.1.1, .int .i64 q.1.2, .bool q.2.1, .int .i64 q.2.2] ∧ LkG mkP w' b q (.int .i64 0) (.int .i64 (c : Nat))) rfl ⟨hc0, hc1, hc2⟩ (fun hH => ?_)
  refine Wa.aT (i := 0) (oi := l10o0) (v := .pointer (some ⟨n, 0, none⟩)) (fun _ hw => exec_mv rfl (by assumption)) hH ?_ (hQ := fun _ _ _ h => hQ _ _ _ _ _ h)
  refine Wa.aT (i := 1) (oi := l10o1) (v := .pointer (some ⟨n, 0, none⟩)) (fun _ hw => exec_nil rfl (by simp [l10o0, ev_ne, ev_eq, sz_put, put_none, evc, hsz, h0, h8])) hH ?_ (hQ := fun _ _ _ h => hQ _ _ _ _ _ h)
  refine Wa.aT (i := 2) (oi := l10o2) (v := .pointer (some ⟨n, 1, none⟩)) (fun _ hw => exec_f69_1 rfl (by simp [l10o0, l10o1, ev_ne, ev_eq, sz_put, put_none, evc, hsz, h0, h8])) hH ?_ (hQ := fun _ _ _ h => hQ _ _ _ _ _ h)
  refine Wa.aT (i := 3) (oi := l10o3) (v := .map (some b)) (fun _ hw => Wa.exec_load 66 _ rfl ⟨n, 1, none⟩ (by simp [l10o0, l10o1, l10o2, ev_ne, ev_eq, sz_put, put_none, evc, hsz, h0, h8]) _ (Wa.load_one (hw.1.cell 1) Try.underlying66 rfl)) hH ?_ (hQ := fun _ _ _ h => hQ _ _ _ _ _ h)
  refine Wa.any_step (i := 4) (o := l10o4) (v := mkP q) rfl (by kernel_rfl) (by kernel_rfl) (Wa.exec_load 76 _ rfl ⟨W, 0, none⟩ (by simp [l10o0, l10o1, l10o2, l10o3, ev_ne, ev_eq, sz_put, put_none, evc, hsz, h0, h8]) _ (ld76 q hH.2.1)) hH (fun hH => ?_)
  refine Wa.any_step (i := 5) (o := l10o5) (v := .int .i64 (c : Nat)) rfl (by kernel_rfl) (by kernel_rfl) ((by obtain ⟨g, hg, hv⟩ := hH.2.2; exact exec_look keyP hg und66 (zer3 _) q false rfl (by simp [l10o0, l10o1, l10o2, l10o3, l10o4, ev_ne, ev_eq, sz_put, put_none, evc, hsz, h0, h8]) (by simp [l10o0, l10o1, l10o2, l10o3, l10o4, ev_ne, ev_eq, sz_put, put_none, evc, hsz, h0, h8]) hv)) hH (fun hH => ?_)
  refine Wa.any_step (i := 6) (o := l10o6) (v := .bool (decide (c = 0))) rfl (by kernel_rfl) (by kernel_rfl) (exec_eq0 rfl (by simp [l10o0, l10o1, l10o2, l10o3, l10o4, l10o5, ev_ne, ev_eq, sz_put, put_none, evc, hsz, h0, h8])) hH (fun hH => ?_)
  refine wpAnyH_done (by kernel_rfl) ?_ _
  simp only [l10o0, l10o1, l10o2, l10o3, l10o4, l10o5, l10o6, put_none]
  exact h _ (Kept.refl No wm).drew
def c5o0 : Oper := { dst := some 27, op := Op.move (Operand.tmp 0), type := 23, pos := "way.go:36", after := #[], guard := none }
def c5o1 : Oper := { dst := some 28, op := Op.nilCheck (Operand.tmp 27), type := 0, pos := "way.go:36", after := #[{ on := 0, ground := Ground.data }], guard := none }
def c5o2 : Oper := { dst := some 29, op := Op.fieldAddr 69 (Operand.tmp 28) 1, type := 0, pos := "way.go:36", after := #[{ on := 1, ground := Ground.data }], guard := none }
def c5o3 : Oper := { dst := some 30, op := Op.load 66 (Operand.tmp 29), type := 66, pos := "way.go:36", after := #[{ on := 2, ground := Ground.data }], guard := none }
def c5o4 : Oper := { dst := some 31, op := Op.load 76 (Operand.tmp 7), type := 76, pos := "way.go:36", after := #[], guard := none }
def c5o5 : Oper := { dst := some 32, op := Op.lookup 66 (Operand.tmp 30) (Operand.tmp 31) false, type := 3, pos := "way.go:36", after := #[{ on := 3, ground := Ground.data }, { on := 4, ground := Ground.data }], guard := none }
def c5o6 : Oper := { dst := some 33, op := Op.binOp BinOp.add 3 (Operand.tmp 32) (Operand.const (Value.int IntKind.i64 1)) 3, type := 3, pos := "way.go:36", after := #[{ on := 5, ground := Ground.data }], guard := none }
def c5o7 : Oper := { dst := some 34, op := Op.mapEntry 66 (Operand.tmp 30) (Operand.tmp 31), type := 0, pos := "way.go:36", after := #[{ on := 3, ground := Ground.data }, { on := 4, ground := Ground.data }, { on := 0, ground := Ground.phase }, { on := 1, ground := Ground.phase }, { on := 2, ground := Ground.phase }, { on := 3, ground := Ground.phase }, { on := 4, ground := Ground.phase }, { on := 5, ground := Ground.textOnly Departure.mapOpAssignEntry }, { on := 6, ground := Ground.textOnly Departure.mapOpAssignEntry }], guard := none }
def c5o8 : Oper := { dst := some 35, op := Op.extract (Operand.tmp 34) 1, type := 3, pos := "way.go:36", after := #[{ on := 7, ground := Ground.data }], guard := none }
def c5o9 : Oper := { dst := none, op := Op.entryStore 66 (Operand.tmp 30) (Operand.tmp 35) (Operand.tmp 33), type := 0, pos := "way.go:36", after := #[{ on := 3, ground := Ground.data }, { on := 8, ground := Ground.data }, { on := 6, ground := Ground.data }, { on := 7, ground := Ground.chain }, { on := 0, ground := Ground.phase }, { on := 1, ground := Ground.phase }, { on := 2, ground := Ground.phase }, { on := 3, ground := Ground.phase }, { on := 4, ground := Ground.phase }, { on := 5, ground := Ground.phase }, { on := 6, ground := Ground.phase }, { on := 7, ground := Ground.phase }, { on := 8, ground := Ground.phase }], guard := none }
def c5ops : Array Oper := #[c5o0, c5o1, c5o2, c5o3, c5o4, c5o5, c5o6, c5o7, c5o8, c5o9]
set_option maxRecDepth 100000 in
set_option maxHeartbeats 4000000 in
theorem c5 (a : Act) (n W b c : Nat) (q : Pr) (g : Pr → Option Value) (m0 m2 m3 : Value) (wm : World) (Q : Exit → Act → World → Prop) (hsz : a.tmps.size = 51) (h0 : a.eval (.tmp 0) = .pointer (some ⟨n, 0, none⟩)) (h7 : a.eval (.tmp 7) = .pointer (some ⟨W, 0, none⟩)) (hc0 : Box wm n 69 #[m0, .map (some b), m2, m3]) (hc1 : Box wm W 76 #[.bool q.1.1, .int .i64 q.1.2, .bool q.2.1, .int .i64 q.2.2]) (hm : MapG mkP wm b g) (hgv : (g q).getD (.int .i64 0) = .int .i64 (c : Nat)) (hcb : c < 4611686018427387904) (hQ : ∀ c (a : Act) t v w, Q (.panic c) (a.put t v) w → Q (.panic c) a w)
    (h : ∀ wo (st : Nat), MapG mkP wo b (upG g q (some (.int .i64 ((c + 1 : Nat) : Int)))) → Kept (Only b) wm wo → Q .normal (((((((((a.put (some 27) (.pointer (some ⟨n, 0, none⟩))).put (some 28) (.pointer (some ⟨n, 0, none⟩))).put (some 29) (.pointer (some ⟨n, 1, none⟩))).put (some 30) (.map (some b))).put (some 31) (mkP q)).put (some 32) (.int .i64 (c : Nat))).put (some 33) (.int .i64 ((c + 1 : Nat) : Int))).put (some 34) (.tuple #[(g q).getD (.int .i64 0), .int .i64 (st : Nat)])).put (some 35) (.int .i64 (st : Nat))) wo) :
    Code.wp Try.prog (.region 5 c5ops true) Q a wm := by
  unfold c5ops
  refine wp_region_held_drew (S := fun w' => Box w' n 69 #[m0, .map (some b), m2, m3] ∧ Box w' W 76 #[.bool q.1.1, .int .i64 q.1.2, .bool q.2.1, .int .i64 q.2.2]) rfl ⟨hc0, hc1⟩ (fun hH => ?_)
  have HM : MapG mkP wm.drew b g := hm
  have HK : Kept No wm wm.drew := (Kept.refl No wm).drew
  generalize wm.drew = wq0 at HK HM hH ⊢
  refine Wa.aT (i := 0) (oi := c5o0) (v := .pointer (some ⟨n, 0, none⟩)) (fun _ hw => exec_mv rfl (by assumption)) hH ?_ (hQ := fun _ _ _ h => hQ _ _ _ _ _ h)
  refine Wa.aT (i := 1) (oi := c5o1) (v := .pointer (some ⟨n, 0, none⟩)) (fun _ hw => exec_nil rfl (by simp [c5o0, ev_ne, ev_eq, sz_put, put_none, evc, hsz, h0, h7])) hH ?_ (hQ := fun _ _ _ h => hQ _ _ _ _ _ h)
  refine Wa.aT (i := 2) (oi := c5o2) (v := .pointer (some ⟨n, 1, none⟩)) (fun _ hw => exec_f69_1 rfl (by simp [c5o0, c5o1, ev_ne, ev_eq, sz_put, put_none, evc, hsz, h0, h7])) hH ?_ (hQ := fun _ _ _ h => hQ _ _ _ _ _ h)
  refine Wa.aT (i := 3) (oi := c5o3) (v := .map (some b)) (fun _ hw => Wa.exec_load 66 _ rfl ⟨n, 1, none⟩ (by simp [c5o0, c5o1, c5o2, ev_ne, ev_eq, sz_put, put_none, evc, hsz, h0, h7]) _ (Wa.load_one (hw.1.cell 1) Try.underlying66 rfl)) hH ?_ (hQ := fun _ _ _ h => hQ _ _ _ _ _ h)
  refine Wa.any_step (i := 4) (o := c5o4) (v := mkP q) rfl (by kernel_rfl) (by kernel_rfl) (Wa.exec_load 76 _ rfl ⟨W, 0, none⟩ (by simp [c5o0, c5o1, c5o2, c5o3, ev_ne, ev_eq, sz_put, put_none, evc, hsz, h0, h7]) _ (ld76 q hH.2)) hH (fun hH => ?_)
  refine Wa.any_pick (rs := [5, 7]) (by kernel_rfl) (by simp) ?_
  intro ix hix
  rcases Wa.pick2 hix with rfl | rfl
  · clear hix
    refine Wa.step_run (i := 5) (o := c5o5) (v := .int .i64 (c : Nat)) rfl (by kernel_rfl) (exec_look keyP HM und66 (zer3 _) q false rfl (by simp [c5o0, c5o1, c5o2, c5o3, c5o4, ev_ne, ev_eq, sz_put, put_none, evc, hsz, h0, h7]) (by simp [c5o0, c5o1, c5o2, c5o3, c5o4, ev_ne, ev_eq, sz_put, put_none, evc, hsz, h0, h7]) hgv) hH (fun hH => ?_)
    refine Wa.aT (i := 6) (oi := c5o6) (v := .int .i64 ((c + 1 : Nat) : Int)) (fun _ hw => exec_add1 rfl (by simp [c5o0, c5o1, c5o2, c5o3, c5o4, c5o5, ev_ne, ev_eq, sz_put, put_none, evc, hsz, h0, h7]) hcb) hH ?_ (hQ := fun _ _ _ h => hQ _ _ _ _ _ h)
    obtain ⟨w1, st, hr1, hS1, hk1, hz1⟩ := entryG keyP HM und66 (zer3 _) q
    have hH1 : (fun w' => Box w' n 69 #[m0, .map (some b), m2, m3] ∧ Box w' W 76 #[.bool q.1.1, .int .i64 q.1.2, .bool q.2.1, .int .i64 q.2.2]) w1 := ⟨hH.1.kept hk1 (fun e => hH.1.neMap HM e), hH.2.kept hk1 (fun e => hH.2.neMap HM e)⟩
    refine Wa.any_step (i := 7) (o := c5o7) rfl (by kernel_rfl) (by kernel_rfl) (exec_entry rfl (by simp [c5o0, c5o1, c5o2, c5o3, c5o4, c5o5, c5o6, ev_ne, ev_eq, sz_put, put_none, evc, hsz, h0, h7]) (by simp [c5o0, c5o1, c5o2, c5o3, c5o4, c5o5, c5o6, ev_ne, ev_eq, sz_put, put_none, evc, hsz, h0, h7]) hr1) hH1 (fun hH => ?_)
    refine Wa.any_step (i := 8) (o := c5o8) (v := .int .i64 (st : Nat)) rfl (by kernel_rfl) (by kernel_rfl) (exec_ext (vs := #[(g q).getD (.int .i64 0), .int .i64 (st : Nat)]) rfl (by simp [c5o0, c5o1, c5o2, c5o3, c5o4, c5o5, c5o6, c5o7, ev_ne, ev_eq, sz_put, put_none, evc, hsz, h0, h7]) rfl) hH (fun hH => ?_)
    obtain ⟨w2, hr2, hm2, hk2, hz2⟩ := storeG keyP hS1 66 (.int .i64 ((c + 1 : Nat) : Int))
    have hH2 : (fun w' => Box w' n 69 #[m0, .map (some b), m2, m3] ∧ Box w' W 76 #[.bool q.1.1, .int .i64 q.1.2, .bool q.2.1, .int .i64 q.2.2]) w2 := ⟨hH.1.kept hk2 (fun e => hH.1.neMap hS1.map e), hH.2.kept hk2 (fun e => hH.2.neMap hS1.map e)⟩
    refine any_do (i := 9) (o := c5o9) rfl (by kernel_rfl) (by kernel_rfl) (exec_estore rfl (by simp [c5o0, c5o1, c5o2, c5o3, c5o4, c5o5, c5o6, c5o7, c5o8, ev_ne, ev_eq, sz_put, put_none, evc, hsz, h0, h7]) (by simp [c5o0, c5o1, c5o2, c5o3, c5o4, c5o5, c5o6, c5o7, c5o8, ev_ne, ev_eq, sz_put, put_none, evc, hsz, h0, h7]) (by simp [c5o0, c5o1, c5o2, c5o3, c5o4, c5o5, c5o6, c5o7, c5o8, ev_ne, ev_eq, sz_put, put_none, evc, hsz, h0, h7]) hr2) hH2 (fun hH => ?_)
    refine wpAnyH_done (by kernel_rfl) ?_ _
    have hup : upG (upG g q (some ((g q).getD (.int .i64 0)))) q (some (.int .i64 ((c + 1 : Nat) : Int))) = upG g q (some (.int .i64 ((c + 1 : Nat) : Int))) := by funext m; unfold upG; split <;> rfl
    rw [hup] at hm2
    simp only [c5o0, c5o1, c5o2, c5o3, c5o4, c5o5, c5o6, c5o7, c5o8, c5o9, put_none]
    exact h _ st hm2 ((HK.of_no.then hk1).then hk2)
  · clear hix
    obtain ⟨w1, st, hr1, hS1, hk1, hz1⟩ := entryG keyP HM und66 (zer3 _) q
    have hH1 : (fun w' => Box w' n 69 #[m0, .map (some b), m2, m3] ∧ Box w' W 76 #[.bool q.1.1, .int .i64 q.1.2, .bool q.2.1, .int .i64 q.2.2]) w1 := ⟨hH.1.kept hk1 (fun e => hH.1.neMap HM e), hH.2.kept hk1 (fun e => hH.2.neMap HM e)⟩
    refine Wa.step_run (i := 7) (o := c5o7) rfl (by kernel_rfl) (exec_entry rfl (by simp [c5o0, c5o1, c5o2, c5o3, c5o4, ev_ne, ev_eq, sz_put, put_none, evc, hsz, h0, h7]) (by simp [c5o0, c5o1, c5o2, c5o3, c5o4, ev_ne, ev_eq, sz_put, put_none, evc, hsz, h0, h7]) hr1) hH1 (fun hH => ?_)
    refine Wa.aT (i := 8) (oi := c5o8) (v := .int .i64 (st : Nat)) (fun _ hw => exec_ext (vs := #[(g q).getD (.int .i64 0), .int .i64 (st : Nat)]) rfl (by simp [c5o0, c5o1, c5o2, c5o3, c5o4, c5o7, ev_ne, ev_eq, sz_put, put_none, evc, hsz, h0, h7]) rfl) hH ?_ (hQ := fun _ _ _ h => hQ _ _ _ _ _ h)
    refine Wa.any_step (i := 5) (o := c5o5) (v := .int .i64 (c : Nat)) rfl (by kernel_rfl) (by kernel_rfl) (exec_look keyP hS1.map und66 (zer3 _) q false rfl (by simp [c5o0, c5o1, c5o2, c5o3, c5o4, c5o7, c5o8, ev_ne, ev_eq, sz_put, put_none, evc, hsz, h0, h7]) (by simp [c5o0, c5o1, c5o2, c5o3, c5o4, c5o7, c5o8, ev_ne, ev_eq, sz_put, put_none, evc, hsz, h0, h7]) (by rw [upG, if_pos rfl]; exact hgv)) hH (fun hH => ?_)
    refine Wa.any_step (i := 6) (o := c5o6) (v := .int .i64 ((c + 1 : Nat) : Int)) rfl (by kernel_rfl) (by kernel_rfl) (exec_add1 rfl (by simp [c5o0, c5o1, c5o2, c5o3, c5o4, c5o7, c5o8, c5o5, ev_ne, ev_eq, sz_put, put_none, evc, hsz, h0, h7]) hcb) hH (fun hH => ?_)
    obtain ⟨w2, hr2, hm2, hk2, hz2⟩ := storeG keyP hS1 66 (.int .i64 ((c + 1 : Nat) : Int))
    have hH2 : (fun w' => Box w' n 69 #[m0, .map (some b), m2, m3] ∧ Box w' W 76 #[.bool q.1.1, .int .i64 q.1.2, .bool q.2.1, .int .i64 q.2.2]) w2 := ⟨hH.1.kept hk2 (fun e => hH.1.neMap hS1.map e), hH.2.kept hk2 (fun e => hH.2.neMap hS1.map e)⟩
    refine any_do (i := 9) (o := c5o9) rfl (by kernel_rfl) (by kernel_rfl) (exec_estore rfl (by simp [c5o0, c5o1, c5o2, c5o3, c5o4, c5o7, c5o8, c5o5, c5o6, ev_ne, ev_eq, sz_put, put_none, evc, hsz, h0, h7]) (by simp [c5o0, c5o1, c5o2, c5o3, c5o4, c5o7, c5o8, c5o5, c5o6, ev_ne, ev_eq, sz_put, put_none, evc, hsz, h0, h7]) (by simp [c5o0, c5o1, c5o2, c5o3, c5o4, c5o7, c5o8, c5o5, c5o6, ev_ne, ev_eq, sz_put, put_none, evc, hsz, h0, h7]) hr2) hH2 (fun hH => ?_)
    refine wpAnyH_done (by kernel_rfl) ?_ _
    have hup : upG (upG g q (some ((g q).getD (.int .i64 0)))) q (some (.int .i64 ((c + 1 : Nat) : Int))) = upG g q (some (.int .i64 ((c + 1 : Nat) : Int))) := by funext m; unfold upG; split <;> rfl
    rw [hup] at hm2
    simp only [c5o0, c5o1, c5o2, c5o3, c5o4, c5o5, c5o6, c5o7, c5o8, c5o9, put_none]
    rw [put_comm 35 32 (by decide), put_comm 34 32 (by decide), put_comm 35 33 (by decide), put_comm 34 33 (by decide)]
    exact h _ st hm2 ((HK.of_no.then hk1).then hk2)
def l9o0 : Oper := { dst := some 45, op := Op.move (Operand.tmp 0), type := 23, pos := "way.go:54", after := #[], guard := none }
def l9o1 : Oper := { dst := some 46, op := Op.nilCheck (Operand.tmp 45), type := 0, pos := "way.go:54", after := #[{ on := 0, ground := Ground.data }], guard := none }
def l9o2 : Oper := { dst := some 47, op := Op.fieldAddr 69 (Operand.tmp 46) 1, type := 0, pos := "way.go:54", after := #[{ on := 1, ground := Ground.data }], guard := none }
def l9o3 : Oper := { dst := some 48, op := Op.load 66 (Operand.tmp 47), type := 66, pos := "way.go:54", after := #[{ on := 2, ground := Ground.data }], guard := none }
def l9o4 : Oper := { dst := some 49, op := Op.load 76 (Operand.tmp 8), type := 76, pos := "way.go:54", after := #[], guard := none }
def l9o5 : Oper := { dst := some 50, op := Op.lookup 66 (Operand.tmp 48) (Operand.tmp 49) false, type := 3, pos := "way.go:54", after := #[{ on := 3, ground := Ground.data }, { on := 4, ground := Ground.data }], guard := none }
def l9o6 : Oper := { dst := some 51, op := Op.binOp BinOp.sub 3 (Operand.tmp 50) (Operand.const (Value.int IntKind.i64 1)) 3, type := 3, pos := "way.go:54", after := #[{ on := 5, ground := Ground.data }], guard := none }
def l9o7 : Oper := { dst := some 52, op := Op.mapEntry 66 (Operand.tmp 48) (Operand.tmp 49), type := 0, pos := "way.go:54", after := #[{ on := 3, ground := Ground.data }, { on := 4, ground := Ground.data }, { on := 0, ground := Ground.phase }, { on := 1, ground := Ground.phase }, { on := 2, ground := Ground.phase }, { on := 3, ground := Ground.phase }, { on := 4, ground := Ground.phase }, { on := 5, ground := Ground.textOnly Departure.mapOpAssignEntry }, { on := 6, ground := Ground.textOnly Departure.mapOpAssignEntry }], guard := none }
def l9o8 : Oper := { dst := some 53, op := Op.extract (Operand.tmp 52) 1, type := 3, pos := "way.go:54", after := #[{ on := 7, ground := Ground.data }], guard := none }
def l9o9 : Oper := { dst := none, op := Op.entryStore 66 (Operand.tmp 48) (Operand.tmp 53) (Operand.tmp 51), type := 0, pos := "way.go:54", after := #[{ on := 3, ground := Ground.data }, { on := 8, ground := Ground.data }, { on := 6, ground := Ground.data }, { on := 7, ground := Ground.chain }, { on := 0, ground := Ground.phase }, { on := 1, ground := Ground.phase }, { on := 2, ground := Ground.phase }, { on := 3, ground := Ground.phase }, { on := 4, ground := Ground.phase }, { on := 5, ground := Ground.phase }, { on := 6, ground := Ground.phase }, { on := 7, ground := Ground.phase }, { on := 8, ground := Ground.phase }], guard := none }
def l9ops : Array Oper := #[l9o0, l9o1, l9o2, l9o3, l9o4, l9o5, l9o6, l9o7, l9o8, l9o9]
set_option maxRecDepth 100000 in
set_option maxHeartbeats 4000000 in
theorem l9 (a : Act) (n W b c : Nat) (q : Pr) (g : Pr → Option Value) (m0 m2 m3 : Value) (wm : World) (Q : Exit → Act → World → Prop) (hsz : a.tmps.size = 67) (h0 : a.eval (.tmp 0) = .pointer (some ⟨n, 0, none⟩)) (h8 : a.eval (.tmp 8) = .pointer (some ⟨W, 0, none⟩)) (hc0 : Box wm n 69 #[m0, .map (some b), m2, m3]) (hc1 : Box wm W 76 #[.bool q.1.1, .int .i64 q.1.2, .bool q.2.1, .int .i64 q.2.2]) (hm : MapG mkP wm b g) (hgv : (g q).getD (.int .i64 0) = .int .i64 ((c + 1 : Nat) : Int)) (hcb : c < 4611686018427387904) (hQ : ∀ c (a : Act) t v w, Q (.panic c) (a.put t v) w → Q (.panic c) a w)
    (h : ∀ wo (st : Nat), MapG mkP wo b (upG g q (some (.int .i64 (c : Nat)))) → Kept (Only b) wm wo → Q .normal (((((((((a.put (some 45) (.pointer (some ⟨n, 0, none⟩))).put (some 46) (.pointer (some ⟨n, 0, none⟩))).put (some 47) (.pointer (some ⟨n, 1, none⟩))).put (some 48) (.map (some b))).put (some 49) (mkP q)).put (some 50) (.int .i64 ((c + 1 : Nat) : Int))).put (some 51) (.int .i64 (c : Nat))).put (some 52) (.tuple #[(g q).getD (.int .i64 0), .int .i64 (st : Nat)])).put (some 53) (.int .i64 (st : Nat))) wo) :
    Code.wp Try.prog (.region 9 l9ops true) Q a wm := by
  unfold l9ops
  refine wp_region_held_drew (S := fun w' => Box w' n 69 #[m0, .map (some b), m2, m3] ∧ Box w' W 76 #[.bool q.1.1, .int .i64 q.1.2, .bool q.2.1, .int .i64 q.2.2]) rfl ⟨hc0, hc1⟩ (fun hH => ?_)
  have HM : MapG mkP wm.drew b g := hm
  have HK : Kept No wm wm.drew := (Kept.refl No wm).drew
  generalize wm.drew = wq0 at HK HM hH ⊢
  refine Wa.aT (i := 0) (oi := l9o0) (v := .pointer (some ⟨n, 0, none⟩)) (fun _ hw => exec_mv rfl (by assumption)) hH ?_ (hQ := fun _ _ _ h => hQ _ _ _ _ _ h)
  refine Wa.aT (i := 1) (oi := l9o1) (v := .pointer (some ⟨n, 0, none⟩)) (fun _ hw => exec_nil rfl (by simp [l9o0, ev_ne, ev_eq, sz_put, put_none, evc, hsz, h0, h8])) hH ?_ (hQ := fun _ _ _ h => hQ _ _ _ _ _ h)
  refine Wa.aT (i := 2) (oi := l9o2) (v := .pointer (some ⟨n, 1, none⟩)) (fun _ hw => exec_f69_1 rfl (by simp [l9o0, l9o1, ev_ne, ev_eq, sz_put, put_none, evc, hsz, h0, h8])) hH ?_ (hQ := fun _ _ _ h => hQ _ _ _ _ _ h)
  refine Wa.aT (i := 3) (oi := l9o3) (v := .map (some b)) (fun _ hw => Wa.exec_load 66 _ rfl ⟨n, 1, none⟩ (by simp [l9o0, l9o1, l9o2, ev_ne, ev_eq, sz_put, put_none, evc, hsz, h0, h8]) _ (Wa.load_one (hw.1.cell 1) Try.underlying66 rfl)) hH ?_ (hQ := fun _ _ _ h => hQ _ _ _ _ _ h)
  refine Wa.any_step (i := 4) (o := l9o4) (v := mkP q) rfl (by kernel_rfl) (by kernel_rfl) (Wa.exec_load 76 _ rfl ⟨W, 0, none⟩ (by simp [l9o0, l9o1, l9o2, l9o3, ev_ne, ev_eq, sz_put, put_none, evc, hsz, h0, h8]) _ (ld76 q hH.2)) hH (fun hH => ?_)
  refine Wa.any_pick (rs := [5, 7]) (by kernel_rfl) (by simp) ?_
  intro ix hix
  rcases Wa.pick2 hix with rfl | rfl
  · clear hix
    refine Wa.step_run (i := 5) (o := l9o5) (v := .int .i64 ((c + 1 : Nat) : Int)) rfl (by kernel_rfl) (exec_look keyP HM und66 (zer3 _) q false rfl (by simp [l9o0, l9o1, l9o2, l9o3, l9o4, ev_ne, ev_eq, sz_put, put_none, evc, hsz, h0, h8]) (by simp [l9o0, l9o1, l9o2, l9o3, l9o4, ev_ne, ev_eq, sz_put, put_none, evc, hsz, h0, h8]) hgv) hH (fun hH => ?_)
    refine Wa.aT (i := 6) (oi := l9o6) (v := .int .i64 (c : Nat)) (fun _ hw => exec_sub1 rfl (by simp [l9o0, l9o1, l9o2, l9o3, l9o4, l9o5, ev_ne, ev_eq, sz_put, put_none, evc, hsz, h0, h8]) hcb) hH ?_ (hQ := fun _ _ _ h => hQ _ _ _ _ _ h)
    obtain ⟨w1, st, hr1, hS1, hk1, hz1⟩ := entryG keyP HM und66 (zer3 _) q
    have hH1 : (fun w' => Box w' n 69 #[m0, .map (some b), m2, m3] ∧ Box w' W 76 #[.bool q.1.1, .int .i64 q.1.2, .bool q.2.1, .int .i64 q.2.2]) w1 := ⟨hH.1.kept hk1 (fun e => hH.1.neMap HM e), hH.2.kept hk1 (fun e => hH.2.neMap HM e)⟩
    refine Wa.any_step (i := 7) (o := l9o7) rfl (by kernel_rfl) (by kernel_rfl) (exec_entry rfl (by simp [l9o0, l9o1, l9o2, l9o3, l9o4, l9o5, l9o6, ev_ne, ev_eq, sz_put, put_none, evc, hsz, h0, h8]) (by simp [l9o0, l9o1, l9o2, l9o3, l9o4, l9o5, l9o6, ev_ne, ev_eq, sz_put, put_none, evc, hsz, h0, h8]) hr1) hH1 (fun hH => ?_)
    refine Wa.any_step (i := 8) (o := l9o8) (v := .int .i64 (st : Nat)) rfl (by kernel_rfl) (by kernel_rfl) (exec_ext (vs := #[(g q).getD (.int .i64 0), .int .i64 (st : Nat)]) rfl (by simp [l9o0, l9o1, l9o2, l9o3, l9o4, l9o5, l9o6, l9o7, ev_ne, ev_eq, sz_put, put_none, evc, hsz, h0, h8]) rfl) hH (fun hH => ?_)
    obtain ⟨w2, hr2, hm2, hk2, hz2⟩ := storeG keyP hS1 66 (.int .i64 (c : Nat))
    have hH2 : (fun w' => Box w' n 69 #[m0, .map (some b), m2, m3] ∧ Box w' W 76 #[.bool q.1.1, .int .i64 q.1.2, .bool q.2.1, .int .i64 q.2.2]) w2 := ⟨hH.1.kept hk2 (fun e => hH.1.neMap hS1.map e), hH.2.kept hk2 (fun e => hH.2.neMap hS1.map e)⟩
    refine any_do (i := 9) (o := l9o9) rfl (by kernel_rfl) (by kernel_rfl) (exec_estore rfl (by simp [l9o0, l9o1, l9o2, l9o3, l9o4, l9o5, l9o6, l9o7, l9o8, ev_ne, ev_eq, sz_put, put_none, evc, hsz, h0, h8]) (by simp [l9o0, l9o1, l9o2, l9o3, l9o4, l9o5, l9o6, l9o7, l9o8, ev_ne, ev_eq, sz_put, put_none, evc, hsz, h0, h8]) (by simp [l9o0, l9o1, l9o2, l9o3, l9o4, l9o5, l9o6, l9o7, l9o8, ev_ne, ev_eq, sz_put, put_none, evc, hsz, h0, h8]) hr2) hH2 (fun hH => ?_)
    refine wpAnyH_done (by kernel_rfl) ?_ _
    have hup : upG (upG g q (some ((g q).getD (.int .i64 0)))) q (some (.int .i64 (c : Nat))) = upG g q (some (.int .i64 (c : Nat))) := by funext m; unfold upG; split <;> rfl
    rw [hup] at hm2
    simp only [l9o0, l9o1, l9o2, l9o3, l9o4, l9o5, l9o6, l9o7, l9o8, l9o9, put_none]
    exact h _ st hm2 ((HK.of_no.then hk1).then hk2)
  · clear hix
    obtain ⟨w1, st, hr1, hS1, hk1, hz1⟩ := entryG keyP HM und66 (zer3 _) q
    have hH1 : (fun w' => Box w' n 69 #[m0, .map (some b), m2, m3] ∧ Box w' W 76 #[.bool q.1.1, .int .i64 q.1.2, .bool q.2.1, .int .i64 q.2.2]) w1 := ⟨hH.1.kept hk1 (fun e => hH.1.neMap HM e), hH.2.kept hk1 (fun e => hH.2.neMap HM e)⟩
    refine Wa.step_run (i := 7) (o := l9o7) rfl (by kernel_rfl) (exec_entry rfl (by simp [l9o0, l9o1, l9o2, l9o3, l9o4, ev_ne, ev_eq, sz_put, put_none, evc, hsz, h0, h8]) (by simp [l9o0, l9o1, l9o2, l9o3, l9o4, ev_ne, ev_eq, sz_put, put_none, evc, hsz, h0, h8]) hr1) hH1 (fun hH => ?_)
    refine Wa.aT (i := 8) (oi := l9o8) (v := .int .i64 (st : Nat)) (fun _ hw => exec_ext (vs := #[(g q).getD (.int .i64 0), .int .i64 (st : Nat)]) rfl (by simp [l9o0, l9o1, l9o2, l9o3, l9o4, l9o7, ev_ne, ev_eq, sz_put, put_none, evc, hsz, h0, h8]) rfl) hH ?_ (hQ := fun _ _ _ h => hQ _ _ _ _ _ h)
    refine Wa.any_step (i := 5) (o := l9o5) (v := .int .i64 ((c + 1 : Nat) : Int)) rfl (by kernel_rfl) (by kernel_rfl) (exec_look keyP hS1.map und66 (zer3 _) q false rfl (by simp [l9o0, l9o1, l9o2, l9o3, l9o4, l9o7, l9o8, ev_ne, ev_eq, sz_put, put_none, evc, hsz, h0, h8]) (by simp [l9o0, l9o1, l9o2, l9o3, l9o4, l9o7, l9o8, ev_ne, ev_eq, sz_put, put_none, evc, hsz, h0, h8]) (by rw [upG, if_pos rfl]; exact hgv)) hH (fun hH => ?_)
    refine Wa.any_step (i := 6) (o := l9o6) (v := .int .i64 (c : Nat)) rfl (by kernel_rfl) (by kernel_rfl) (exec_sub1 rfl (by simp [l9o0, l9o1, l9o2, l9o3, l9o4, l9o7, l9o8, l9o5, ev_ne, ev_eq, sz_put, put_none, evc, hsz, h0, h8]) hcb) hH (fun hH => ?_)
    obtain ⟨w2, hr2, hm2, hk2, hz2⟩ := storeG keyP hS1 66 (.int .i64 (c : Nat))
    have hH2 : (fun w' => Box w' n 69 #[m0, .map (some b), m2, m3] ∧ Box w' W 76 #[.bool q.1.1, .int .i64 q.1.2, .bool q.2.1, .int .i64 q.2.2]) w2 := ⟨hH.1.kept hk2 (fun e => hH.1.neMap hS1.map e), hH.2.kept hk2 (fun e => hH.2.neMap hS1.map e)⟩
    refine any_do (i := 9) (o := l9o9) rfl (by kernel_rfl) (by kernel_rfl) (exec_estore rfl (by simp [l9o0, l9o1, l9o2, l9o3, l9o4, l9o7, l9o8, l9o5, l9o6, ev_ne, ev_eq, sz_put, put_none, evc, hsz, h0, h8]) (by simp [l9o0, l9o1, l9o2, l9o3, l9o4, l9o7, l9o8, l9o5, l9o6, ev_ne, ev_eq, sz_put, put_none, evc, hsz, h0, h8]) (by simp [l9o0, l9o1, l9o2, l9o3, l9o4, l9o7, l9o8, l9o5, l9o6, ev_ne, ev_eq, sz_put, put_none, evc, hsz, h0, h8]) hr2) hH2 (fun hH => ?_)
    refine wpAnyH_done (by kernel_rfl) ?_ _
    have hup : upG (upG g q (some ((g q).getD (.int .i64 0)))) q (some (.int .i64 (c : Nat))) = upG g q (some (.int .i64 (c : Nat))) := by funext m; unfold upG; split <;> rfl
    rw [hup] at hm2
    simp only [l9o0, l9o1, l9o2, l9o3, l9o4, l9o5, l9o6, l9o7, l9o8, l9o9, put_none]
    rw [put_comm 53 50 (by decide), put_comm 52 50 (by decide), put_comm 53 51 (by decide), put_comm 52 51 (by decide)]
    exact h _ st hm2 ((HK.of_no.then hk1).then hk2)
def s3o0 : Oper := { dst := some 24, op := Op.move (Operand.tmp 0), type := 23, pos := "net.go:27", after := #[], guard := none }
def s3o1 : Oper := { dst := some 25, op := Op.nilCheck (Operand.tmp 24), type := 0, pos := "net.go:27", after := #[{ on := 0, ground := Ground.data }], guard := none }
def s3o2 : Oper := { dst := some 26, op := Op.fieldAddr 69 (Operand.tmp 25) 0, type := 0, pos := "net.go:27", after := #[{ on := 1, ground := Ground.data }], guard := none }
def s3o3 : Oper := { dst := some 27, op := Op.load 65 (Operand.tmp 26), type := 65, pos := "net.go:27", after := #[{ on := 2, ground := Ground.data }], guard := none }
def s3o4 : Oper := { dst := some 28, op := Op.fieldAddr 44 (Operand.tmp 3) 0, type := 0, pos := "net.go:27", after := #[], guard := none }
def s3o5 : Oper := { dst := some 29, op := Op.load 34 (Operand.tmp 28), type := 34, pos := "net.go:27", after := #[{ on := 4, ground := Ground.data }], guard := none }
def s3o6 : Oper := { dst := some 30, op := Op.lookup 65 (Operand.tmp 27) (Operand.tmp 29) false, type := 3, pos := "net.go:27", after := #[{ on := 3, ground := Ground.data }, { on := 5, ground := Ground.data }], guard := none }
def s3o7 : Oper := { dst := some 31, op := Op.binOp BinOp.add 3 (Operand.tmp 30) (Operand.const (Value.int IntKind.i64 1)) 3, type := 3, pos := "net.go:27", after := #[{ on := 6, ground := Ground.data }], guard := none }
def s3o8 : Oper := { dst := some 32, op := Op.mapEntry 65 (Operand.tmp 27) (Operand.tmp 29), type := 0, pos := "net.go:27", after := #[{ on := 3, ground := Ground.data }, { on := 5, ground := Ground.data }, { on := 0, ground := Ground.phase }, { on := 1, ground := Ground.phase }, { on := 2, ground := Ground.phase }, { on := 3, ground := Ground.phase }, { on := 4, ground := Ground.phase }, { on := 5, ground := Ground.phase }, { on := 6, ground := Ground.textOnly Departure.mapOpAssignEntry }, { on := 7, ground := Ground.textOnly Departure.mapOpAssignEntry }], guard := none }
def s3o9 : Oper := { dst := some 33, op := Op.extract (Operand.tmp 32) 1, type := 3, pos := "net.go:27", after := #[{ on := 8, ground := Ground.data }], guard := none }
def s3o10 : Oper := { dst := none, op := Op.entryStore 65 (Operand.tmp 27) (Operand.tmp 33) (Operand.tmp 31), type := 0, pos := "net.go:27", after := #[{ on := 3, ground := Ground.data }, { on := 9, ground := Ground.data }, { on := 7, ground := Ground.data }, { on := 8, ground := Ground.chain }, { on := 0, ground := Ground.phase }, { on := 1, ground := Ground.phase }, { on := 2, ground := Ground.phase }, { on := 3, ground := Ground.phase }, { on := 4, ground := Ground.phase }, { on := 5, ground := Ground.phase }, { on := 6, ground := Ground.phase }, { on := 7, ground := Ground.phase }, { on := 8, ground := Ground.phase }, { on := 9, ground := Ground.phase }], guard := none }
def s3ops : Array Oper := #[s3o0, s3o1, s3o2, s3o3, s3o4, s3o5, s3o6, s3o7, s3o8, s3o9, s3o10]
set_option maxRecDepth 100000 in
set_option maxHeartbeats 4000000 in
theorem s3 (a : Act) (n W b c : Nat) (q : Ad) (g : Ad → Option Value) (m1 m2 m3 : Value) (p2 p3 p4 p5 : Value) (wm : World) (Q : Exit → Act → World → Prop) (hsz : a.tmps.size = 54) (h0 : a.eval (.tmp 0) = .pointer (some ⟨n, 0, none⟩)) (h3 : a.eval (.tmp 3) = .pointer (some ⟨W, 0, none⟩)) (hc0 : Box wm n 69 #[.map (some b), m1, m2, m3]) (hc1 : Box wm W 44 #[.bool q.1, .int .i64 q.2, p2, p3, p4, p5]) (hm : MapG mkA wm b g) (hgv : (g q).getD (.int .i64 0) = .int .i64 (c : Nat)) (hcb : c < 4611686018427387904) (hQ : ∀ c (a : Act) t v w, Q (.panic c) (a.put t v) w → Q (.panic c) a w)
    (h : ∀ wo (st : Nat), MapG mkA wo b (upG g q (some (.int .i64 ((c + 1 : Nat) : Int)))) → Kept (Only b) wm wo → Q .normal ((((((((((a.put (some 24) (.pointer (some ⟨n, 0, none⟩))).put (some 25) (.pointer (some ⟨n, 0, none⟩))).put (some 26) (.pointer (some ⟨n, 0, none⟩))).put (some 27) (.map (some b))).put (some 28) (.pointer (some ⟨W, 0, none⟩))).put (some 29) (mkA q)).put (some 30) (.int .i64 (c : Nat))).put (some 31) (.int .i64 ((c + 1 : Nat) : Int))).put (some 32) (.tuple #[(g q).getD (.int .i64 0), .int .i64 (st : Nat)])).put (some 33) (.int .i64 (st : Nat))) wo) :
    Code.wp Try.prog (.region 3 s3ops true) Q a wm := by
  unfold s3ops
  refine wp_region_held_drew (S := fun w' => Box w' n 69 #[.map (some b), m1, m2, m3] ∧ Box w' W 44 #[.bool q.1, .int .i64 q.2, p2, p3, p4, p5]) rfl ⟨hc0, hc1⟩ (fun hH => ?_)
  have HM : MapG mkA wm.drew b g := hm
  have HK : Kept No wm wm.drew := (Kept.refl No wm).drew
  generalize wm.drew = wq0 at HK HM hH ⊢
  refine Wa.aT (i := 0) (oi := s3o0) (v := .pointer (some ⟨n, 0, none⟩)) (fun _ hw => exec_mv rfl (by assumption)) hH ?_ (hQ := fun _ _ _ h => hQ _ _ _ _ _ h)
  refine Wa.aT (i := 1) (oi := s3o1) (v := .pointer (some ⟨n, 0, none⟩)) (fun _ hw => exec_nil rfl (by simp [s3o0, ev_ne, ev_eq, sz_put, put_none, evc, hsz, h0, h3])) hH ?_ (hQ := fun _ _ _ h => hQ _ _ _ _ _ h)
  refine Wa.aT (i := 2) (oi := s3o2) (v := .pointer (some ⟨n, 0, none⟩)) (fun _ hw => exec_f69_0 rfl (by simp [s3o0, s3o1, ev_ne, ev_eq, sz_put, put_none, evc, hsz, h0, h3])) hH ?_ (hQ := fun _ _ _ h => hQ _ _ _ _ _ h)
  refine Wa.aT (i := 3) (oi := s3o3) (v := .map (some b)) (fun _ hw => Wa.exec_load 65 _ rfl ⟨n, 0, none⟩ (by simp [s3o0, s3o1, s3o2, ev_ne, ev_eq, sz_put, put_none, evc, hsz, h0, h3]) _ (Wa.load_one (hw.1.cell 0) Try.underlying65 rfl)) hH ?_ (hQ := fun _ _ _ h => hQ _ _ _ _ _ h)
  refine Wa.any_step (i := 4) (o := s3o4) (v := .pointer (some ⟨W, 0, none⟩)) rfl (by kernel_rfl) (by kernel_rfl) (exec_f44_0 rfl (by simp [s3o0, s3o1, s3o2, s3o3, ev_ne, ev_eq, sz_put, put_none, evc, hsz, h0, h3])) hH (fun hH => ?_)
  refine Wa.any_step (i := 5) (o := s3o5) (v := mkA q) rfl (by kernel_rfl) (by kernel_rfl) (Wa.exec_load 34 _ rfl ⟨W, 0, none⟩ (by simp [s3o0, s3o1, s3o2, s3o3, s3o4, ev_ne, ev_eq, sz_put, put_none, evc, hsz, h0, h3]) _ (ld34_0 (rest := [p2, p3, p4, p5]) q hH.2)) hH (fun hH => ?_)
  refine Wa.any_pick (rs := [6, 8]) (by kernel_rfl) (by simp) ?_
  intro ix hix
  rcases Wa.pick2 hix with rfl | rfl
  · clear hix
    refine Wa.step_run (i := 6) (o := s3o6) (v := .int .i64 (c : Nat)) rfl (by kernel_rfl) (exec_look keyA HM und65 (zer3 _) q false rfl (by simp [s3o0, s3o1, s3o2, s3o3, s3o4, s3o5, ev_ne, ev_eq, sz_put, put_none, evc, hsz, h0, h3]) (by simp [s3o0, s3o1, s3o2, s3o3, s3o4, s3o5, ev_ne, ev_eq, sz_put, put_none, evc, hsz, h0, h3]) hgv) hH (fun hH => ?_)
    refine Wa.aT (i := 7) (oi := s3o7) (v := .int .i64 ((c + 1 : Nat) : Int)) (fun _ hw => exec_add1 rfl (by simp [s3o0, s3o1, s3o2, s3o3, s3o4, s3o5, s3o6, ev_ne, ev_eq, sz_put, put_none, evc, hsz, h0, h3]) hcb) hH ?_ (hQ := fun _ _ _ h => hQ _ _ _ _ _ h)
    obtain ⟨w1, st, hr1, hS1, hk1, hz1⟩ := entryG keyA HM und65 (zer3 _) q
    have hH1 : (fun w' => Box w' n 69 #[.map (some b), m1, m2, m3] ∧ Box w' W 44 #[.bool q.1, .int .i64 q.2, p2, p3, p4, p5]) w1 := ⟨hH.1.kept hk1 (fun e => hH.1.neMap HM e), hH.2.kept hk1 (fun e => hH.2.neMap HM e)⟩
    refine Wa.any_step (i := 8) (o := s3o8) rfl (by kernel_rfl) (by kernel_rfl) (exec_entry rfl (by simp [s3o0, s3o1, s3o2, s3o3, s3o4, s3o5, s3o6, s3o7, ev_ne, ev_eq, sz_put, put_none, evc, hsz, h0, h3]) (by simp [s3o0, s3o1, s3o2, s3o3, s3o4, s3o5, s3o6, s3o7, ev_ne, ev_eq, sz_put, put_none, evc, hsz, h0, h3]) hr1) hH1 (fun hH => ?_)
    refine Wa.any_step (i := 9) (o := s3o9) (v := .int .i64 (st : Nat)) rfl (by kernel_rfl) (by kernel_rfl) (exec_ext (vs := #[(g q).getD (.int .i64 0), .int .i64 (st : Nat)]) rfl (by simp [s3o0, s3o1, s3o2, s3o3, s3o4, s3o5, s3o6, s3o7, s3o8, ev_ne, ev_eq, sz_put, put_none, evc, hsz, h0, h3]) rfl) hH (fun hH => ?_)
    obtain ⟨w2, hr2, hm2, hk2, hz2⟩ := storeG keyA hS1 65 (.int .i64 ((c + 1 : Nat) : Int))
    have hH2 : (fun w' => Box w' n 69 #[.map (some b), m1, m2, m3] ∧ Box w' W 44 #[.bool q.1, .int .i64 q.2, p2, p3, p4, p5]) w2 := ⟨hH.1.kept hk2 (fun e => hH.1.neMap hS1.map e), hH.2.kept hk2 (fun e => hH.2.neMap hS1.map e)⟩
    refine any_do (i := 10) (o := s3o10) rfl (by kernel_rfl) (by kernel_rfl) (exec_estore rfl (by simp [s3o0, s3o1, s3o2, s3o3, s3o4, s3o5, s3o6, s3o7, s3o8, s3o9, ev_ne, ev_eq, sz_put, put_none, evc, hsz, h0, h3]) (by simp [s3o0, s3o1, s3o2, s3o3, s3o4, s3o5, s3o6, s3o7, s3o8, s3o9, ev_ne, ev_eq, sz_put, put_none, evc, hsz, h0, h3]) (by simp [s3o0, s3o1, s3o2, s3o3, s3o4, s3o5, s3o6, s3o7, s3o8, s3o9, ev_ne, ev_eq, sz_put, put_none, evc, hsz, h0, h3]) hr2) hH2 (fun hH => ?_)
    refine wpAnyH_done (by kernel_rfl) ?_ _
    have hup : upG (upG g q (some ((g q).getD (.int .i64 0)))) q (some (.int .i64 ((c + 1 : Nat) : Int))) = upG g q (some (.int .i64 ((c + 1 : Nat) : Int))) := by funext m; unfold upG; split <;> rfl
    rw [hup] at hm2
    simp only [s3o0, s3o1, s3o2, s3o3, s3o4, s3o5, s3o6, s3o7, s3o8, s3o9, s3o10, put_none]
    exact h _ st hm2 ((HK.of_no.then hk1).then hk2)
  · clear hix
    obtain ⟨w1, st, hr1, hS1, hk1, hz1⟩ := entryG keyA HM und65 (zer3 _) q
    have hH1 : (fun w' => Box w' n 69 #[.map (some b), m1, m2, m3] ∧ Box w' W 44 #[.bool q.1, .int .i64 q.2, p2, p3, p4, p5]) w1 := ⟨hH.1.kept hk1 (fun e => hH.1.neMap HM e), hH.2.kept hk1 (fun e => hH.2.neMap HM e)⟩
    refine Wa.step_run (i := 8) (o := s3o8) rfl (by kernel_rfl) (exec_entry rfl (by simp [s3o0, s3o1, s3o2, s3o3, s3o4, s3o5, ev_ne, ev_eq, sz_put, put_none, evc, hsz, h0, h3]) (by simp [s3o0, s3o1, s3o2, s3o3, s3o4, s3o5, ev_ne, ev_eq, sz_put, put_none, evc, hsz, h0, h3]) hr1) hH1 (fun hH => ?_)
    refine Wa.aT (i := 9) (oi := s3o9) (v := .int .i64 (st : Nat)) (fun _ hw => exec_ext (vs := #[(g q).getD (.int .i64 0), .int .i64 (st : Nat)]) rfl (by simp [s3o0, s3o1, s3o2, s3o3, s3o4, s3o5, s3o8, ev_ne, ev_eq, sz_put, put_none, evc, hsz, h0, h3]) rfl) hH ?_ (hQ := fun _ _ _ h => hQ _ _ _ _ _ h)
    refine Wa.any_step (i := 6) (o := s3o6) (v := .int .i64 (c : Nat)) rfl (by kernel_rfl) (by kernel_rfl) (exec_look keyA hS1.map und65 (zer3 _) q false rfl (by simp [s3o0, s3o1, s3o2, s3o3, s3o4, s3o5, s3o8, s3o9, ev_ne, ev_eq, sz_put, put_none, evc, hsz, h0, h3]) (by simp [s3o0, s3o1, s3o2, s3o3, s3o4, s3o5, s3o8, s3o9, ev_ne, ev_eq, sz_put, put_none, evc, hsz, h0, h3]) (by rw [upG, if_pos rfl]; exact hgv)) hH (fun hH => ?_)
    refine Wa.any_step (i := 7) (o := s3o7) (v := .int .i64 ((c + 1 : Nat) : Int)) rfl (by kernel_rfl) (by kernel_rfl) (exec_add1 rfl (by simp [s3o0, s3o1, s3o2, s3o3, s3o4, s3o5, s3o8, s3o9, s3o6, ev_ne, ev_eq, sz_put, put_none, evc, hsz, h0, h3]) hcb) hH (fun hH => ?_)
    obtain ⟨w2, hr2, hm2, hk2, hz2⟩ := storeG keyA hS1 65 (.int .i64 ((c + 1 : Nat) : Int))
    have hH2 : (fun w' => Box w' n 69 #[.map (some b), m1, m2, m3] ∧ Box w' W 44 #[.bool q.1, .int .i64 q.2, p2, p3, p4, p5]) w2 := ⟨hH.1.kept hk2 (fun e => hH.1.neMap hS1.map e), hH.2.kept hk2 (fun e => hH.2.neMap hS1.map e)⟩
    refine any_do (i := 10) (o := s3o10) rfl (by kernel_rfl) (by kernel_rfl) (exec_estore rfl (by simp [s3o0, s3o1, s3o2, s3o3, s3o4, s3o5, s3o8, s3o9, s3o6, s3o7, ev_ne, ev_eq, sz_put, put_none, evc, hsz, h0, h3]) (by simp [s3o0, s3o1, s3o2, s3o3, s3o4, s3o5, s3o8, s3o9, s3o6, s3o7, ev_ne, ev_eq, sz_put, put_none, evc, hsz, h0, h3]) (by simp [s3o0, s3o1, s3o2, s3o3, s3o4, s3o5, s3o8, s3o9, s3o6, s3o7, ev_ne, ev_eq, sz_put, put_none, evc, hsz, h0, h3]) hr2) hH2 (fun hH => ?_)
    refine wpAnyH_done (by kernel_rfl) ?_ _
    have hup : upG (upG g q (some ((g q).getD (.int .i64 0)))) q (some (.int .i64 ((c + 1 : Nat) : Int))) = upG g q (some (.int .i64 ((c + 1 : Nat) : Int))) := by funext m; unfold upG; split <;> rfl
    rw [hup] at hm2
    simp only [s3o0, s3o1, s3o2, s3o3, s3o4, s3o5, s3o6, s3o7, s3o8, s3o9, s3o10, put_none]
    rw [put_comm 33 30 (by decide), put_comm 32 30 (by decide), put_comm 33 31 (by decide), put_comm 32 31 (by decide)]
    exact h _ st hm2 ((HK.of_no.then hk1).then hk2)
def s4o0 : Oper := { dst := some 34, op := Op.move (Operand.tmp 0), type := 23, pos := "net.go:28", after := #[], guard := none }
def s4o1 : Oper := { dst := some 35, op := Op.nilCheck (Operand.tmp 34), type := 0, pos := "net.go:28", after := #[{ on := 0, ground := Ground.data }], guard := none }
def s4o2 : Oper := { dst := some 36, op := Op.fieldAddr 69 (Operand.tmp 35) 0, type := 0, pos := "net.go:28", after := #[{ on := 1, ground := Ground.data }], guard := none }
def s4o3 : Oper := { dst := some 37, op := Op.load 65 (Operand.tmp 36), type := 65, pos := "net.go:28", after := #[{ on := 2, ground := Ground.data }], guard := none }
def s4o4 : Oper := { dst := some 38, op := Op.fieldAddr 44 (Operand.tmp 3) 0, type := 0, pos := "net.go:28", after := #[], guard := none }
def s4o5 : Oper := { dst := some 39, op := Op.load 34 (Operand.tmp 38), type := 34, pos := "net.go:28", after := #[{ on := 4, ground := Ground.data }], guard := none }
def s4o6 : Oper := { dst := some 40, op := Op.lookup 65 (Operand.tmp 37) (Operand.tmp 39) false, type := 3, pos := "net.go:28", after := #[{ on := 3, ground := Ground.data }, { on := 5, ground := Ground.data }], guard := none }
def s4o7 : Oper := { dst := some 6, op := Op.assign (Operand.tmp 40), type := 3, pos := "net.go:28", after := #[{ on := 6, ground := Ground.data }, { on := 0, ground := Ground.phase }, { on := 1, ground := Ground.phase }, { on := 2, ground := Ground.phase }, { on := 3, ground := Ground.phase }, { on := 4, ground := Ground.phase }, { on := 5, ground := Ground.phase }, { on := 6, ground := Ground.phase }], guard := none }
def s4ops : Array Oper := #[s4o0, s4o1, s4o2, s4o3, s4o4, s4o5, s4o6, s4o7]
set_option maxRecDepth 100000 in
set_option maxHeartbeats 4000000 in
theorem s4 (a : Act) (n W b c : Nat) (q : Ad) (m1 m2 m3 : Value) (p2 p3 p4 p5 : Value) (wm : World) (Q : Exit → Act → World → Prop) (hsz : a.tmps.size = 54) (h0 : a.eval (.tmp 0) = .pointer (some ⟨n, 0, none⟩)) (h3 : a.eval (.tmp 3) = .pointer (some ⟨W, 0, none⟩)) (hc0 : Box wm n 69 #[.map (some b), m1, m2, m3]) (hc1 : Box wm W 44 #[.bool q.1, .int .i64 q.2, p2, p3, p4, p5]) (hc2 : LkV mkA wm (.map (some b)) q (some (.int .i64 (c : Nat))))  (hQ : ∀ c (a : Act) t v w, Q (.panic c) (a.put t v) w → Q (.panic c) a w)
    (h : ∀ wo, Kept No wm wo → Q .normal ((((((((a.put (some 34) (.pointer (some ⟨n, 0, none⟩))).put (some 35) (.pointer (some ⟨n, 0, none⟩))).put (some 36) (.pointer (some ⟨n, 0, none⟩))).put (some 37) (.map (some b))).put (some 38) (.pointer (some ⟨W, 0, none⟩))).put (some 39) (mkA q)).put (some 40) (.int .i64 (c : Nat))).put (some 6) (.int .i64 (c : Nat))) wo) :
    Code.wp Try.prog (.region 4 s4ops true) Q a wm := by
  unfold s4ops
  refine wp_region_held_drew (S := fun w' => Box w' n 69 #[.map (some b), m1, m2, m3] ∧ Box w' W 44 #[.bool q.1, .int .i64 q.2, p2, p3, p4, p5] ∧ LkV mkA w' (.map (some b)) q (some (.int .i64 (c : Nat)))) rfl ⟨hc0, hc1, hc2⟩ (fun hH => ?_)
  refine Wa.aT (i := 0) (oi := s4o0) (v := .pointer (some ⟨n, 0, none⟩)) (fun _ hw => exec_mv rfl (by assumption)) hH ?_ (hQ := fun _ _ _ h => hQ _ _ _ _ _ h)
  refine Wa.aT (i := 1) (oi := s4o1) (v := .pointer (some ⟨n, 0, none⟩)) (fun _ hw => exec_nil rfl (by simp [s4o0, ev_ne, ev_eq, sz_put, put_none, evc, hsz, h0, h3])) hH ?_ (hQ := fun _ _ _ h => hQ _ _ _ _ _ h)
  refine Wa.aT (i := 2) (oi := s4o2) (v := .pointer (some ⟨n, 0, none⟩)) (fun _ hw => exec_f69_0 rfl (by simp [s4o0, s4o1, ev_ne, ev_eq, sz_put, put_none, evc, hsz, h0, h3])) hH ?_ (hQ := fun _ _ _ h => hQ _ _ _ _ _ h)
  refine Wa.aT (i := 3) (oi := s4o3) (v := .map (some b)) (fun _ hw => Wa.exec_load 65 _ rfl ⟨n, 0, none⟩ (by simp [s4o0, s4o1, s4o2, ev_ne, ev_eq, sz_put, put_none, evc, hsz, h0, h3]) _ (Wa.load_one (hw.1.cell 0) Try.underlying65 rfl)) hH ?_ (hQ := fun _ _ _ h => hQ _ _ _ _ _ h)
  refine Wa.any_step (i := 4) (o := s4o4) (v := .pointer (some ⟨W, 0, none⟩)) rfl (by kernel_rfl) (by kernel_rfl) (exec_f44_0 rfl (by simp [s4o0, s4o1, s4o2, s4o3, ev_ne, ev_eq, sz_put, put_none, evc, hsz, h0, h3])) hH (fun hH => ?_)
  refine Wa.any_step (i := 5) (o := s4o5) (v := mkA q) rfl (by kernel_rfl) (by kernel_rfl) (Wa.exec_load 34 _ rfl ⟨W, 0, none⟩ (by simp [s4o0, s4o1, s4o2, s4o3, s4o4, ev_ne, ev_eq, sz_put, put_none, evc, hsz, h0, h3]) _ (ld34_0 (rest := [p2, p3, p4, p5]) q hH.2.1)) hH (fun hH => ?_)
  refine Wa.any_step (i := 6) (o := s4o6) (v := .int .i64 (c : Nat)) rfl (by kernel_rfl) (by kernel_rfl) (exec_lookV keyA hH.2.2 und65 (zer3 _) false rfl (by simp [s4o0, s4o1, s4o2, s4o3, s4o4, s4o5, ev_ne, ev_eq, sz_put, put_none, evc, hsz, h0, h3]) (by simp [s4o0, s4o1, s4o2, s4o3, s4o4, s4o5, ev_ne, ev_eq, sz_put, put_none, evc, hsz, h0, h3]) rfl) hH (fun hH => ?_)
  refine Wa.any_step (i := 7) (o := s4o7) (v := .int .i64 (c : Nat)) rfl (by kernel_rfl) (by kernel_rfl) (exec_as rfl (by simp [s4o0, s4o1, s4o2, s4o3, s4o4, s4o5, s4o6, ev_ne, ev_eq, sz_put, put_none, evc, hsz, h0, h3])) hH (fun hH => ?_)
  refine wpAnyH_done (by kernel_rfl) ?_ _
  simp only [s4o0, s4o1, s4o2, s4o3, s4o4, s4o5, s4o6, s4o7, put_none]
  exact h _ (Kept.refl No wm).drew
def p1o0 : Oper := { dst := some 7, op := Op.move (Operand.tmp 0), type := 23, pos := "net.go:73", after := #[], guard := none }
def p1o1 : Oper := { dst := some 8, op := Op.nilCheck (Operand.tmp 7), type := 0, pos := "net.go:73", after := #[{ on := 0, ground := Ground.data }], guard := none }
def p1o2 : Oper := { dst := some 9, op := Op.fieldAddr 69 (Operand.tmp 8) 1, type := 0, pos := "net.go:73", after := #[{ on := 1, ground := Ground.data }], guard := none }
def p1o3 : Oper := { dst := some 10, op := Op.load 66 (Operand.tmp 9), type := 66, pos := "net.go:73", after := #[{ on := 2, ground := Ground.data }], guard := none }
def p1o4 : Oper := { dst := some 11, op := Op.load 34 (Operand.tmp 4), type := 34, pos := "net.go:73", after := #[], guard := none }
def p1o5 : Oper := { dst := some 12, op := Op.load 34 (Operand.tmp 5), type := 34, pos := "net.go:73", after := #[], guard := none }
def p1o6 : Oper := { dst := some 13, op := Op.build 76 #[(0, Operand.tmp 11), (1, Operand.tmp 12)], type := 76, pos := "net.go:73", after := #[{ on := 4, ground := Ground.data }, { on := 5, ground := Ground.data }], guard := none }
def p1o7 : Oper := { dst := some 14, op := Op.lookup 66 (Operand.tmp 10) (Operand.tmp 13) false, type := 3, pos := "net.go:73", after := #[{ on := 3, ground := Ground.data }, { on := 6, ground := Ground.data }], guard := none }
def p1o8 : Oper := { dst := some 6, op := Op.assign (Operand.tmp 14), type := 3, pos := "net.go:73", after := #[{ on := 7, ground := Ground.data }, { on := 0, ground := Ground.phase }, { on := 1, ground := Ground.phase }, { on := 2, ground := Ground.phase }, { on := 3, ground := Ground.phase }, { on := 4, ground := Ground.phase }, { on := 5, ground := Ground.phase }, { on := 6, ground := Ground.phase }, { on := 7, ground := Ground.phase }], guard := none }
def p1ops : Array Oper := #[p1o0, p1o1, p1o2, p1o3, p1o4, p1o5, p1o6, p1o7, p1o8]
set_option maxRecDepth 100000 in
set_option maxHeartbeats 4000000 in
theorem p1 (a : Act) (n A B : Nat) (x y : Ad) (mv v : Value) (ov : Option Value) (m0 m2 m3 : Value) (wm : World) (Q : Exit → Act → World → Prop) (hsz : a.tmps.size = 15) (h0 : a.eval (.tmp 0) = .pointer (some ⟨n, 0, none⟩)) (h4 : a.eval (.tmp 4) = .pointer (some ⟨A, 0, none⟩)) (h5 : a.eval (.tmp 5) = .pointer (some ⟨B, 0, none⟩)) (hc0 : Box wm n 69 #[m0, mv, m2, m3]) (hc1 : Box wm A 34 #[.bool x.1, .int .i64 x.2]) (hc2 : Box wm B 34 #[.bool y.1, .int .i64 y.2]) (hc3 : LkV mkP wm mv (x, y) ov) (hv : tupOk (ov.getD (.int .i64 0)) ov.isSome false = v) (hQ : ∀ c (a : Act) t v w, Q (.panic c) (a.put t v) w → Q (.panic c) a w)
    (h : ∀ wo, Kept No wm wo → Q .normal (((((((((a.put (some 7) (.pointer (some ⟨n, 0, none⟩))).put (some 8) (.pointer (some ⟨n, 0, none⟩))).put (some 9) (.pointer (some ⟨n, 1, none⟩))).put (some 10) (mv)).put (some 11) (mkA x)).put (some 12) (mkA y)).put (some 13) (mkP (x, y))).put (some 14) (v)).put (some 6) (v)) wo) :
    Code.wp Try.prog (.region 1 p1ops true) Q a wm := by
  unfold p1ops
  refine wp_region_held_drew (S := fun w' => Box w' n 69 #[m0, mv, m2, m3] ∧ Box w' A 34 #[.bool x.1, .int .i64 x.2] ∧ Box w' B 34 #[.bool y.1, .int .i64 y.2] ∧ LkV mkP w' mv (x, y) ov) rfl ⟨hc0, hc1, hc2, hc3⟩ (fun hH => ?_)
  refine Wa.aT (i := 0) (oi := p1o0) (v := .pointer (some ⟨n, 0, none⟩)) (fun _ hw => exec_mv rfl (by assumption)) hH ?_ (hQ := fun _ _ _ h => hQ _ _ _ _ _ h)
  refine Wa.aT (i := 1) (oi := p1o1) (v := .pointer (some ⟨n, 0, none⟩)) (fun _ hw => exec_nil rfl (by simp [p1o0, ev_ne, ev_eq, sz_put, put_none, evc, hsz, h0, h4, h5])) hH ?_ (hQ := fun _ _ _ h => hQ _ _ _ _ _ h)
  refine Wa.aT (i := 2) (oi := p1o2) (v := .pointer (some ⟨n, 1, none⟩)) (fun _ hw => exec_f69_1 rfl (by simp [p1o0, p1o1, ev_ne, ev_eq, sz_put, put_none, evc, hsz, h0, h4, h5])) hH ?_ (hQ := fun _ _ _ h => hQ _ _ _ _ _ h)
  refine Wa.aT (i := 3) (oi := p1o3) (v := mv) (fun _ hw => Wa.exec_load 66 _ rfl ⟨n, 1, none⟩ (by simp [p1o0, p1o1, p1o2, ev_ne, ev_eq, sz_put, put_none, evc, hsz, h0, h4, h5]) _ (Wa.load_one (hw.1.cell 1) Try.underlying66 rfl)) hH ?_ (hQ := fun _ _ _ h => hQ _ _ _ _ _ h)
  refine Wa.aT (i := 4) (oi := p1o4) (v := mkA x) (fun _ hw => Wa.exec_load 34 _ rfl ⟨A, 0, none⟩ (by simp [p1o0, p1o1, p1o2, p1o3, ev_ne, ev_eq, sz_put, put_none, evc, hsz, h0, h4, h5]) _ (ld34_0 (rest := []) x hw.2.1)) hH ?_ (hQ := fun _ _ _ h => hQ _ _ _ _ _ h)
  refine Wa.any_step (i := 5) (o := p1o5) (v := mkA y) rfl (by kernel_rfl) (by kernel_rfl) (Wa.exec_load 34 _ rfl ⟨B, 0, none⟩ (by simp [p1o0, p1o1, p1o2, p1o3, p1o4, ev_ne, ev_eq, sz_put, put_none, evc, hsz, h0, h4, h5]) _ (ld34_0 (rest := []) y hH.2.2.1)) hH (fun hH => ?_)
  refine Wa.any_step (i := 6) (o := p1o6) (v := mkP (x, y)) rfl (by kernel_rfl) (by kernel_rfl) (exec_b76 rfl (by simp [p1o0, p1o1, p1o2, p1o3, p1o4, p1o5, ev_ne, ev_eq, sz_put, put_none, evc, hsz, h0, h4, h5]) (by simp [p1o0, p1o1, p1o2, p1o3, p1o4, p1o5, ev_ne, ev_eq, sz_put, put_none, evc, hsz, h0, h4, h5])) hH (fun hH => ?_)
  refine Wa.any_step (i := 7) (o := p1o7) (v := v) rfl (by kernel_rfl) (by kernel_rfl) (exec_lookV keyP hH.2.2.2 und66 (zer3 _) false rfl (by simp [p1o0, p1o1, p1o2, p1o3, p1o4, p1o5, p1o6, ev_ne, ev_eq, sz_put, put_none, evc, hsz, h0, h4, h5]) (by simp [p1o0, p1o1, p1o2, p1o3, p1o4, p1o5, p1o6, ev_ne, ev_eq, sz_put, put_none, evc, hsz, h0, h4, h5]) hv) hH (fun hH => ?_)
  refine Wa.any_step (i := 8) (o := p1o8) (v := v) rfl (by kernel_rfl) (by kernel_rfl) (exec_as rfl (by simp [p1o0, p1o1, p1o2, p1o3, p1o4, p1o5, p1o6, p1o7, ev_ne, ev_eq, sz_put, put_none, evc, hsz, h0, h4, h5])) hH (fun hH => ?_)
  refine wpAnyH_done (by kernel_rfl) ?_ _
  simp only [p1o0, p1o1, p1o2, p1o3, p1o4, p1o5, p1o6, p1o7, p1o8, put_none]
  exact h _ (Kept.refl No wm).drew
def l1o0 : Oper := { dst := some 10, op := Op.move (Operand.tmp 0), type := 23, pos := "way.go:44", after := #[], guard := none }
def l1o1 : Oper := { dst := some 11, op := Op.nilCheck (Operand.tmp 10), type := 0, pos := "way.go:44", after := #[{ on := 0, ground := Ground.data }], guard := none }
def l1o2 : Oper := { dst := some 12, op := Op.fieldAddr 69 (Operand.tmp 11) 2, type := 0, pos := "way.go:44", after := #[{ on := 1, ground := Ground.data }], guard := none }
def l1o3 : Oper := { dst := some 13, op := Op.load 67 (Operand.tmp 12), type := 67, pos := "way.go:44", after := #[{ on := 2, ground := Ground.data }], guard := none }
def l1o4 : Oper := { dst := some 14, op := Op.load 79 (Operand.tmp 3), type := 79, pos := "way.go:44", after := #[], guard := none }
def l1o5 : Oper := { dst := some 15, op := Op.lookup 67 (Operand.tmp 13) (Operand.tmp 14) true, type := 82, pos := "way.go:44", after := #[{ on := 3, ground := Ground.data }, { on := 4, ground := Ground.data }], guard := none }
def l1o6 : Oper := { dst := some 9, op := Op.move (Operand.tmp 15), type := 82, pos := "way.go:44", after := #[{ on := 5, ground := Ground.data }], guard := none }
def l1o7 : Oper := { dst := some 16, op := Op.extract (Operand.tmp 9) 0, type := 81, pos := "way.go:44", after := #[{ on := 6, ground := Ground.data }], guard := none }
def l1o8 : Oper := { dst := some 17, op := Op.extract (Operand.tmp 9) 1, type := 4, pos := "way.go:44", after := #[{ on := 6, ground := Ground.data }, { on := 10, ground := Ground.gcOnly Departure.lateStores }], guard := none }
def l1o9 : Oper := { dst := some 6, op := Op.alloc 81, type := 0, pos := "way.go:44", after := #[], guard := none }
def l1o10 : Oper := { dst := none, op := Op.store 81 (Operand.tmp 6) (Operand.tmp 16), type := 0, pos := "way.go:44", after := #[{ on := 9, ground := Ground.data }, { on := 7, ground := Ground.data }, { on := 0, ground := Ground.phase }, { on := 1, ground := Ground.phase }, { on := 2, ground := Ground.phase }, { on := 3, ground := Ground.phase }, { on := 4, ground := Ground.phase }, { on := 5, ground := Ground.phase }, { on := 6, ground := Ground.phase }, { on := 7, ground := Ground.phase }, { on := 8, ground := Ground.textOnly Departure.lateStores }, { on := 9, ground := Ground.phase }], guard := none }
def l1o11 : Oper := { dst := some 7, op := Op.assign (Operand.tmp 17), type := 4, pos := "way.go:44", after := #[{ on := 8, ground := Ground.data }, { on := 10, ground := Ground.chain }, { on := 0, ground := Ground.phase }, { on := 1, ground := Ground.phase }, { on := 2, ground := Ground.phase }, { on := 3, ground := Ground.phase }, { on := 4, ground := Ground.phase }, { on := 5, ground := Ground.phase }, { on := 6, ground := Ground.phase }, { on := 7, ground := Ground.phase }, { on := 8, ground := Ground.phase }, { on := 9, ground := Ground.phase }, { on := 10, ground := Ground.phase }], guard := none }
def l1ops : Array Oper := #[l1o0, l1o1, l1o2, l1o3, l1o4, l1o5, l1o6, l1o7, l1o8, l1o9, l1o10, l1o11]
set_option maxRecDepth 100000 in
set_option maxHeartbeats 4000000 in
theorem l1 (a : Act) (n W : Nat) (q : Nm) (mv : Value) (ov : Option Value) (c0 c1 c2 c3 : Value) (ok : Bool) (m0 m1 m3 : Value) (wm : World) (Q : Exit → Act → World → Prop) (hsz : a.tmps.size = 67) (h0 : a.eval (.tmp 0) = .pointer (some ⟨n, 0, none⟩)) (h3 : a.eval (.tmp 3) = .pointer (some ⟨W, 0, none⟩)) (hc0 : Box wm n 69 #[m0, m1, mv, m3]) (hc1 : Box wm W 79 #[.bool q.1.1, .int .i64 q.1.2, .int .i64 q.2]) (hc2 : LkV mkN wm mv q ov) (hv : tupOk (ov.getD (.agg #[.bool false, .int .i64 0, .slice none 0 0, .slice none 0 0])) ov.isSome true = .tuple #[.agg #[c0, c1, c2, c3], .bool ok]) (hone : #[c0, c1, c2, c3].all (·.oneCell') = true) (hQ : ∀ c (a : Act) t v w, Q (.panic c) (a.put t v) w → Q (.panic c) a w)
    (h : ∀ wo (G : Nat), Box wo G 81 #[c0, c1, c2, c3] → wm.heap.size ≤ G → Kept No wm wo → Q .normal (((((((((((a.put (some 10) (.pointer (some ⟨n, 0, none⟩))).put (some 11) (.pointer (some ⟨n, 0, none⟩))).put (some 12) (.pointer (some ⟨n, 2, none⟩))).put (some 13) (mv)).put (some 14) (mkN q)).put (some 15) (.tuple #[.agg #[c0, c1, c2, c3], .bool ok])).put (some 9) (.tuple #[.agg #[c0, c1, c2, c3], .bool ok])).put (some 16) (.agg #[c0, c1, c2, c3])).put (some 17) (.bool ok)).put (some 6) (.pointer (some ⟨G, 0, none⟩))).put (some 7) (.bool ok)) wo) :
    Code.wp Try.prog (.region 1 l1ops true) Q a wm := by
  unfold l1ops
  refine wp_region_held_drew (S := fun w' => Box w' n 69 #[m0, m1, mv, m3] ∧ Box w' W 79 #[.bool q.1.1, .int .i64 q.1.2, .int .i64 q.2] ∧ LkV mkN w' mv q ov) rfl ⟨hc0, hc1, hc2⟩ (fun hH => ?_)
  have HK : Kept No wm wm.drew := (Kept.refl No wm).drew
  generalize wm.drew = wq0 at HK hH ⊢
  refine Wa.aT (i := 0) (oi := l1o0) (v := .pointer (some ⟨n, 0, none⟩)) (fun _ hw => exec_mv rfl (by assumption)) hH ?_ (hQ := fun _ _ _ h => hQ _ _ _ _ _ h)
  refine Wa.aT (i := 1) (oi := l1o1) (v := .pointer (some ⟨n, 0, none⟩)) (fun _ hw => exec_nil rfl (by simp [l1o0, ev_ne, ev_eq, sz_put, put_none, evc, hsz, h0, h3])) hH ?_ (hQ := fun _ _ _ h => hQ _ _ _ _ _ h)
  refine Wa.aT (i := 2) (oi := l1o2) (v := .pointer (some ⟨n, 2, none⟩)) (fun _ hw => exec_f69_2 rfl (by simp [l1o0, l1o1, ev_ne, ev_eq, sz_put, put_none, evc, hsz, h0, h3])) hH ?_ (hQ := fun _ _ _ h => hQ _ _ _ _ _ h)
  refine Wa.aT (i := 3) (oi := l1o3) (v := mv) (fun _ hw => Wa.exec_load 67 _ rfl ⟨n, 2, none⟩ (by simp [l1o0, l1o1, l1o2, ev_ne, ev_eq, sz_put, put_none, evc, hsz, h0, h3]) _ (Wa.load_one (hw.1.cell 2) Try.underlying67 rfl)) hH ?_ (hQ := fun _ _ _ h => hQ _ _ _ _ _ h)
  refine Wa.aT (i := 4) (oi := l1o4) (v := mkN q) (fun _ hw => Wa.exec_load 79 _ rfl ⟨W, 0, none⟩ (by simp [l1o0, l1o1, l1o2, l1o3, ev_ne, ev_eq, sz_put, put_none, evc, hsz, h0, h3]) _ (ld79 q hw.2.1)) hH ?_ (hQ := fun _ _ _ h => hQ _ _ _ _ _ h)
  refine Wa.aT (i := 5) (oi := l1o5) (v := .tuple #[.agg #[c0, c1, c2, c3], .bool ok]) (fun _ hw => exec_lookV keyN hw.2.2 und67 (zer81 _) true rfl (by simp [l1o0, l1o1, l1o2, l1o3, l1o4, ev_ne, ev_eq, sz_put, put_none, evc, hsz, h0, h3]) (by simp [l1o0, l1o1, l1o2, l1o3, l1o4, ev_ne, ev_eq, sz_put, put_none, evc, hsz, h0, h3]) hv) hH ?_ (hQ := fun _ _ _ h => hQ _ _ _ _ _ h)
  refine Wa.aT (i := 6) (oi := l1o6) (v := .tuple #[.agg #[c0, c1, c2, c3], .bool ok]) (fun _ hw => exec_mv rfl (by simp [l1o0, l1o1, l1o2, l1o3, l1o4, l1o5, ev_ne, ev_eq, sz_put, put_none, evc, hsz, h0, h3])) hH ?_ (hQ := fun _ _ _ h => hQ _ _ _ _ _ h)
  refine Wa.aT (i := 7) (oi := l1o7) (v := .agg #[c0, c1, c2, c3]) (fun _ hw => exec_ext (vs := #[.agg #[c0, c1, c2, c3], .bool ok]) rfl (by simp [l1o0, l1o1, l1o2, l1o3, l1o4, l1o5, l1o6, ev_ne, ev_eq, sz_put, put_none, evc, hsz, h0, h3]) rfl) hH ?_ (hQ := fun _ _ _ h => hQ _ _ _ _ _ h)
  refine Wa.aT (i := 8) (oi := l1o8) (v := .bool ok) (fun _ hw => exec_ext (vs := #[.agg #[c0, c1, c2, c3], .bool ok]) rfl (by simp [l1o0, l1o1, l1o2, l1o3, l1o4, l1o5, l1o6, l1o7, ev_ne, ev_eq, sz_put, put_none, evc, hsz, h0, h3]) rfl) hH ?_ (hQ := fun _ _ _ h => hQ _ _ _ _ _ h)
  have hal : Kept No wq0 (wq0.alloc (.cells #[.bool false, .int .i64 0, .slice none 0 0, .slice none 0 0] 81)) := (Kept.refl No _).alloc _
  have hbx : Box (wq0.alloc (.cells #[.bool false, .int .i64 0, .slice none 0 0, .slice none 0 0] 81)) wq0.heap.size 81 #[.bool false, .int .i64 0, .slice none 0 0, .slice none 0 0] := Box.new _ _ _
  have hsz0 := HK.size
  have hH1 : (fun w' => Box w' n 69 #[m0, m1, mv, m3] ∧ Box w' W 79 #[.bool q.1.1, .int .i64 q.1.2, .int .i64 q.2] ∧ LkV mkN w' mv q ov) (wq0.alloc (.cells #[.bool false, .int .i64 0, .slice none 0 0, .slice none 0 0] 81)) := ⟨hH.1.kept hal (fun e => e), hH.2.1.kept hal (fun e => e), hH.2.2.kept hal (fun _ _ e => e)⟩
  refine Wa.any_step (i := 9) (o := l1o9) rfl (by kernel_rfl) (by kernel_rfl) (Wa.exec_alloc 81 rfl #[.bool false, .int .i64 0, .slice none 0 0, .slice none 0 0] (by kernel_rfl)) hH1 (fun _ => ?_)
  have hn : n ≠ wq0.heap.size := fun e => by have := hH.1.lt; omega
  have hW : W ≠ wq0.heap.size := fun e => by have := hH.2.1.lt; omega
  have hb : ∀ b, mv = .map (some b) → b ≠ wq0.heap.size := fun b eb e => by
    rcases hH.2.2 with ⟨h1, _⟩ | ⟨b', g, h1, h2, _⟩
    · rw [h1] at eb; cases eb
    · rw [h1] at eb; cases eb; have := h2.lt; omega
  generalize wq0.alloc (.cells #[.bool false, .int .i64 0, .slice none 0 0, .slice none 0 0] 81) = w1 at hal hbx hH1 ⊢
  have hlo : wm.heap.size ≤ wq0.heap.size := hsz0
  clear hH
  generalize wq0.heap.size = G at hn hW hb hbx hlo ⊢
  have hH2 : (fun w' => Box w' n 69 #[m0, m1, mv, m3] ∧ Box w' W 79 #[.bool q.1.1, .int .i64 q.1.2, .int .i64 q.2] ∧ LkV mkN w' mv q ov) (w1.setRow G #[c0, c1, c2, c3]) := ⟨hH1.1.kept (Wa.Kept.setRow _ _ _) (fun e => hn e), hH1.2.1.kept (Wa.Kept.setRow _ _ _) (fun e => hW e), hH1.2.2.kept (Wa.Kept.setRow _ _ _) (fun b eb e => hb b eb e)⟩
  refine Wa.any_store (i := 10) (o := l1o10) rfl (by kernel_rfl) (by kernel_rfl) 81 _ _ rfl ⟨G, 0, none⟩ (.agg #[c0, c1, c2, c3]) (by simp [l1o0, l1o1, l1o2, l1o3, l1o4, l1o5, l1o6, l1o7, l1o8, l1o9, ev_ne, ev_eq, sz_put, put_none, evc, hsz, h0, h3]) (by simp [l1o0, l1o1, l1o2, l1o3, l1o4, l1o5, l1o6, l1o7, l1o8, l1o9, ev_ne, ev_eq, sz_put, put_none, evc, hsz, h0, h3]) (run_storeVar_row w1 G 81 81 _ _ hbx (by kernel_rfl) rfl hone) hH2 (fun hH => ?_)
  refine Wa.any_step (i := 11) (o := l1o11) (v := .bool ok) rfl (by kernel_rfl) (by kernel_rfl) (exec_as rfl (by simp [l1o0, l1o1, l1o2, l1o3, l1o4, l1o5, l1o6, l1o7, l1o8, l1o9, l1o10, ev_ne, ev_eq, sz_put, put_none, evc, hsz, h0, h3])) hH (fun hH => ?_)
  refine wpAnyH_done (by kernel_rfl) ?_ _
  simp only [l1o0, l1o1, l1o2, l1o3, l1o4, l1o5, l1o6, l1o7, l1o8, l1o9, l1o10, l1o11, put_none]
  exact h _ G (Wa.Box.setRow hbx _) hlo ((HK.then hal).trans (Wa.Kept.setRow _ _ _) (fun _ e => e) (fun j l e => by have e : j = G := e; omega))
def d2o0 : Oper := { dst := some 14, op := Op.move (Operand.tmp 0), type := 23, pos := "net.go:51", after := #[], guard := none }
def d2o1 : Oper := { dst := some 15, op := Op.nilCheck (Operand.tmp 14), type := 0, pos := "net.go:51", after := #[{ on := 0, ground := Ground.data }], guard := none }
def d2o2 : Oper := { dst := some 16, op := Op.fieldAddr 69 (Operand.tmp 15) 2, type := 0, pos := "net.go:51", after := #[{ on := 1, ground := Ground.data }], guard := none }
def d2o3 : Oper := { dst := some 17, op := Op.load 67 (Operand.tmp 16), type := 67, pos := "net.go:51", after := #[{ on := 2, ground := Ground.data }], guard := none }
def d2o4 : Oper := { dst := some 18, op := Op.load 79 (Operand.tmp 7), type := 79, pos := "net.go:51", after := #[], guard := none }
def d2o5 : Oper := { dst := some 19, op := Op.lookup 67 (Operand.tmp 17) (Operand.tmp 18) true, type := 82, pos := "net.go:51", after := #[{ on := 3, ground := Ground.data }, { on := 4, ground := Ground.data }], guard := none }
def d2o6 : Oper := { dst := some 13, op := Op.move (Operand.tmp 19), type := 82, pos := "net.go:51", after := #[{ on := 5, ground := Ground.data }], guard := none }
def d2o7 : Oper := { dst := some 20, op := Op.extract (Operand.tmp 13) 0, type := 81, pos := "net.go:51", after := #[{ on := 6, ground := Ground.data }], guard := none }
def d2o8 : Oper := { dst := some 21, op := Op.extract (Operand.tmp 13) 1, type := 4, pos := "net.go:51", after := #[{ on := 6, ground := Ground.data }, { on := 10, ground := Ground.gcOnly Departure.lateStores }], guard := none }
def d2o9 : Oper := { dst := some 8, op := Op.alloc 81, type := 0, pos := "net.go:51", after := #[], guard := none }
def d2o10 : Oper := { dst := none, op := Op.store 81 (Operand.tmp 8) (Operand.tmp 20), type := 0, pos := "net.go:51", after := #[{ on := 9, ground := Ground.data }, { on := 7, ground := Ground.data }, { on := 0, ground := Ground.phase }, { on := 1, ground := Ground.phase }, { on := 2, ground := Ground.phase }, { on := 3, ground := Ground.phase }, { on := 4, ground := Ground.phase }, { on := 5, ground := Ground.phase }, { on := 6, ground := Ground.phase }, { on := 7, ground := Ground.phase }, { on := 8, ground := Ground.textOnly Departure.lateStores }, { on := 9, ground := Ground.phase }], guard := none }
def d2o11 : Oper := { dst := some 9, op := Op.assign (Operand.tmp 21), type := 4, pos := "net.go:51", after := #[{ on := 8, ground := Ground.data }, { on := 10, ground := Ground.chain }, { on := 0, ground := Ground.phase }, { on := 1, ground := Ground.phase }, { on := 2, ground := Ground.phase }, { on := 3, ground := Ground.phase }, { on := 4, ground := Ground.phase }, { on := 5, ground := Ground.phase }, { on := 6, ground := Ground.phase }, { on := 7, ground := Ground.phase }, { on := 8, ground := Ground.phase }, { on := 9, ground := Ground.phase }, { on := 10, ground := Ground.phase }], guard := none }
def d2ops : Array Oper := #[d2o0, d2o1, d2o2, d2o3, d2o4, d2o5, d2o6, d2o7, d2o8, d2o9, d2o10, d2o11]
set_option maxRecDepth 100000 in
set_option maxHeartbeats 4000000 in
theorem d2 (a : Act) (n W : Nat) (q : Nm) (mv : Value) (ov : Option Value) (c0 c1 c2 c3 : Value) (ok : Bool) (m0 m1 m3 : Value) (wm : World) (Q : Exit → Act → World → Prop) (hsz : a.tmps.size = 28) (h0 : a.eval (.tmp 0) = .pointer (some ⟨n, 0, none⟩)) (h7 : a.eval (.tmp 7) = .pointer (some ⟨W, 0, none⟩)) (hc0 : Box wm n 69 #[m0, m1, mv, m3]) (hc1 : Box wm W 79 #[.bool q.1.1, .int .i64 q.1.2, .int .i64 q.2]) (hc2 : LkV mkN wm mv q ov) (hv : tupOk (ov.getD (.agg #[.bool false, .int .i64 0, .slice none 0 0, .slice none 0 0])) ov.isSome true = .tuple #[.agg #[c0, c1, c2, c3], .bool ok]) (hone : #[c0, c1, c2, c3].all (·.oneCell') = true) (hQ : ∀ c (a : Act) t v w, Q (.panic c) (a.put t v) w → Q (.panic c) a w)
    (h : ∀ wo (G : Nat), Box wo G 81 #[c0, c1, c2, c3] → wm.heap.size ≤ G → Kept No wm wo → Q .normal (((((((((((a.put (some 14) (.pointer (some ⟨n, 0, none⟩))).put (some 15) (.pointer (some ⟨n, 0, none⟩))).put (some 16) (.pointer (some ⟨n, 2, none⟩))).put (some 17) (mv)).put (some 18) (mkN q)).put (some 19) (.tuple #[.agg #[c0, c1, c2, c3], .bool ok])).put (some 13) (.tuple #[.agg #[c0, c1, c2, c3], .bool ok])).put (some 20) (.agg #[c0, c1, c2, c3])).put (some 21) (.bool ok)).put (some 8) (.pointer (some ⟨G, 0, none⟩))).put (some 9) (.bool ok)) wo) :
    Code.wp Try.prog (.region 2 d2ops true) Q a wm := by
  unfold d2ops
  refine wp_region_held_drew (S := fun w' => Box w' n 69 #[m0, m1, mv, m3] ∧ Box w' W 79 #[.bool q.1.1, .int .i64 q.1.2, .int .i64 q.2] ∧ LkV mkN w' mv q ov) rfl ⟨hc0, hc1, hc2⟩ (fun hH => ?_)
  have HK : Kept No wm wm.drew := (Kept.refl No wm).drew
  generalize wm.drew = wq0 at HK hH ⊢
  refine Wa.aT (i := 0) (oi := d2o0) (v := .pointer (some ⟨n, 0, none⟩)) (fun _ hw => exec_mv rfl (by assumption)) hH ?_ (hQ := fun _ _ _ h => hQ _ _ _ _ _ h)
  refine Wa.aT (i := 1) (oi := d2o1) (v := .pointer (some ⟨n, 0, none⟩)) (fun _ hw => exec_nil rfl (by simp [d2o0, ev_ne, ev_eq, sz_put, put_none, evc, hsz, h0, h7])) hH ?_ (hQ := fun _ _ _ h => hQ _ _ _ _ _ h)
  refine Wa.aT (i := 2) (oi := d2o2) (v := .pointer (some ⟨n, 2, none⟩)) (fun _ hw => exec_f69_2 rfl (by simp [d2o0, d2o1, ev_ne, ev_eq, sz_put, put_none, evc, hsz, h0, h7])) hH ?_ (hQ := fun _ _ _ h => hQ _ _ _ _ _ h)
  refine Wa.aT (i := 3) (oi := d2o3) (v := mv) (fun _ hw => Wa.exec_load 67 _ rfl ⟨n, 2, none⟩ (by simp [d2o0, d2o1, d2o2, ev_ne, ev_eq, sz_put, put_none, evc, hsz, h0, h7]) _ (Wa.load_one (hw.1.cell 2) Try.underlying67 rfl)) hH ?_ (hQ := fun _ _ _ h => hQ _ _ _ _ _ h)
  refine Wa.aT (i := 4) (oi := d2o4) (v := mkN q) (fun _ hw => Wa.exec_load 79 _ rfl ⟨W, 0, none⟩ (by simp [d2o0, d2o1, d2o2, d2o3, ev_ne, ev_eq, sz_put, put_none, evc, hsz, h0, h7]) _ (ld79 q hw.2.1)) hH ?_ (hQ := fun _ _ _ h => hQ _ _ _ _ _ h)
  refine Wa.aT (i := 5) (oi := d2o5) (v := .tuple #[.agg #[c0, c1, c2, c3], .bool ok]) (fun _ hw => exec_lookV keyN hw.2.2 und67 (zer81 _) true rfl (by simp [d2o0, d2o1, d2o2, d2o3, d2o4, ev_ne, ev_eq, sz_put, put_none, evc, hsz, h0, h7]) (by simp [d2o0, d2o1, d2o2, d2o3, d2o4, ev_ne, ev_eq, sz_put, put_none, evc, hsz, h0, h7]) hv) hH ?_ (hQ := fun _ _ _ h => hQ _ _ _ _ _ h)
  refine Wa.aT (i := 6) (oi := d2o6) (v := .tuple #[.agg #[c0, c1, c2, c3], .bool ok]) (fun _ hw => exec_mv rfl (by simp [d2o0, d2o1, d2o2, d2o3, d2o4, d2o5, ev_ne, ev_eq, sz_put, put_none, evc, hsz, h0, h7])) hH ?_ (hQ := fun _ _ _ h => hQ _ _ _ _ _ h)
  refine Wa.aT (i := 7) (oi := d2o7) (v := .agg #[c0, c1, c2, c3]) (fun _ hw => exec_ext (vs := #[.agg #[c0, c1, c2, c3], .bool ok]) rfl (by simp [d2o0, d2o1, d2o2, d2o3, d2o4, d2o5, d2o6, ev_ne, ev_eq, sz_put, put_none, evc, hsz, h0, h7]) rfl) hH ?_ (hQ := fun _ _ _ h => hQ _ _ _ _ _ h)
  refine Wa.aT (i := 8) (oi := d2o8) (v := .bool ok) (fun _ hw => exec_ext (vs := #[.agg #[c0, c1, c2, c3], .bool ok]) rfl (by simp [d2o0, d2o1, d2o2, d2o3, d2o4, d2o5, d2o6, d2o7, ev_ne, ev_eq, sz_put, put_none, evc, hsz, h0, h7]) rfl) hH ?_ (hQ := fun _ _ _ h => hQ _ _ _ _ _ h)
  have hal : Kept No wq0 (wq0.alloc (.cells #[.bool false, .int .i64 0, .slice none 0 0, .slice none 0 0] 81)) := (Kept.refl No _).alloc _
  have hbx : Box (wq0.alloc (.cells #[.bool false, .int .i64 0, .slice none 0 0, .slice none 0 0] 81)) wq0.heap.size 81 #[.bool false, .int .i64 0, .slice none 0 0, .slice none 0 0] := Box.new _ _ _
  have hsz0 := HK.size
  have hH1 : (fun w' => Box w' n 69 #[m0, m1, mv, m3] ∧ Box w' W 79 #[.bool q.1.1, .int .i64 q.1.2, .int .i64 q.2] ∧ LkV mkN w' mv q ov) (wq0.alloc (.cells #[.bool false, .int .i64 0, .slice none 0 0, .slice none 0 0] 81)) := ⟨hH.1.kept hal (fun e => e), hH.2.1.kept hal (fun e => e), hH.2.2.kept hal (fun _ _ e => e)⟩
  refine Wa.any_step (i := 9) (o := d2o9) rfl (by kernel_rfl) (by kernel_rfl) (Wa.exec_alloc 81 rfl #[.bool false, .int .i64 0, .slice none 0 0, .slice none 0 0] (by kernel_rfl)) hH1 (fun _ => ?_)
  have hn : n ≠ wq0.heap.size := fun e => by have := hH.1.lt; omega
  have hW : W ≠ wq0.heap.size := fun e => by have := hH.2.1.lt; omega
  have hb : ∀ b, mv = .map (some b) → b ≠ wq0.heap.size := fun b eb e => by
    rcases hH.2.2 with ⟨h1, _⟩ | ⟨b', g, h1, h2, _⟩
    · rw [h1] at eb; cases eb
    · rw [h1] at eb; cases eb; have := h2.lt; omega
  generalize wq0.alloc (.cells #[.bool false, .int .i64 0, .slice none 0 0, .slice none 0 0] 81) = w1 at hal hbx hH1 ⊢
  have hlo : wm.heap.size ≤ wq0.heap.size := hsz0
  clear hH
  generalize wq0.heap.size = G at hn hW hb hbx hlo ⊢
  have hH2 : (fun w' => Box w' n 69 #[m0, m1, mv, m3] ∧ Box w' W 79 #[.bool q.1.1, .int .i64 q.1.2, .int .i64 q.2] ∧ LkV mkN w' mv q ov) (w1.setRow G #[c0, c1, c2, c3]) := ⟨hH1.1.kept (Wa.Kept.setRow _ _ _) (fun e => hn e), hH1.2.1.kept (Wa.Kept.setRow _ _ _) (fun e => hW e), hH1.2.2.kept (Wa.Kept.setRow _ _ _) (fun b eb e => hb b eb e)⟩
  refine Wa.any_store (i := 10) (o := d2o10) rfl (by kernel_rfl) (by kernel_rfl) 81 _ _ rfl ⟨G, 0, none⟩ (.agg #[c0, c1, c2, c3]) (by simp [d2o0, d2o1, d2o2, d2o3, d2o4, d2o5, d2o6, d2o7, d2o8, d2o9, ev_ne, ev_eq, sz_put, put_none, evc, hsz, h0, h7]) (by simp [d2o0, d2o1, d2o2, d2o3, d2o4, d2o5, d2o6, d2o7, d2o8, d2o9, ev_ne, ev_eq, sz_put, put_none, evc, hsz, h0, h7]) (run_storeVar_row w1 G 81 81 _ _ hbx (by kernel_rfl) rfl hone) hH2 (fun hH => ?_)
  refine Wa.any_step (i := 11) (o := d2o11) (v := .bool ok) rfl (by kernel_rfl) (by kernel_rfl) (exec_as rfl (by simp [d2o0, d2o1, d2o2, d2o3, d2o4, d2o5, d2o6, d2o7, d2o8, d2o9, d2o10, ev_ne, ev_eq, sz_put, put_none, evc, hsz, h0, h7])) hH (fun hH => ?_)
  refine wpAnyH_done (by kernel_rfl) ?_ _
  simp only [d2o0, d2o1, d2o2, d2o3, d2o4, d2o5, d2o6, d2o7, d2o8, d2o9, d2o10, d2o11, put_none]
  exact h _ G (Wa.Box.setRow hbx _) hlo ((HK.then hal).trans (Wa.Kept.setRow _ _ _) (fun _ e => e) (fun j l e => by have e : j = G := e; omega))
def c7o0 : Oper := { dst := some 45, op := Op.move (Operand.tmp 0), type := 23, pos := "way.go:38", after := #[], guard := none }
def c7o1 : Oper := { dst := some 46, op := Op.nilCheck (Operand.tmp 45), type := 0, pos := "way.go:38", after := #[{ on := 0, ground := Ground.data }], guard := none }
def c7o2 : Oper := { dst := some 47, op := Op.fieldAddr 69 (Operand.tmp 46) 2, type := 0, pos := "way.go:38", after := #[{ on := 1, ground := Ground.data }], guard := none }
def c7o3 : Oper := { dst := some 48, op := Op.load 67 (Operand.tmp 47), type := 67, pos := "way.go:38", after := #[{ on := 2, ground := Ground.data }], guard := none }
def c7o4 : Oper := { dst := some 49, op := Op.load 79 (Operand.tmp 4), type := 79, pos := "way.go:38", after := #[], guard := none }
def c7o5 : Oper := { dst := some 50, op := Op.load 81 (Operand.tmp 5), type := 81, pos := "way.go:38", after := #[], guard := none }
def c7o6 : Oper := { dst := none, op := Op.mapUpdate 67 (Operand.tmp 48) (Operand.tmp 49) (Operand.tmp 50), type := 0, pos := "way.go:38", after := #[{ on := 3, ground := Ground.data }, { on := 4, ground := Ground.data }, { on := 5, ground := Ground.data }, { on := 0, ground := Ground.phase }, { on := 1, ground := Ground.phase }, { on := 2, ground := Ground.phase }, { on := 3, ground := Ground.phase }, { on := 4, ground := Ground.phase }, { on := 5, ground := Ground.phase }], guard := none }
def c7ops : Array Oper := #[c7o0, c7o1, c7o2, c7o3, c7o4, c7o5, c7o6]
set_option maxRecDepth 100000 in
set_option maxHeartbeats 4000000 in
theorem c7 (a : Act) (n W A b : Nat) (q : Nm) (g : Nm → Option Value) (c0 c1 c2 c3 : Value) (m0 m1 m3 : Value) (wm : World) (Q : Exit → Act → World → Prop) (hsz : a.tmps.size = 51) (h0 : a.eval (.tmp 0) = .pointer (some ⟨n, 0, none⟩)) (h4 : a.eval (.tmp 4) = .pointer (some ⟨W, 0, none⟩)) (h5 : a.eval (.tmp 5) = .pointer (some ⟨A, 0, none⟩)) (hc0 : Box wm n 69 #[m0, m1, .map (some b), m3]) (hc1 : Box wm W 79 #[.bool q.1.1, .int .i64 q.1.2, .int .i64 q.2]) (hc2 : Box wm A 81 #[c0, c1, c2, c3]) (hm : MapG mkN wm b g) (hQ : ∀ c (a : Act) t v w, Q (.panic c) (a.put t v) w → Q (.panic c) a w)
    (h : ∀ wo, MapG mkN wo b (upG g q (some (.agg #[c0, c1, c2, c3]))) → Kept (Only b) wm wo → Q .normal ((((((a.put (some 45) (.pointer (some ⟨n, 0, none⟩))).put (some 46) (.pointer (some ⟨n, 0, none⟩))).put (some 47) (.pointer (some ⟨n, 2, none⟩))).put (some 48) (.map (some b))).put (some 49) (mkN q)).put (some 50) (.agg #[c0, c1, c2, c3])) wo) :
    Code.wp Try.prog (.region 7 c7ops true) Q a wm := by
  unfold c7ops
  refine wp_region_held_drew (S := fun w' => Box w' n 69 #[m0, m1, .map (some b), m3] ∧ Box w' W 79 #[.bool q.1.1, .int .i64 q.1.2, .int .i64 q.2] ∧ Box w' A 81 #[c0, c1, c2, c3]) rfl ⟨hc0, hc1, hc2⟩ (fun hH => ?_)
  have HM : MapG mkN wm.drew b g := hm
  have HK : Kept No wm wm.drew := (Kept.refl No wm).drew
  generalize wm.drew = wq0 at HK HM hH ⊢
  refine Wa.aT (i := 0) (oi := c7o0) (v := .pointer (some ⟨n, 0, none⟩)) (fun _ hw => exec_mv rfl (by assumption)) hH ?_ (hQ := fun _ _ _ h => hQ _ _ _ _ _ h)
  refine Wa.aT (i := 1) (oi := c7o1) (v := .pointer (some ⟨n, 0, none⟩)) (fun _ hw => exec_nil rfl (by simp [c7o0, ev_ne, ev_eq, sz_put, put_none, evc, hsz, h0, h4, h5])) hH ?_ (hQ := fun _ _ _ h => hQ _ _ _ _ _ h)
  refine Wa.aT (i := 2) (oi := c7o2) (v := .pointer (some ⟨n, 2, none⟩)) (fun _ hw => exec_f69_2 rfl (by simp [c7o0, c7o1, ev_ne, ev_eq, sz_put, put_none, evc, hsz, h0, h4, h5])) hH ?_ (hQ := fun _ _ _ h => hQ _ _ _ _ _ h)
  refine Wa.aT (i := 3) (oi := c7o3) (v := .map (some b)) (fun _ hw => Wa.exec_load 67 _ rfl ⟨n, 2, none⟩ (by simp [c7o0, c7o1, c7o2, ev_ne, ev_eq, sz_put, put_none, evc, hsz, h0, h4, h5]) _ (Wa.load_one (hw.1.cell 2) Try.underlying67 rfl)) hH ?_ (hQ := fun _ _ _ h => hQ _ _ _ _ _ h)
  refine Wa.aT (i := 4) (oi := c7o4) (v := mkN q) (fun _ hw => Wa.exec_load 79 _ rfl ⟨W, 0, none⟩ (by simp [c7o0, c7o1, c7o2, c7o3, ev_ne, ev_eq, sz_put, put_none, evc, hsz, h0, h4, h5]) _ (ld79 q hw.2.1)) hH ?_ (hQ := fun _ _ _ h => hQ _ _ _ _ _ h)
  refine Wa.any_step (i := 5) (o := c7o5) (v := .agg #[c0, c1, c2, c3]) rfl (by kernel_rfl) (by kernel_rfl) (Wa.exec_load 81 _ rfl ⟨A, 0, none⟩ (by simp [c7o0, c7o1, c7o2, c7o3, c7o4, ev_ne, ev_eq, sz_put, put_none, evc, hsz, h0, h4, h5]) _ (ld81 hH.2.2)) hH (fun hH => ?_)
  obtain ⟨w1, hr1, hm1, hk1, hz1⟩ := updG' keyN HM und67 q (.agg #[c0, c1, c2, c3])
  have hH1 : (fun w' => Box w' n 69 #[m0, m1, .map (some b), m3] ∧ Box w' W 79 #[.bool q.1.1, .int .i64 q.1.2, .int .i64 q.2] ∧ Box w' A 81 #[c0, c1, c2, c3]) w1 := ⟨hH.1.kept hk1 (fun e => hH.1.neMap HM e), hH.2.1.kept hk1 (fun e => hH.2.1.neMap HM e), hH.2.2.kept hk1 (fun e => hH.2.2.neMap HM e)⟩
  refine any_do (i := 6) (o := c7o6) rfl (by kernel_rfl) (by kernel_rfl) (exec_upd rfl (by simp [c7o0, c7o1, c7o2, c7o3, c7o4, c7o5, ev_ne, ev_eq, sz_put, put_none, evc, hsz, h0, h4, h5]) (by simp [c7o0, c7o1, c7o2, c7o3, c7o4, c7o5, ev_ne, ev_eq, sz_put, put_none, evc, hsz, h0, h4, h5]) (by simp [c7o0, c7o1, c7o2, c7o3, c7o4, c7o5, ev_ne, ev_eq, sz_put, put_none, evc, hsz, h0, h4, h5]) hr1) hH1 (fun hH => ?_)
  refine wpAnyH_done (by kernel_rfl) ?_ _
  simp only [c7o0, c7o1, c7o2, c7o3, c7o4, c7o5, c7o6, put_none]
  exact h _ hm1 (HK.of_no.then hk1)
def l6o0 : Oper := { dst := some 29, op := Op.move (Operand.tmp 0), type := 23, pos := "way.go:49", after := #[], guard := none }
def l6o1 : Oper := { dst := some 30, op := Op.nilCheck (Operand.tmp 29), type := 0, pos := "way.go:49", after := #[{ on := 0, ground := Ground.data }], guard := none }
def l6o2 : Oper := { dst := some 31, op := Op.fieldAddr 69 (Operand.tmp 30) 2, type := 0, pos := "way.go:49", after := #[{ on := 1, ground := Ground.data }], guard := none }
def l6o3 : Oper := { dst := some 32, op := Op.load 67 (Operand.tmp 31), type := 67, pos := "way.go:49", after := #[{ on := 2, ground := Ground.data }], guard := none }
def l6o4 : Oper := { dst := some 33, op := Op.load 79 (Operand.tmp 3), type := 79, pos := "way.go:49", after := #[], guard := none }
def l6o5 : Oper := { dst := some 34, op := Op.load 81 (Operand.tmp 6), type := 81, pos := "way.go:49", after := #[], guard := none }
def l6o6 : Oper := { dst := none, op := Op.mapUpdate 67 (Operand.tmp 32) (Operand.tmp 33) (Operand.tmp 34), type := 0, pos := "way.go:49", after := #[{ on := 3, ground := Ground.data }, { on := 4, ground := Ground.data }, { on := 5, ground := Ground.data }, { on := 0, ground := Ground.phase }, { on := 1, ground := Ground.phase }, { on := 2, ground := Ground.phase }, { on := 3, ground := Ground.phase }, { on := 4, ground := Ground.phase }, { on := 5, ground := Ground.phase }], guard := none }
def l6ops : Array Oper := #[l6o0, l6o1, l6o2, l6o3, l6o4, l6o5, l6o6]
set_option maxRecDepth 100000 in
set_option maxHeartbeats 4000000 in
theorem l6 (a : Act) (n W A b : Nat) (q : Nm) (g : Nm → Option Value) (c0 c1 c2 c3 : Value) (m0 m1 m3 : Value) (wm : World) (Q : Exit → Act → World → Prop) (hsz : a.tmps.size = 67) (h0 : a.eval (.tmp 0) = .pointer (some ⟨n, 0, none⟩)) (h3 : a.eval (.tmp 3) = .pointer (some ⟨W, 0, none⟩)) (h6 : a.eval (.tmp 6) = .pointer (some ⟨A, 0, none⟩)) (hc0 : Box wm n 69 #[m0, m1, .map (some b), m3]) (hc1 : Box wm W 79 #[.bool q.1.1, .int .i64 q.1.2, .int .i64 q.2]) (hc2 : Box wm A 81 #[c0, c1, c2, c3]) (hm : MapG mkN wm b g) (hQ : ∀ c (a : Act) t v w, Q (.panic c) (a.put t v) w → Q (.panic c) a w)
    (h : ∀ wo, MapG mkN wo b (upG g q (some (.agg #[c0, c1, c2, c3]))) → Kept (Only b) wm wo → Q .normal ((((((a.put (some 29) (.pointer (some ⟨n, 0, none⟩))).put (some 30) (.pointer (some ⟨n, 0, none⟩))).put (some 31) (.pointer (some ⟨n, 2, none⟩))).put (some 32) (.map (some b))).put (some 33) (mkN q)).put (some 34) (.agg #[c0, c1, c2, c3])) wo) :
    Code.wp Try.prog (.region 6 l6ops true) Q a wm := by
  unfold l6ops
  refine wp_region_held_drew (S := fun w' => Box w' n 69 #[m0, m1, .map (some b), m3] ∧ Box w' W 79 #[.bool q.1.1, .int .i64 q.1.2, .int .i64 q.2] ∧ Box w' A 81 #[c0, c1, c2, c3]) rfl ⟨hc0, hc1, hc2⟩ (fun hH => ?_)
  have HM : MapG mkN wm.drew b g := hm
  have HK : Kept No wm wm.drew := (Kept.refl No wm).drew
  generalize wm.drew = wq0 at HK HM hH ⊢
  refine Wa.aT (i := 0) (oi := l6o0) (v := .pointer (some ⟨n, 0, none⟩)) (fun _ hw => exec_mv rfl (by assumption)) hH ?_ (hQ := fun _ _ _ h => hQ _ _ _ _ _ h)
  refine Wa.aT (i := 1) (oi := l6o1) (v := .pointer (some ⟨n, 0, none⟩)) (fun _ hw => exec_nil rfl (by simp [l6o0, ev_ne, ev_eq, sz_put, put_none, evc, hsz, h0, h3, h6])) hH ?_ (hQ := fun _ _ _ h => hQ _ _ _ _ _ h)
  refine Wa.aT (i := 2) (oi := l6o2) (v := .pointer (some ⟨n, 2, none⟩)) (fun _ hw => exec_f69_2 rfl (by simp [l6o0, l6o1, ev_ne, ev_eq, sz_put, put_none, evc, hsz, h0, h3, h6])) hH ?_ (hQ := fun _ _ _ h => hQ _ _ _ _ _ h)
  refine Wa.aT (i := 3) (oi := l6o3) (v := .map (some b)) (fun _ hw => Wa.exec_load 67 _ rfl ⟨n, 2, none⟩ (by simp [l6o0, l6o1, l6o2, ev_ne, ev_eq, sz_put, put_none, evc, hsz, h0, h3, h6]) _ (Wa.load_one (hw.1.cell 2) Try.underlying67 rfl)) hH ?_ (hQ := fun _ _ _ h => hQ _ _ _ _ _ h)
  refine Wa.aT (i := 4) (oi := l6o4) (v := mkN q) (fun _ hw => Wa.exec_load 79 _ rfl ⟨W, 0, none⟩ (by simp [l6o0, l6o1, l6o2, l6o3, ev_ne, ev_eq, sz_put, put_none, evc, hsz, h0, h3, h6]) _ (ld79 q hw.2.1)) hH ?_ (hQ := fun _ _ _ h => hQ _ _ _ _ _ h)
  refine Wa.any_step (i := 5) (o := l6o5) (v := .agg #[c0, c1, c2, c3]) rfl (by kernel_rfl) (by kernel_rfl) (Wa.exec_load 81 _ rfl ⟨A, 0, none⟩ (by simp [l6o0, l6o1, l6o2, l6o3, l6o4, ev_ne, ev_eq, sz_put, put_none, evc, hsz, h0, h3, h6]) _ (ld81 hH.2.2)) hH (fun hH => ?_)
  obtain ⟨w1, hr1, hm1, hk1, hz1⟩ := updG' keyN HM und67 q (.agg #[c0, c1, c2, c3])
  have hH1 : (fun w' => Box w' n 69 #[m0, m1, .map (some b), m3] ∧ Box w' W 79 #[.bool q.1.1, .int .i64 q.1.2, .int .i64 q.2] ∧ Box w' A 81 #[c0, c1, c2, c3]) w1 := ⟨hH.1.kept hk1 (fun e => hH.1.neMap HM e), hH.2.1.kept hk1 (fun e => hH.2.1.neMap HM e), hH.2.2.kept hk1 (fun e => hH.2.2.neMap HM e)⟩
  refine any_do (i := 6) (o := l6o6) rfl (by kernel_rfl) (by kernel_rfl) (exec_upd rfl (by simp [l6o0, l6o1, l6o2, l6o3, l6o4, l6o5, ev_ne, ev_eq, sz_put, put_none, evc, hsz, h0, h3, h6]) (by simp [l6o0, l6o1, l6o2, l6o3, l6o4, l6o5, ev_ne, ev_eq, sz_put, put_none, evc, hsz, h0, h3, h6]) (by simp [l6o0, l6o1, l6o2, l6o3, l6o4, l6o5, ev_ne, ev_eq, sz_put, put_none, evc, hsz, h0, h3, h6]) hr1) hH1 (fun hH => ?_)
  refine wpAnyH_done (by kernel_rfl) ?_ _
  simp only [l6o0, l6o1, l6o2, l6o3, l6o4, l6o5, l6o6, put_none]
  exact h _ hm1 (HK.of_no.then hk1)
def l7o0 : Oper := { dst := some 35, op := Op.move (Operand.tmp 0), type := 23, pos := "way.go:51", after := #[], guard := none }
def l7o1 : Oper := { dst := some 36, op := Op.nilCheck (Operand.tmp 35), type := 0, pos := "way.go:51", after := #[{ on := 0, ground := Ground.data }], guard := none }
def l7o2 : Oper := { dst := some 37, op := Op.fieldAddr 69 (Operand.tmp 36) 2, type := 0, pos := "way.go:51", after := #[{ on := 1, ground := Ground.data }], guard := none }
def l7o3 : Oper := { dst := some 38, op := Op.load 67 (Operand.tmp 37), type := 67, pos := "way.go:51", after := #[{ on := 2, ground := Ground.data }], guard := none }
def l7o4 : Oper := { dst := some 39, op := Op.load 79 (Operand.tmp 3), type := 79, pos := "way.go:51", after := #[], guard := none }
def l7o5 : Oper := { dst := none, op := Op.call { callee := Callee.builtin Builtin.delete, args := #[Operand.tmp 38, Operand.tmp 39], argTypes := #[67, 79] }, type := 0, pos := "way.go:51", after := #[{ on := 3, ground := Ground.data }, { on := 4, ground := Ground.data }], guard := none }
def l7ops : Array Oper := #[l7o0, l7o1, l7o2, l7o3, l7o4, l7o5]
set_option maxRecDepth 100000 in
set_option maxHeartbeats 4000000 in
theorem l7 (a : Act) (n W b : Nat) (q : Nm) (g : Nm → Option Value) (m0 m1 m3 : Value) (wm : World) (Q : Exit → Act → World → Prop) (hsz : a.tmps.size = 67) (h0 : a.eval (.tmp 0) = .pointer (some ⟨n, 0, none⟩)) (h3 : a.eval (.tmp 3) = .pointer (some ⟨W, 0, none⟩)) (hc0 : Box wm n 69 #[m0, m1, .map (some b), m3]) (hc1 : Box wm W 79 #[.bool q.1.1, .int .i64 q.1.2, .int .i64 q.2]) (hm : MapG mkN wm b g) (hQ : ∀ c (a : Act) t v w, Q (.panic c) (a.put t v) w → Q (.panic c) a w)
    (h : ∀ wo, MapG mkN wo b (upG g q none) → Kept (Only b) wm wo → Q .normal (((((a.put (some 35) (.pointer (some ⟨n, 0, none⟩))).put (some 36) (.pointer (some ⟨n, 0, none⟩))).put (some 37) (.pointer (some ⟨n, 2, none⟩))).put (some 38) (.map (some b))).put (some 39) (mkN q)) wo) :
    Code.wp Try.prog (.region 7 l7ops true) Q a wm := by
  unfold l7ops
  refine wp_region_held_drew (S := fun w' => Box w' n 69 #[m0, m1, .map (some b), m3] ∧ Box w' W 79 #[.bool q.1.1, .int .i64 q.1.2, .int .i64 q.2]) rfl ⟨hc0, hc1⟩ (fun hH => ?_)
  have HM : MapG mkN wm.drew b g := hm
  have HK : Kept No wm wm.drew := (Kept.refl No wm).drew
  generalize wm.drew = wq0 at HK HM hH ⊢
  refine Wa.aT (i := 0) (oi := l7o0) (v := .pointer (some ⟨n, 0, none⟩)) (fun _ hw => exec_mv rfl (by assumption)) hH ?_ (hQ := fun _ _ _ h => hQ _ _ _ _ _ h)
  refine Wa.aT (i := 1) (oi := l7o1) (v := .pointer (some ⟨n, 0, none⟩)) (fun _ hw => exec_nil rfl (by simp [l7o0, ev_ne, ev_eq, sz_put, put_none, evc, hsz, h0, h3])) hH ?_ (hQ := fun _ _ _ h => hQ _ _ _ _ _ h)
  refine Wa.aT (i := 2) (oi := l7o2) (v := .pointer (some ⟨n, 2, none⟩)) (fun _ hw => exec_f69_2 rfl (by simp [l7o0, l7o1, ev_ne, ev_eq, sz_put, put_none, evc, hsz, h0, h3])) hH ?_ (hQ := fun _ _ _ h => hQ _ _ _ _ _ h)
  refine Wa.aT (i := 3) (oi := l7o3) (v := .map (some b)) (fun _ hw => Wa.exec_load 67 _ rfl ⟨n, 2, none⟩ (by simp [l7o0, l7o1, l7o2, ev_ne, ev_eq, sz_put, put_none, evc, hsz, h0, h3]) _ (Wa.load_one (hw.1.cell 2) Try.underlying67 rfl)) hH ?_ (hQ := fun _ _ _ h => hQ _ _ _ _ _ h)
  refine Wa.any_step (i := 4) (o := l7o4) (v := mkN q) rfl (by kernel_rfl) (by kernel_rfl) (Wa.exec_load 79 _ rfl ⟨W, 0, none⟩ (by simp [l7o0, l7o1, l7o2, l7o3, ev_ne, ev_eq, sz_put, put_none, evc, hsz, h0, h3]) _ (ld79 q hH.2)) hH (fun hH => ?_)
  obtain ⟨w1, hr1, hm1, hk1, hz1⟩ := delG keyN HM (ty := l7o5.type) und67 q
  have hH1 : (fun w' => Box w' n 69 #[m0, m1, .map (some b), m3] ∧ Box w' W 79 #[.bool q.1.1, .int .i64 q.1.2, .int .i64 q.2]) w1 := ⟨hH.1.kept hk1 (fun e => hH.1.neMap HM e), hH.2.kept hk1 (fun e => hH.2.neMap HM e)⟩
  refine Wa.any_step (i := 5) (o := l7o5) rfl (by kernel_rfl) (by kernel_rfl) (exec_del rfl (by simp [l7o0, l7o1, l7o2, l7o3, l7o4, ev_ne, ev_eq, sz_put, put_none, evc, hsz, h0, h3]) (by simp [l7o0, l7o1, l7o2, l7o3, l7o4, ev_ne, ev_eq, sz_put, put_none, evc, hsz, h0, h3]) hr1) hH1 (fun hH => ?_)
  refine wpAnyH_done (by kernel_rfl) ?_ _
  simp only [l7o0, l7o1, l7o2, l7o3, l7o4, l7o5, put_none]
  exact h _ hm1 (HK.of_no.then hk1)
def l11o0 : Oper := { dst := some 61, op := Op.move (Operand.tmp 0), type := 23, pos := "way.go:55", after := #[], guard := none }
def l11o1 : Oper := { dst := some 62, op := Op.nilCheck (Operand.tmp 61), type := 0, pos := "way.go:55", after := #[{ on := 0, ground := Ground.data }], guard := none }
def l11o2 : Oper := { dst := some 63, op := Op.fieldAddr 69 (Operand.tmp 62) 1, type := 0, pos := "way.go:55", after := #[{ on := 1, ground := Ground.data }], guard := none }
def l11o3 : Oper := { dst := some 64, op := Op.load 66 (Operand.tmp 63), type := 66, pos := "way.go:55", after := #[{ on := 2, ground := Ground.data }], guard := none }
def l11o4 : Oper := { dst := some 65, op := Op.load 76 (Operand.tmp 8), type := 76, pos := "way.go:55", after := #[], guard := none }
def l11o5 : Oper := { dst := none, op := Op.call { callee := Callee.builtin Builtin.delete, args := #[Operand.tmp 64, Operand.tmp 65], argTypes := #[66, 76] }, type := 0, pos := "way.go:55", after := #[{ on := 3, ground := Ground.data }, { on := 4, ground := Ground.data }], guard := none }
def l11ops : Array Oper := #[l11o0, l11o1, l11o2, l11o3, l11o4, l11o5]
set_option maxRecDepth 100000 in
set_option maxHeartbeats 4000000 in
theorem l11 (a : Act) (n W b : Nat) (q : Pr) (g : Pr → Option Value) (m0 m2 m3 : Value) (wm : World) (Q : Exit → Act → World → Prop) (hsz : a.tmps.size = 67) (h0 : a.eval (.tmp 0) = .pointer (some ⟨n, 0, none⟩)) (h8 : a.eval (.tmp 8) = .pointer (some ⟨W, 0, none⟩)) (hc0 : Box wm n 69 #[m0, .map (some b), m2, m3]) (hc1 : Box wm W 76 #[.bool q.1.1, .int .i64 q.1.2, .bool q.2.1, .int .i64 q.2.2]) (hm : MapG mkP wm b g) (hQ : ∀ c (a : Act) t v w, Q (.panic c) (a.put t v) w → Q (.panic c) a w)
    (h : ∀ wo, MapG mkP wo b (upG g q none) → Kept (Only b) wm wo → Q .normal (((((a.put (some 61) (.pointer (some ⟨n, 0, none⟩))).put (some 62) (.pointer (some ⟨n, 0, none⟩))).put (some 63) (.pointer (some ⟨n, 1, none⟩))).put (some 64) (.map (some b))).put (some 65) (mkP q)) wo) :
    Code.wp Try.prog (.region 11 l11ops true) Q a wm := by
  unfold l11ops
  refine wp_region_held_drew (S := fun w' => Box w' n 69 #[m0, .map (some b), m2, m3] ∧ Box w' W 76 #[.bool q.1.1, .int .i64 q.1.2, .bool q.2.1, .int .i64 q.2.2]) rfl ⟨hc0, hc1⟩ (fun hH => ?_)
  have HM : MapG mkP wm.drew b g := hm
  have HK : Kept No wm wm.drew := (Kept.refl No wm).drew
  generalize wm.drew = wq0 at HK HM hH ⊢
  refine Wa.aT (i := 0) (oi := l11o0) (v := .pointer (some ⟨n, 0, none⟩)) (fun _ hw => exec_mv rfl (by assumption)) hH ?_ (hQ := fun _ _ _ h => hQ _ _ _ _ _ h)
  refine Wa.aT (i := 1) (oi := l11o1) (v := .pointer (some ⟨n, 0, none⟩)) (fun _ hw => exec_nil rfl (by simp [l11o0, ev_ne, ev_eq, sz_put, put_none, evc, hsz, h0, h8])) hH ?_ (hQ := fun _ _ _ h => hQ _ _ _ _ _ h)
  refine Wa.aT (i := 2) (oi := l11o2) (v := .pointer (some ⟨n, 1, none⟩)) (fun _ hw => exec_f69_1 rfl (by simp [l11o0, l11o1, ev_ne, ev_eq, sz_put, put_none, evc, hsz, h0, h8])) hH ?_ (hQ := fun _ _ _ h => hQ _ _ _ _ _ h)
  refine Wa.aT (i := 3) (oi := l11o3) (v := .map (some b)) (fun _ hw => Wa.exec_load 66 _ rfl ⟨n, 1, none⟩ (by simp [l11o0, l11o1, l11o2, ev_ne, ev_eq, sz_put, put_none, evc, hsz, h0, h8]) _ (Wa.load_one (hw.1.cell 1) Try.underlying66 rfl)) hH ?_ (hQ := fun _ _ _ h => hQ _ _ _ _ _ h)
  refine Wa.any_step (i := 4) (o := l11o4) (v := mkP q) rfl (by kernel_rfl) (by kernel_rfl) (Wa.exec_load 76 _ rfl ⟨W, 0, none⟩ (by simp [l11o0, l11o1, l11o2, l11o3, ev_ne, ev_eq, sz_put, put_none, evc, hsz, h0, h8]) _ (ld76 q hH.2)) hH (fun hH => ?_)
  obtain ⟨w1, hr1, hm1, hk1, hz1⟩ := delG keyP HM (ty := l11o5.type) und66 q
  have hH1 : (fun w' => Box w' n 69 #[m0, .map (some b), m2, m3] ∧ Box w' W 76 #[.bool q.1.1, .int .i64 q.1.2, .bool q.2.1, .int .i64 q.2.2]) w1 := ⟨hH.1.kept hk1 (fun e => hH.1.neMap HM e), hH.2.kept hk1 (fun e => hH.2.neMap HM e)⟩
  refine Wa.any_step (i := 5) (o := l11o5) rfl (by kernel_rfl) (by kernel_rfl) (exec_del rfl (by simp [l11o0, l11o1, l11o2, l11o3, l11o4, ev_ne, ev_eq, sz_put, put_none, evc, hsz, h0, h8]) (by simp [l11o0, l11o1, l11o2, l11o3, l11o4, ev_ne, ev_eq, sz_put, put_none, evc, hsz, h0, h8]) hr1) hH1 (fun hH => ?_)
  refine wpAnyH_done (by kernel_rfl) ?_ _
  simp only [l11o0, l11o1, l11o2, l11o3, l11o4, l11o5, put_none]
  exact h _ hm1 (HK.of_no.then hk1)
def c6o0 : Oper := { dst := some 36, op := Op.fieldAddr 81 (Operand.tmp 5) 2, type := 0, pos := "way.go:37", after := #[], guard := none }
def c6o1 : Oper := { dst := some 37, op := Op.load 57 (Operand.tmp 36), type := 57, pos := "way.go:37", after := #[{ on := 0, ground := Ground.data }], guard := none }
def c6o2 : Oper := { dst := some 38, op := Op.move (Operand.tmp 0), type := 23, pos := "way.go:37", after := #[], guard := none }
def c6o3 : Oper := { dst := some 39, op := Op.nilCheck (Operand.tmp 38), type := 0, pos := "way.go:37", after := #[{ on := 2, ground := Ground.data }], guard := none }
def c6o4 : Oper := { dst := some 40, op := Op.fieldAddr 69 (Operand.tmp 39) 3, type := 0, pos := "way.go:37", after := #[{ on := 3, ground := Ground.data }], guard := none }
def c6o5 : Oper := { dst := some 41, op := Op.load 3 (Operand.tmp 40), type := 3, pos := "way.go:37", after := #[{ on := 4, ground := Ground.data }], guard := none }
def c6o6 : Oper := { dst := some 42, op := Op.buildSlice 57 1 #[(0, Operand.tmp 41)], type := 57, pos := "way.go:37", after := #[{ on := 5, ground := Ground.data }], guard := none }
def c6o7 : Oper := { dst := some 43, op := Op.call { callee := Callee.builtin Builtin.append, args := #[Operand.tmp 37, Operand.tmp 42], argTypes := #[57, 57] }, type := 57, pos := "way.go:37", after := #[{ on := 1, ground := Ground.data }, { on := 6, ground := Ground.data }], guard := none }
def c6o8 : Oper := { dst := some 44, op := Op.fieldAddr 81 (Operand.tmp 5) 2, type := 0, pos := "way.go:37", after := #[{ on := 0, ground := Ground.phase }, { on := 1, ground := Ground.phase }, { on := 2, ground := Ground.phase }, { on := 3, ground := Ground.phase }, { on := 4, ground := Ground.phase }, { on := 5, ground := Ground.phase }, { on := 6, ground := Ground.phase }, { on := 7, ground := Ground.phase }], guard := none }
def c6o9 : Oper := { dst := none, op := Op.store 57 (Operand.tmp 44) (Operand.tmp 43), type := 0, pos := "way.go:37", after := #[{ on := 8, ground := Ground.data }, { on := 7, ground := Ground.data }, { on := 7, ground := Ground.chain }, { on := 0, ground := Ground.phase }, { on := 1, ground := Ground.phase }, { on := 2, ground := Ground.phase }, { on := 3, ground := Ground.phase }, { on := 4, ground := Ground.phase }, { on := 5, ground := Ground.phase }, { on := 6, ground := Ground.phase }, { on := 7, ground := Ground.phase }], guard := none }
def c6ops : Array Oper := #[c6o0, c6o1, c6o2, c6o3, c6o4, c6o5, c6o6, c6o7, c6o8, c6o9]
set_option maxRecDepth 100000 in
set_option maxHeartbeats 4000000 in
theorem c6 (a : Act) (n A c : Nat) (c0 c1 c2 pv : Value) (m0 m1 m2 : Value) (R : World → Nat → Value → World → Prop) (wm : World) (Q : Exit → Act → World → Prop) (hsz : a.tmps.size = 51) (h0 : a.eval (.tmp 0) = .pointer (some ⟨n, 0, none⟩)) (h5 : a.eval (.tmp 5) = .pointer (some ⟨A, 0, none⟩)) (hc0 : Box wm n 69 #[m0, m1, m2, .int .i64 (c : Nat)]) (hA : Box wm A 81 #[c0, c1, c2, pv]) (hnA : n ≠ A)
    (hap : ∀ W G, Kept No wm W → W.cell? ⟨G, 0, none⟩ = some (.int .i64 (c : Nat)) → ∃ v' W', (Builtin.append_ #[57, 57] 57 #[pv, .slice (some ⟨G, 0, none⟩) 1 1]).run Try.prog W = .ok v' W' ∧ R W G v' W' ∧ (Box W n 69 #[m0, m1, m2, .int .i64 (c : Nat)] → Box W' n 69 #[m0, m1, m2, .int .i64 (c : Nat)]) ∧ (Box W A 81 #[c0, c1, c2, pv] → Box W' A 81 #[c0, c1, c2, pv]) ∧ v'.cells = #[v'] ∧ v'.oneCell' = true)
    (hQ : ∀ c (a : Act) t v w, Q (.panic c) (a.put t v) w → Q (.panic c) a w)
    (h : ∀ W G v2 W', Kept No wm W → R W G v2 W' → Box (W'.setRow A #[c0, c1, c2, v2]) A 81 #[c0, c1, c2, v2] → Box (W'.setRow A #[c0, c1, c2, v2]) n 69 #[m0, m1, m2, .int .i64 (c : Nat)] → Q .normal (((((((((a.put (some 36) (.pointer (some ⟨A, 3, none⟩))).put (some 38) (.pointer (some ⟨n, 0, none⟩))).put (some 39) (.pointer (some ⟨n, 0, none⟩))).put (some 40) (.pointer (some ⟨n, 3, none⟩))).put (some 41) (.int .i64 (c : Nat))).put (some 37) (pv)).put (some 42) (.slice (some ⟨G, 0, none⟩) 1 1)).put (some 43) (v2)).put (some 44) (.pointer (some ⟨A, 3, none⟩))) (W'.setRow A #[c0, c1, c2, v2])) :
    Code.wp Try.prog (.region 6 c6ops true) Q a wm := by
  unfold c6ops
  refine wp_region_held_drew (S := fun w' => Box w' n 69 #[m0, m1, m2, .int .i64 (c : Nat)]) rfl hc0 (fun hH => ?_)
  have HK : Kept No wm wm.drew ∧ Box wm.drew A 81 #[c0, c1, c2, pv] := ⟨(Kept.refl No wm).drew, hA⟩
  generalize wm.drew = wq0 at HK hH ⊢
  refine Wa.aT (i := 0) (oi := c6o0) (v := .pointer (some ⟨A, 3, none⟩)) (fun _ hw => exec_f81_2 rfl (by assumption)) hH ?_ (hQ := fun _ _ _ h => hQ _ _ _ _ _ h)
  refine Wa.aT (i := 2) (oi := c6o2) (v := .pointer (some ⟨n, 0, none⟩)) (fun _ hw => exec_mv rfl (by simp [c6o0, ev_ne, ev_eq, sz_put, put_none, evc, hsz, h0, h5])) hH ?_ (hQ := fun _ _ _ h => hQ _ _ _ _ _ h)
  refine Wa.aT (i := 3) (oi := c6o3) (v := .pointer (some ⟨n, 0, none⟩)) (fun _ hw => exec_nil rfl (by simp [c6o0, c6o2, ev_ne, ev_eq, sz_put, put_none, evc, hsz, h0, h5])) hH ?_ (hQ := fun _ _ _ h => hQ _ _ _ _ _ h)
  refine Wa.aT (i := 4) (oi := c6o4) (v := .pointer (some ⟨n, 3, none⟩)) (fun _ hw => exec_f69_3 rfl (by simp [c6o0, c6o2, c6o3, ev_ne, ev_eq, sz_put, put_none, evc, hsz, h0, h5])) hH ?_ (hQ := fun _ _ _ h => hQ _ _ _ _ _ h)
  refine Wa.aT (i := 5) (oi := c6o5) (v := .int .i64 (c : Nat)) (fun _ hw => Wa.exec_load 3 _ rfl ⟨n, 3, none⟩ (by simp [c6o0, c6o2, c6o3, c6o4, ev_ne, ev_eq, sz_put, put_none, evc, hsz, h0, h5]) _ (Wa.load_one (hw.cell 3) Try.underlying3 rfl)) hH ?_ (hQ := fun _ _ _ h => hQ _ _ _ _ _ h)
  have hal : Kept No wq0 (wq0.alloc (.cells #[.int .i64 (c : Nat)] 3)) := (Kept.refl No _).alloc _
  have hcl : (wq0.alloc (.cells #[.int .i64 (c : Nat)] 3)).cell? ⟨wq0.heap.size, 0, none⟩ = some (.int .i64 (c : Nat)) := (Box.new wq0 3 #[.int .i64 (c : Nat)]).cell 0
  have hHa : Box (wq0.alloc (.cells #[.int .i64 (c : Nat)] 3)) n 69 #[m0, m1, m2, .int .i64 (c : Nat)] := hH.kept hal (fun e => e)
  refine Wa.any_pick (rs := [1, 6]) (by kernel_rfl) (by simp) ?_
  intro ix hix
  rcases Wa.pick2 hix with rfl | rfl
  · clear hix
    refine Wa.step_run (i := 1) (o := c6o1) (v := pv) rfl (by kernel_rfl) (Wa.exec_load 57 _ rfl ⟨A, 3, none⟩ (by simp [c6o0, c6o2, c6o3, c6o4, c6o5, ev_ne, ev_eq, sz_put, put_none, evc, hsz, h0, h5]) _ (Wa.load_one (HK.2.cell 3) Try.underlying57 rfl)) hH (fun hH => ?_)
    refine Wa.any_step (i := 6) (o := c6o6) rfl (by kernel_rfl) (by kernel_rfl) (exec_bs57 rfl (by simp [c6o0, c6o2, c6o3, c6o4, c6o5, c6o1, ev_ne, ev_eq, sz_put, put_none, evc, hsz, h0, h5])) hHa (fun hH => ?_)
    have HA1 := HK.2.kept hal (fun e => e)
    have HK1 := HK.1.then hal
    generalize wq0.alloc (.cells #[.int .i64 (c : Nat)] 3) = w1 at hcl hH HA1 HK1 hHa ⊢
    generalize wq0.heap.size = G at hcl ⊢
    obtain ⟨v2, w2, hr2, hR, hn2, hA2, hv2, ho2⟩ := hap w1 G HK1 hcl
    refine Wa.any_step (i := 7) (o := c6o7) rfl (by kernel_rfl) (by kernel_rfl) (exec_app57 rfl (by simp [c6o0, c6o2, c6o3, c6o4, c6o5, c6o1, c6o6, ev_ne, ev_eq, sz_put, put_none, evc, hsz, h0, h5]) (by simp [c6o0, c6o2, c6o3, c6o4, c6o5, c6o1, c6o6, ev_ne, ev_eq, sz_put, put_none, evc, hsz, h0, h5]) hr2) (hn2 hH) (fun hH => ?_)
    refine Wa.any_step (i := 8) (o := c6o8) (v := .pointer (some ⟨A, 3, none⟩)) rfl (by kernel_rfl) (by kernel_rfl) (exec_f81_2 rfl (by simp [c6o0, c6o2, c6o3, c6o4, c6o5, c6o1, c6o6, c6o7, ev_ne, ev_eq, sz_put, put_none, evc, hsz, h0, h5])) hH (fun hH => ?_)
    have hA3 := hA2 HA1
    refine Wa.any_store (i := 9) (o := c6o9) rfl (by kernel_rfl) (by kernel_rfl) 57 _ _ rfl ⟨A, 3, none⟩ v2 (by simp [c6o0, c6o2, c6o3, c6o4, c6o5, c6o1, c6o6, c6o7, c6o8, ev_ne, ev_eq, sz_put, put_none, evc, hsz, h0, h5]) (by simp [c6o0, c6o2, c6o3, c6o4, c6o5, c6o1, c6o6, c6o7, c6o8, ev_ne, ev_eq, sz_put, put_none, evc, hsz, h0, h5]) (store_81 hA3 hv2 ho2) (hH.kept (Wa.Kept.setRow _ _ _) (fun e => hnA e)) (fun hH => ?_)
    refine wpAnyH_done (by kernel_rfl) ?_ _
    simp only [c6o0, c6o1, c6o2, c6o3, c6o4, c6o5, c6o6, c6o7, c6o8, c6o9, put_none]
    exact h w1 G v2 w2 HK1 hR (Wa.Box.setRow hA3 _) hH
  · clear hix
    refine Wa.step_run (i := 6) (o := c6o6) rfl (by kernel_rfl) (exec_bs57 rfl (by simp [c6o0, c6o2, c6o3, c6o4, c6o5, ev_ne, ev_eq, sz_put, put_none, evc, hsz, h0, h5])) hHa (fun hH => ?_)
    refine Wa.any_step (i := 1) (o := c6o1) (v := pv) rfl (by kernel_rfl) (by kernel_rfl) (Wa.exec_load 57 _ rfl ⟨A, 3, none⟩ (by simp [c6o0, c6o2, c6o3, c6o4, c6o5, c6o6, ev_ne, ev_eq, sz_put, put_none, evc, hsz, h0, h5]) _ (Wa.load_one ((HK.2.kept hal (fun e => e)).cell 3) Try.underlying57 rfl)) hH (fun hH => ?_)
    have HA1 := HK.2.kept hal (fun e => e)
    have HK1 := HK.1.then hal
    generalize wq0.alloc (.cells #[.int .i64 (c : Nat)] 3) = w1 at hcl hH HA1 HK1 hHa ⊢
    generalize wq0.heap.size = G at hcl ⊢
    obtain ⟨v2, w2, hr2, hR, hn2, hA2, hv2, ho2⟩ := hap w1 G HK1 hcl
    refine Wa.any_step (i := 7) (o := c6o7) rfl (by kernel_rfl) (by kernel_rfl) (exec_app57 rfl (by simp [c6o0, c6o2, c6o3, c6o4, c6o5, c6o6, c6o1, ev_ne, ev_eq, sz_put, put_none, evc, hsz, h0, h5]) (by simp [c6o0, c6o2, c6o3, c6o4, c6o5, c6o6, c6o1, ev_ne, ev_eq, sz_put, put_none, evc, hsz, h0, h5]) hr2) (hn2 hH) (fun hH => ?_)
    refine Wa.any_step (i := 8) (o := c6o8) (v := .pointer (some ⟨A, 3, none⟩)) rfl (by kernel_rfl) (by kernel_rfl) (exec_f81_2 rfl (by simp [c6o0, c6o2, c6o3, c6o4, c6o5, c6o6, c6o1, c6o7, ev_ne, ev_eq, sz_put, put_none, evc, hsz, h0, h5])) hH (fun hH => ?_)
    have hA3 := hA2 HA1
    refine Wa.any_store (i := 9) (o := c6o9) rfl (by kernel_rfl) (by kernel_rfl) 57 _ _ rfl ⟨A, 3, none⟩ v2 (by simp [c6o0, c6o2, c6o3, c6o4, c6o5, c6o6, c6o1, c6o7, c6o8, ev_ne, ev_eq, sz_put, put_none, evc, hsz, h0, h5]) (by simp [c6o0, c6o2, c6o3, c6o4, c6o5, c6o6, c6o1, c6o7, c6o8, ev_ne, ev_eq, sz_put, put_none, evc, hsz, h0, h5]) (store_81 hA3 hv2 ho2) (hH.kept (Wa.Kept.setRow _ _ _) (fun e => hnA e)) (fun hH => ?_)
    refine wpAnyH_done (by kernel_rfl) ?_ _
    simp only [c6o0, c6o1, c6o2, c6o3, c6o4, c6o5, c6o6, c6o7, c6o8, c6o9, put_none]
    rw [put_comm 42 37 (by decide)]
    exact h w1 G v2 w2 HK1 hR (Wa.Box.setRow hA3 _) hH
def t1o0 : Oper := { dst := some 5, op := Op.fieldAddr 79 (Operand.tmp 2) 0, type := 0, pos := "way.go:62", after := #[], guard := none }
def t1o1 : Oper := { dst := some 6, op := Op.load 34 (Operand.tmp 5), type := 34, pos := "way.go:62", after := #[{ on := 0, ground := Ground.data }], guard := none }
def t1o2 : Oper := { dst := some 7, op := Op.fieldAddr 79 (Operand.tmp 2) 1, type := 0, pos := "way.go:62", after := #[], guard := none }
def t1o3 : Oper := { dst := some 8, op := Op.load 3 (Operand.tmp 7), type := 3, pos := "way.go:62", after := #[{ on := 2, ground := Ground.data }], guard := none }
def t1o4 : Oper := { dst := some 9, op := Op.fieldAddr 81 (Operand.tmp 3) 0, type := 0, pos := "way.go:62", after := #[], guard := none }
def t1o5 : Oper := { dst := some 10, op := Op.load 34 (Operand.tmp 9), type := 34, pos := "way.go:62", after := #[{ on := 4, ground := Ground.data }], guard := none }
def t1o6 : Oper := { dst := some 11, op := Op.fieldAddr 81 (Operand.tmp 3) 1, type := 0, pos := "way.go:62", after := #[], guard := none }
def t1o7 : Oper := { dst := some 12, op := Op.load 35 (Operand.tmp 11), type := 35, pos := "way.go:62", after := #[{ on := 6, ground := Ground.data }], guard := none }
def t1o8 : Oper := { dst := some 13, op := Op.call { callee := Callee.value (Operand.func 35), args := #[Operand.tmp 12], argTypes := #[35] }, type := 35, pos := "way.go:62", after := #[{ on := 7, ground := Ground.data }], guard := none }
def t1o9 : Oper := { dst := some 14, op := Op.build 44 #[(0, Operand.tmp 6), (1, Operand.tmp 8), (2, Operand.tmp 10), (3, Operand.tmp 13)], type := 44, pos := "way.go:62", after := #[{ on := 1, ground := Ground.data }, { on := 3, ground := Ground.data }, { on := 5, ground := Ground.data }, { on := 8, ground := Ground.data }], guard := none }
def t1o10 : Oper := { dst := none, op := Op.store 44 (Operand.tmp 4) (Operand.tmp 14), type := 0, pos := "way.go:62", after := #[{ on := 9, ground := Ground.data }, { on := 8, ground := Ground.chain }, { on := 0, ground := Ground.phase }, { on := 1, ground := Ground.phase }, { on := 2, ground := Ground.phase }, { on := 3, ground := Ground.phase }, { on := 4, ground := Ground.phase }, { on := 5, ground := Ground.phase }, { on := 6, ground := Ground.phase }, { on := 7, ground := Ground.phase }, { on := 8, ground := Ground.phase }, { on := 9, ground := Ground.phase }], guard := none }
def t1ops : Array Oper := #[t1o0, t1o1, t1o2, t1o3, t1o4, t1o5, t1o6, t1o7, t1o8, t1o9, t1o10]
set_option maxRecDepth 100000 in
set_option maxHeartbeats 4000000 in
theorem t1 (a : Act) (K A R l dc : Nat) (k : Nm) (p : Ad) (da : Option Addr) (pv : Value) (rs : Array Value) (zs : List Int) (wm : World) (Q : Exit → Act → World → Prop) (hsz : a.tmps.size = 15) (h2 : a.eval (.tmp 2) = .pointer (some ⟨K, 0, none⟩)) (h3 : a.eval (.tmp 3) = .pointer (some ⟨A, 0, none⟩)) (h4 : a.eval (.tmp 4) = .pointer (some ⟨R, 0, none⟩)) (hc0 : Box wm K 79 #[.bool k.1.1, .int .i64 k.1.2, .int .i64 k.2]) (hc1 : Box wm A 81 #[.bool p.1, .int .i64 p.2, .slice da l dc, pv]) (hR : Box wm R 44 rs) (hrs : rs.size = 6) (hcl : ∀ W, Kept No wm W → Calls Try.prog 35 #[.slice da l dc] W fun e W' => ∃ ra rc, e = .returned (.slice ra l rc) ∧ OwnB W' W.heap.size ra rc zs ∧ Kept No W W') (hQ : ∀ c (a : Act) t v w, Q (.panic c) (a.put t v) w → Q (.panic c) a w)
    (h : ∀ wo w1 ra rc, Kept No wm w1 → OwnB w1 wm.heap.size ra rc zs → wo = w1.setRow R #[.bool k.1.1, .int .i64 k.1.2, .int .i64 k.2, .bool p.1, .int .i64 p.2, .slice ra l rc] → Box wo R 44 #[.bool k.1.1, .int .i64 k.1.2, .int .i64 k.2, .bool p.1, .int .i64 p.2, .slice ra l rc] → Q .normal ((((((((((a.put (some 5) (.pointer (some ⟨K, 0, none⟩))).put (some 6) (mkA k.1)).put (some 7) (.pointer (some ⟨K, 2, none⟩))).put (some 8) (.int .i64 k.2)).put (some 9) (.pointer (some ⟨A, 0, none⟩))).put (some 10) (mkA p)).put (some 11) (.pointer (some ⟨A, 2, none⟩))).put (some 12) (.slice da l dc)).put (some 13) (.slice ra l rc)).put (some 14) (.agg #[.bool k.1.1, .int .i64 k.1.2, .int .i64 k.2, .bool p.1, .int .i64 p.2, .slice ra l rc])) wo) :
    Code.wp Try.prog (.region 1 t1ops true) Q a wm := by
  unfold t1ops
  refine wp_region_held_drew (S := fun w' => Box w' K 79 #[.bool k.1.1, .int .i64 k.1.2, .int .i64 k.2] ∧ Box w' A 81 #[.bool p.1, .int .i64 p.2, .slice da l dc, pv]) rfl ⟨hc0, hc1⟩ (fun hH => ?_)
  have HK : Kept No wm wm.drew := (Kept.refl No wm).drew
  generalize wm.drew = wq0 at HK hH ⊢
  refine Wa.aT (i := 0) (oi := t1o0) (v := .pointer (some ⟨K, 0, none⟩)) (fun _ hw => exec_f79_0 rfl (by assumption)) hH ?_ (hQ := fun _ _ _ h => hQ _ _ _ _ _ h)
  refine Wa.aT (i := 1) (oi := t1o1) (v := mkA k.1) (fun _ hw => Wa.exec_load 34 _ rfl ⟨K, 0, none⟩ (by simp [t1o0, ev_ne, ev_eq, sz_put, put_none, evc, hsz, h2, h3, h4]) _ (ld34_0 (rest := [.int .i64 k.2]) k.1 hw.1)) hH ?_ (hQ := fun _ _ _ h => hQ _ _ _ _ _ h)
  refine Wa.aT (i := 2) (oi := t1o2) (v := .pointer (some ⟨K, 2, none⟩)) (fun _ hw => exec_f79_1 rfl (by simp [t1o0, t1o1, ev_ne, ev_eq, sz_put, put_none, evc, hsz, h2, h3, h4])) hH ?_ (hQ := fun _ _ _ h => hQ _ _ _ _ _ h)
  refine Wa.aT (i := 3) (oi := t1o3) (v := .int .i64 k.2) (fun _ hw => Wa.exec_load 3 _ rfl ⟨K, 2, none⟩ (by simp [t1o0, t1o1, t1o2, ev_ne, ev_eq, sz_put, put_none, evc, hsz, h2, h3, h4]) _ (Wa.load_one (hw.1.cell 2) Try.underlying3 rfl)) hH ?_ (hQ := fun _ _ _ h => hQ _ _ _ _ _ h)
  refine Wa.aT (i := 4) (oi := t1o4) (v := .pointer (some ⟨A, 0, none⟩)) (fun _ hw => exec_f81_0 rfl (by simp [t1o0, t1o1, t1o2, t1o3, ev_ne, ev_eq, sz_put, put_none, evc, hsz, h2, h3, h4])) hH ?_ (hQ := fun _ _ _ h => hQ _ _ _ _ _ h)
  refine Wa.aT (i := 5) (oi := t1o5) (v := mkA p) (fun _ hw => Wa.exec_load 34 _ rfl ⟨A, 0, none⟩ (by simp [t1o0, t1o1, t1o2, t1o3, t1o4, ev_ne, ev_eq, sz_put, put_none, evc, hsz, h2, h3, h4]) _ (ld34_0 (rest := [.slice da l dc, pv]) p hw.2)) hH ?_ (hQ := fun _ _ _ h => hQ _ _ _ _ _ h)
  refine Wa.any_step (i := 6) (o := t1o6) (v := .pointer (some ⟨A, 2, none⟩)) rfl (by kernel_rfl) (by kernel_rfl) (exec_f81_1 rfl (by simp [t1o0, t1o1, t1o2, t1o3, t1o4, t1o5, ev_ne, ev_eq, sz_put, put_none, evc, hsz, h2, h3, h4])) hH (fun hH => ?_)
  refine Wa.any_step (i := 7) (o := t1o7) (v := .slice da l dc) rfl (by kernel_rfl) (by kernel_rfl) (Wa.exec_load 35 _ rfl ⟨A, 2, none⟩ (by simp [t1o0, t1o1, t1o2, t1o3, t1o4, t1o5, t1o6, ev_ne, ev_eq, sz_put, put_none, evc, hsz, h2, h3, h4]) _ (Wa.load_one (hH.2.cell 2) Try.underlying35 rfl)) hH (fun hH => ?_)
  refine Wa.any_call (i := 8) (o := t1o8) rfl (by kernel_rfl) (by kernel_rfl) 35 #[.slice da l dc] (exec_c35 rfl (by simp [t1o0, t1o1, t1o2, t1o3, t1o4, t1o5, t1o6, t1o7, ev_ne, ev_eq, sz_put, put_none, evc, hsz, h2, h3, h4])) _ (hcl _ HK) ?_
  rintro e w1 ⟨ra, rc, rfl, hO, hk1⟩
  refine ⟨_, rfl, ⟨hH.1.kept hk1 (fun e => e), hH.2.kept hk1 (fun e => e)⟩, fun hH => ?_⟩
  refine Wa.any_step (i := 9) (o := t1o9) (v := .agg #[.bool k.1.1, .int .i64 k.1.2, .int .i64 k.2, .bool p.1, .int .i64 p.2, .slice ra l rc]) rfl (by kernel_rfl) (by kernel_rfl) (exec_b44 (p := k.1) (q := p) rfl (by simp [t1o0, t1o1, t1o2, t1o3, t1o4, t1o5, t1o6, t1o7, t1o8, ev_ne, ev_eq, sz_put, put_none, evc, hsz, h2, h3, h4]) (by simp [t1o0, t1o1, t1o2, t1o3, t1o4, t1o5, t1o6, t1o7, t1o8, ev_ne, ev_eq, sz_put, put_none, evc, hsz, h2, h3, h4]) (by simp [t1o0, t1o1, t1o2, t1o3, t1o4, t1o5, t1o6, t1o7, t1o8, ev_ne, ev_eq, sz_put, put_none, evc, hsz, h2, h3, h4]) (by simp [t1o0, t1o1, t1o2, t1o3, t1o4, t1o5, t1o6, t1o7, t1o8, ev_ne, ev_eq, sz_put, put_none, evc, hsz, h2, h3, h4])) hH (fun hH => ?_)
  have hRb : Box w1 R 44 rs := (hR.kept HK (fun e => e)).kept hk1 (fun e => e)
  refine Wa.any_store (i := 10) (o := t1o10) rfl (by kernel_rfl) (by kernel_rfl) 44 _ _ rfl ⟨R, 0, none⟩ (.agg #[.bool k.1.1, .int .i64 k.1.2, .int .i64 k.2, .bool p.1, .int .i64 p.2, .slice ra l rc]) (by simp [t1o0, t1o1, t1o2, t1o3, t1o4, t1o5, t1o6, t1o7, t1o8, t1o9, ev_ne, ev_eq, sz_put, put_none, evc, hsz, h2, h3, h4]) (by simp [t1o0, t1o1, t1o2, t1o3, t1o4, t1o5, t1o6, t1o7, t1o8, t1o9, ev_ne, ev_eq, sz_put, put_none, evc, hsz, h2, h3, h4]) (run_storeVar_row w1 R 44 44 _ _ hRb (by kernel_rfl) hrs (by simp [Value.oneCell'])) ⟨hH.1.kept (Wa.Kept.setRow _ _ _) (fun e => Wa.box_ne hH.1 hRb (by decide) e), hH.2.kept (Wa.Kept.setRow _ _ _) (fun e => Wa.box_ne hH.2 hRb (by decide) e)⟩ (fun hH => ?_)
  refine wpAnyH_done (by kernel_rfl) ?_ _
  simp only [t1o0, t1o1, t1o2, t1o3, t1o4, t1o5, t1o6, t1o7, t1o8, t1o9, t1o10, put_none]
  exact h _ w1 ra rc (HK.then hk1) (Own.lower hO HK.size) rfl (Wa.Box.setRow hRb _)
def s5o0 : Oper := { dst := some 41, op := Op.move (Operand.tmp 6), type := 3, pos := "net.go:29", after := #[], guard := none }
def s5o1 : Oper := { dst := some 42, op := Op.move (Operand.tmp 0), type := 23, pos := "net.go:29", after := #[], guard := none }
def s5o2 : Oper := { dst := some 43, op := Op.fieldAddr 44 (Operand.tmp 3) 0, type := 0, pos := "net.go:29", after := #[], guard := none }
def s5o3 : Oper := { dst := some 44, op := Op.load 34 (Operand.tmp 43), type := 34, pos := "net.go:29", after := #[{ on := 2, ground := Ground.data }], guard := none }
def s5o4 : Oper := { dst := some 45, op := Op.move (Operand.tmp 6), type := 3, pos := "net.go:29", after := #[], guard := none }
def s5o5 : Oper := { dst := some 46, op := Op.build 79 #[(0, Operand.tmp 44), (1, Operand.tmp 45)], type := 79, pos := "net.go:29", after := #[{ on := 3, ground := Ground.data }, { on := 4, ground := Ground.data }], guard := none }
def s5o6 : Oper := { dst := some 47, op := Op.fieldAddr 44 (Operand.tmp 3) 2, type := 0, pos := "net.go:29", after := #[], guard := none }
def s5o7 : Oper := { dst := some 48, op := Op.load 34 (Operand.tmp 47), type := 34, pos := "net.go:29", after := #[{ on := 6, ground := Ground.data }], guard := none }
def s5o8 : Oper := { dst := some 49, op := Op.fieldAddr 44 (Operand.tmp 3) 3, type := 0, pos := "net.go:29", after := #[], guard := none }
def s5o9 : Oper := { dst := some 50, op := Op.load 35 (Operand.tmp 49), type := 35, pos := "net.go:29", after := #[{ on := 8, ground := Ground.data }], guard := none }
def s5o10 : Oper := { dst := some 51, op := Op.call { callee := Callee.value (Operand.func 35), args := #[Operand.tmp 50], argTypes := #[35] }, type := 35, pos := "net.go:29", after := #[{ on := 9, ground := Ground.data }], guard := none }
def s5o11 : Oper := { dst := some 52, op := Op.build 81 #[(0, Operand.tmp 48), (1, Operand.tmp 51)], type := 81, pos := "net.go:29", after := #[{ on := 7, ground := Ground.data }, { on := 10, ground := Ground.data }], guard := none }
def s5o12 : Oper := { dst := some 53, op := Op.call { callee := Callee.value (Operand.func 34), args := #[Operand.tmp 42, Operand.tmp 46, Operand.tmp 52], argTypes := #[23, 79, 81] }, type := 4, pos := "net.go:29", after := #[{ on := 1, ground := Ground.data }, { on := 5, ground := Ground.data }, { on := 11, ground := Ground.data }, { on := 10, ground := Ground.chain }], guard := none }
def s5o13 : Oper := { dst := some 4, op := Op.assign (Operand.tmp 41), type := 3, pos := "net.go:29", after := #[{ on := 0, ground := Ground.data }, { on := 12, ground := Ground.chain }, { on := 0, ground := Ground.phase }, { on := 1, ground := Ground.textOnly Departure.lateStores }, { on := 2, ground := Ground.textOnly Departure.lateStores }, { on := 3, ground := Ground.textOnly Departure.lateStores }, { on := 4, ground := Ground.textOnly Departure.lateStores }, { on := 5, ground := Ground.textOnly Departure.lateStores }, { on := 6, ground := Ground.textOnly Departure.lateStores }, { on := 7, ground := Ground.textOnly Departure.lateStores }, { on := 8, ground := Ground.textOnly Departure.lateStores }, { on := 9, ground := Ground.textOnly Departure.lateStores }, { on := 10, ground := Ground.textOnly Departure.lateStoresUnsure }, { on := 11, ground := Ground.textOnly Departure.lateStores }, { on := 12, ground := Ground.textOnly Departure.lateStoresUnsure }], guard := none }
def s5o14 : Oper := { dst := some 5, op := Op.assign (Operand.tmp 53), type := 4, pos := "net.go:29", after := #[{ on := 12, ground := Ground.data }, { on := 13, ground := Ground.chain }, { on := 0, ground := Ground.phase }, { on := 1, ground := Ground.phase }, { on := 2, ground := Ground.phase }, { on := 3, ground := Ground.phase }, { on := 4, ground := Ground.phase }, { on := 5, ground := Ground.phase }, { on := 6, ground := Ground.phase }, { on := 7, ground := Ground.phase }, { on := 8, ground := Ground.phase }, { on := 9, ground := Ground.phase }, { on := 10, ground := Ground.phase }, { on := 11, ground := Ground.phase }, { on := 12, ground := Ground.phase }, { on := 13, ground := Ground.phase }], guard := none }
def s5ops : Array Oper := #[s5o0, s5o1, s5o2, s5o3, s5o4, s5o5, s5o6, s5o7, s5o8, s5o9, s5o10, s5o11, s5o12, s5o13, s5o14]
set_option maxRecDepth 100000 in
set_option maxHeartbeats 4000000 in
theorem s5 (a : Act) (n P l dc c : Nat) (f to' : Ad) (da : Option Addr) (p2 : Value) (zs : List Int) (C : World → Option Addr → Nat → Ending → World → Prop) (wm : World) (Q : Exit → Act → World → Prop) (hsz : a.tmps.size = 54) (h0 : a.eval (.tmp 0) = .pointer (some ⟨n, 0, none⟩)) (h3 : a.eval (.tmp 3) = .pointer (some ⟨P, 0, none⟩)) (h6 : a.eval (.tmp 6) = .int .i64 (c : Nat)) (hc0 : Box wm P 44 #[.bool f.1, .int .i64 f.2, p2, .bool to'.1, .int .i64 to'.2, .slice da l dc]) (hcl : ∀ W, Kept No wm W → Calls Try.prog 35 #[.slice da l dc] W fun e W' => ∃ ra rc, e = .returned (.slice ra l rc) ∧ OwnB W' W.heap.size ra rc zs ∧ Kept No W W') (hco : ∀ W ra rc, Kept No wm W → OwnB W wm.heap.size ra rc zs → Calls Try.prog 34 #[.pointer (some ⟨n, 0, none⟩), mkN (f, (c : Nat)), (.agg #[.bool to'.1, .int .i64 to'.2, .slice ra l rc, .slice none 0 0])] W (C W ra rc)) (hCP : ∀ W ra rc e W', C W ra rc e W' → (∃ b, e = .returned (.bool b)) ∧ (Box W P 44 #[.bool f.1, .int .i64 f.2, p2, .bool to'.1, .int .i64 to'.2, .slice da l dc] → Box W' P 44 #[.bool f.1, .int .i64 f.2, p2, .bool to'.1, .int .i64 to'.2, .slice da l dc])) (hQ : ∀ c (a : Act) t v w, Q (.panic c) (a.put t v) w → Q (.panic c) a w)
    (h : ∀ wo w1 ra rc b, Kept No wm w1 → OwnB w1 wm.heap.size ra rc zs → C w1 ra rc (.returned (.bool b)) wo → Q .normal (((((((((((((((a.put (some 41) (.int .i64 (c : Nat))).put (some 42) (.pointer (some ⟨n, 0, none⟩))).put (some 43) (.pointer (some ⟨P, 0, none⟩))).put (some 44) (mkA f)).put (some 45) (.int .i64 (c : Nat))).put (some 46) (mkN (f, (c : Nat)))).put (some 47) (.pointer (some ⟨P, 3, none⟩))).put (some 48) (mkA to')).put (some 49) (.pointer (some ⟨P, 5, none⟩))).put (some 50) (.slice da l dc)).put (some 51) (.slice ra l rc)).put (some 52) ((.agg #[.bool to'.1, .int .i64 to'.2, .slice ra l rc, .slice none 0 0]))).put (some 53) (.bool b)).put (some 4) (.int .i64 (c : Nat))).put (some 5) (.bool b)) wo) :
    Code.wp Try.prog (.region 5 s5ops true) Q a wm := by
  unfold s5ops
  refine wp_region_held_drew (S := fun w' => Box w' P 44 #[.bool f.1, .int .i64 f.2, p2, .bool to'.1, .int .i64 to'.2, .slice da l dc]) rfl hc0 (fun hH => ?_)
  have HK : Kept No wm wm.drew := (Kept.refl No wm).drew
  generalize wm.drew = wq0 at HK hH ⊢
  refine Wa.aT (i := 0) (oi := s5o0) (v := .int .i64 (c : Nat)) (fun _ hw => exec_mv rfl (by assumption)) hH ?_ (hQ := fun _ _ _ h => hQ _ _ _ _ _ h)
  refine Wa.aT (i := 1) (oi := s5o1) (v := .pointer (some ⟨n, 0, none⟩)) (fun _ hw => exec_mv rfl (by simp [s5o0, ev_ne, ev_eq, sz_put, put_none, evc, hsz, h0, h3, h6])) hH ?_ (hQ := fun _ _ _ h => hQ _ _ _ _ _ h)
  refine Wa.aT (i := 2) (oi := s5o2) (v := .pointer (some ⟨P, 0, none⟩)) (fun _ hw => exec_f44_0 rfl (by simp [s5o0, s5o1, ev_ne, ev_eq, sz_put, put_none, evc, hsz, h0, h3, h6])) hH ?_ (hQ := fun _ _ _ h => hQ _ _ _ _ _ h)
  refine Wa.aT (i := 3) (oi := s5o3) (v := mkA f) (fun _ hw => Wa.exec_load 34 _ rfl ⟨P, 0, none⟩ (by simp [s5o0, s5o1, s5o2, ev_ne, ev_eq, sz_put, put_none, evc, hsz, h0, h3, h6]) _ (ld34_0 (rest := [p2, .bool to'.1, .int .i64 to'.2, .slice da l dc]) f hw)) hH ?_ (hQ := fun _ _ _ h => hQ _ _ _ _ _ h)
  refine Wa.aT (i := 4) (oi := s5o4) (v := .int .i64 (c : Nat)) (fun _ hw => exec_mv rfl (by simp [s5o0, s5o1, s5o2, s5o3, ev_ne, ev_eq, sz_put, put_none, evc, hsz, h0, h3, h6])) hH ?_ (hQ := fun _ _ _ h => hQ _ _ _ _ _ h)
  refine Wa.aT (i := 5) (oi := s5o5) (v := mkN (f, (c : Nat))) (fun _ hw => exec_b79 rfl (by simp [s5o0, s5o1, s5o2, s5o3, s5o4, ev_ne, ev_eq, sz_put, put_none, evc, hsz, h0, h3, h6]) (by simp [s5o0, s5o1, s5o2, s5o3, s5o4, ev_ne, ev_eq, sz_put, put_none, evc, hsz, h0, h3, h6])) hH ?_ (hQ := fun _ _ _ h => hQ _ _ _ _ _ h)
  refine Wa.aT (i := 6) (oi := s5o6) (v := .pointer (some ⟨P, 3, none⟩)) (fun _ hw => exec_f44_2 rfl (by simp [s5o0, s5o1, s5o2, s5o3, s5o4, s5o5, ev_ne, ev_eq, sz_put, put_none, evc, hsz, h0, h3, h6])) hH ?_ (hQ := fun _ _ _ h => hQ _ _ _ _ _ h)
  refine Wa.aT (i := 7) (oi := s5o7) (v := mkA to') (fun _ hw => Wa.exec_load 34 _ rfl ⟨P, 3, none⟩ (by simp [s5o0, s5o1, s5o2, s5o3, s5o4, s5o5, s5o6, ev_ne, ev_eq, sz_put, put_none, evc, hsz, h0, h3, h6]) _ (ld34_3 (rest := [.slice da l dc]) to' hw)) hH ?_ (hQ := fun _ _ _ h => hQ _ _ _ _ _ h)
  refine Wa.any_step (i := 8) (o := s5o8) (v := .pointer (some ⟨P, 5, none⟩)) rfl (by kernel_rfl) (by kernel_rfl) (exec_f44_3 rfl (by simp [s5o0, s5o1, s5o2, s5o3, s5o4, s5o5, s5o6, s5o7, ev_ne, ev_eq, sz_put, put_none, evc, hsz, h0, h3, h6])) hH (fun hH => ?_)
  refine Wa.any_step (i := 9) (o := s5o9) (v := .slice da l dc) rfl (by kernel_rfl) (by kernel_rfl) (Wa.exec_load 35 _ rfl ⟨P, 5, none⟩ (by simp [s5o0, s5o1, s5o2, s5o3, s5o4, s5o5, s5o6, s5o7, s5o8, ev_ne, ev_eq, sz_put, put_none, evc, hsz, h0, h3, h6]) _ (Wa.load_one (hH.cell 5) Try.underlying35 rfl)) hH (fun hH => ?_)
  refine Wa.any_call (i := 10) (o := s5o10) rfl (by kernel_rfl) (by kernel_rfl) 35 #[.slice da l dc] (exec_c35 rfl (by simp [s5o0, s5o1, s5o2, s5o3, s5o4, s5o5, s5o6, s5o7, s5o8, s5o9, ev_ne, ev_eq, sz_put, put_none, evc, hsz, h0, h3, h6])) _ (hcl _ HK) ?_
  rintro e w1 ⟨ra, rc, rfl, hO, hk1⟩
  refine ⟨_, rfl, hH.kept hk1 (fun e => e), fun hH => ?_⟩
  refine Wa.any_step (i := 11) (o := s5o11) (v := (.agg #[.bool to'.1, .int .i64 to'.2, .slice ra l rc, .slice none 0 0])) rfl (by kernel_rfl) (by kernel_rfl) (exec_b81 rfl (by simp [s5o0, s5o1, s5o2, s5o3, s5o4, s5o5, s5o6, s5o7, s5o8, s5o9, s5o10, ev_ne, ev_eq, sz_put, put_none, evc, hsz, h0, h3, h6]) (by simp [s5o0, s5o1, s5o2, s5o3, s5o4, s5o5, s5o6, s5o7, s5o8, s5o9, s5o10, ev_ne, ev_eq, sz_put, put_none, evc, hsz, h0, h3, h6])) hH (fun hH => ?_)
  refine Wa.any_call (i := 12) (o := s5o12) rfl (by kernel_rfl) (by kernel_rfl) 34 #[.pointer (some ⟨n, 0, none⟩), mkN (f, (c : Nat)), (.agg #[.bool to'.1, .int .i64 to'.2, .slice ra l rc, .slice none 0 0])] (exec_c34 rfl (by simp [s5o0, s5o1, s5o2, s5o3, s5o4, s5o5, s5o6, s5o7, s5o8, s5o9, s5o10, s5o11, ev_ne, ev_eq, sz_put, put_none, evc, hsz, h0, h3, h6]) (by simp [s5o0, s5o1, s5o2, s5o3, s5o4, s5o5, s5o6, s5o7, s5o8, s5o9, s5o10, s5o11, ev_ne, ev_eq, sz_put, put_none, evc, hsz, h0, h3, h6]) (by simp [s5o0, s5o1, s5o2, s5o3, s5o4, s5o5, s5o6, s5o7, s5o8, s5o9, s5o10, s5o11, ev_ne, ev_eq, sz_put, put_none, evc, hsz, h0, h3, h6])) _ (hco w1 ra rc (HK.then hk1) (Own.lower hO HK.size)) ?_
  intro e w2 hC
  obtain ⟨⟨b, rfl⟩, hB⟩ := hCP w1 ra rc e w2 hC
  refine ⟨_, rfl, hB hH, fun hH => ?_⟩
  refine Wa.any_step (i := 13) (o := s5o13) (v := .int .i64 (c : Nat)) rfl (by kernel_rfl) (by kernel_rfl) (exec_as rfl (by simp [s5o0, s5o1, s5o2, s5o3, s5o4, s5o5, s5o6, s5o7, s5o8, s5o9, s5o10, s5o11, s5o12, ev_ne, ev_eq, sz_put, put_none, evc, hsz, h0, h3, h6])) hH (fun hH => ?_)
  refine Wa.any_step (i := 14) (o := s5o14) (v := .bool b) rfl (by kernel_rfl) (by kernel_rfl) (exec_as rfl (by simp [s5o0, s5o1, s5o2, s5o3, s5o4, s5o5, s5o6, s5o7, s5o8, s5o9, s5o10, s5o11, s5o12, s5o13, ev_ne, ev_eq, sz_put, put_none, evc, hsz, h0, h3, h6])) hH (fun hH => ?_)
  refine wpAnyH_done (by kernel_rfl) ?_ _
  simp only [s5o0, s5o1, s5o2, s5o3, s5o4, s5o5, s5o6, s5o7, s5o8, s5o9, s5o10, s5o11, s5o12, s5o13, s5o14, put_none]
  exact h _ w1 ra rc b (HK.then hk1) (Own.lower hO HK.size) hC

end Go.Proofs.Ytphiokehcgbldaa
