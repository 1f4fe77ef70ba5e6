import Derived.Test.YtphiokehcgbldaaQg
namespace Go.Proofs.Ytphiokehcgbldaa
open Go.RowKit Go.Shelf
set_option linter.unusedVariables false
set_option linter.unusedSimpArgs false
set_option maxRecDepth 100000

def noDefer (l : List Oper) : Bool := l.all fun o => match o.op with | .defer _ => false | _ => true
theorem noDefer_at {l : List Oper} (h : noDefer l = true) {i : Nat} {o : Oper} (ho : l.toArray[i]? = some o) (c : Call) : o.op ≠ .defer c := by
  intro e
  have hm : o ∈ l := List.mem_of_getElem? (by simpa using ho)
  have := List.all_eq_true.1 h o hm
  rw [e] at this
  cases this
/-- An operation that does not defer is run in a round as elsewhere. -/
theorem oper_lift {n l : Nat} {o : Oper} {a : Act} {w : World} {K K' : Act → World → Prop} {Q : Exit → Act → World → Prop} (hd : ∀ c, o.op ≠ .defer c)
    (h : ∀ a w, K a w → K' a w) (hh : o.wp Try.prog a w K Q) : o.wpIn (Fence.wide.inRound l) n Try.prog a w K' Q := by
  have hh := Oper.wp_mono h hh
  unfold Oper.wp at hh
  unfold Oper.wpIn
  refine ⟨fun f _ => trivial, ?_⟩
  rw [Fence.inRound_round, Oper.semAt_some _ _ _ hd]
  generalize (execOp a.eval o).run Try.prog w = r at *
  cases r with
  | ok x w' =>
    cases x <;> first
      | exact hh
      | exact hh.elim
      | exact ⟨fun e => by simp [Fence.inRound, Fence.wide] at e, CallsIn.inRound l (callsIn_wide.2 hh)⟩
      | exact ⟨fun e => by simp [Fence.inRound, Fence.wide] at e, fun c cs _ => by obtain ⟨v, w', r, s⟩ := hh c cs; exact ⟨v, w', r, stepsIn_wide.2 s⟩⟩
  | halt x w' => cases x <;> first | exact hh | exact hh.elim
theorem any_lift {n l : Nat} {md : Region.Mode} {ol : List Oper} {Q : Exit → Act → World → Prop} (hlo : ¬ LetsOut Q) (hnd : noDefer ol = true) : ∀ (fuel : Nat) (listed : Array Bool) (a : Act) (w : World),
    wpAny Try.prog md ol.toArray Q fuel listed a w → wpAnyIn (Fence.wide.inRound l) n Try.prog md ol.toArray Q fuel listed a w
  | 0, _, _, _, h => h
  | fuel + 1, listed, a, w, h => by
    refine ⟨h.1, fun i hi => ?_⟩
    have h2 := h.2 i hi
    unfold wpOp at h2
    unfold wpOpIn
    split
    · rename_i ho; simp only [ho] at h2; exact any_lift hlo hnd fuel _ _ _ h2
    · rename_i o ho
      simp only [ho] at h2
      split
      · rename_i hw
        simp only [hw, if_true] at h2
        rcases h2 with h2 | h2
        · exact oper_lift (noDefer_at hnd ho) (fun a w => any_lift hlo hnd fuel _ a w) h2
        · exact absurd h2.2 hlo
      · rename_i hw; simp only [hw] at h2; exact ⟨fun f _ => trivial, any_lift hlo hnd fuel _ _ _ h2⟩
/-- Neither a panic nor out of memory. -/
def NPo (Q : Exit → Act → World → Prop) : Exit → Act → World → Prop := fun e a w => (∀ c, e ≠ .panic c) ∧ e ≠ .outgrown ∧ Q e a w
theorem npo {Q : Exit → Act → World → Prop} {d : Option Tmp} {v : Value} : ∀ c a w, NPo Q (.panic c) (Act.put a d v) w → NPo Q (.panic c) a w := fun _ _ _ h => absurd rfl (h.1 _)
theorem npoQ {Q : Exit → Act → World → Prop} {a : Act} {w : World} (h : Q .normal a w) : NPo Q .normal a w := ⟨fun _ e => (by cases e), fun e => (by cases e), h⟩
theorem round_held {l n id : Nat} {ol : List Oper} {Q : Exit → Act → World → Prop} {S : World → Prop} {a : Act} {w : World} (hm : Try.prog.follows .mixedOrders = true) (hnd : noDefer ol = true) (hS : S w.drew)
    (h : S w.drew → wpAnyH Try.prog .any ol.toArray (NPo Q) S ol.toArray.size (Array.replicate ol.toArray.size false) a w.drew) : (Code.region id ol.toArray true).wpIn (Fence.wide.inRound l) n Try.prog Q a w :=
  wpIn_mono (wpIn_region_any hm (any_lift (Q := NPo Q) (fun ⟨_, _, e⟩ => absurd rfl e.2.1) hnd _ _ _ _ (wpAny_of_held _ _ _ _ (h hS)))) (fun _ _ _ h => h.2.2)
theorem flat_held {id : Nat} {ol : List Oper} {Q : Exit → Act → World → Prop} {S : World → Prop} {a : Act} {w : World} (hm : Try.prog.follows .mixedOrders = true) (hS : S w.drew)
    (h : S w.drew → wpAnyH Try.prog .any ol.toArray (NPo Q) S ol.toArray.size (Array.replicate ol.toArray.size false) a w.drew) : (Code.region id ol.toArray true).wp Try.prog Q a w :=
  Code.wp_mono (fun _ _ _ h => h.2.2) (wp_region_held_drew hm hS h)
theorem wanted_f {o : Oper} {a : Act} (ops : Array Oper) (j t : Nat) (b : Bool) (hg : o.guard = some (j, b)) (hd : (ops[j]?).bind (·.dst) = some t) (ht : t < a.tmps.size) (hv : a.eval (.tmp t) = .bool b) : Region.wanted o (yielded ops a.tmps) = true := by
  have hv' : a.tmps[t]? = some (.bool b) := by
    have h1 : a.tmps.getD t undef = .bool b := hv
    rw [Array.getD_eq_getD_getElem?, Array.getElem?_eq_getElem ht] at h1
    rw [Array.getElem?_eq_getElem ht]
    exact congrArg some h1
  simp [Region.wanted, hg, yielded, hd, hv']
section
variable {o : Oper} {a : Act} {w w' : World} {x y z : Operand} {v : Value}
theorem exec_f31_0 {g : Nat} (ho : o.op = .fieldAddr 31 x 0) (hx : a.eval x = .pointer (some ⟨g, 0, none⟩)) : (execOp a.eval o).run Try.prog w = .ok (.value (.pointer (some ⟨g, 0, none⟩))) w := by
  simp only [execOp, ho, hx]; kernel_rfl
theorem exec_f31_1 {g : Nat} (ho : o.op = .fieldAddr 31 x 1) (hx : a.eval x = .pointer (some ⟨g, 0, none⟩)) : (execOp a.eval o).run Try.prog w = .ok (.value (.pointer (some ⟨g, 1, none⟩))) w := by
  simp only [execOp, ho, hx]; kernel_rfl
theorem exec_not {b : Bool} (ho : o.op = .unOp UnOp.not 4 x) (hx : a.eval x = .bool b) : (execOp a.eval o).run Try.prog w = .ok (.value (.bool (!b))) w := by
  simp only [execOp, ho, hx]
  cases b <;> kernel_rfl
theorem exec_pickF (ho : o.op = .pick x y z) (hx : a.eval x = .bool false) (hz : a.eval z = v) : (execOp a.eval o).run Try.prog w = .ok (.value v) w := by
  subst hz
  simp only [execOp, ho, hx]
  kernel_rfl
theorem exec_pickT (ho : o.op = .pick x y z) (hx : a.eval x = .bool true) (hz : a.eval y = v) : (execOp a.eval o).run Try.prog w = .ok (.value v) w := by
  subst hz
  simp only [execOp, ho, hx]
  kernel_rfl
theorem exec_len26 {p : Option Addr} {m c : Nat} (ho : o.op = .call { callee := .builtin .len, args := #[x], argTypes := #[26] }) (hx : a.eval x = .slice p m c) : (execOp a.eval o).run Try.prog w = .ok (.value (.int .i64 (m : Nat))) w := by
  have h : Try.prog.underlying 26 = some (.slice (Try.prog.elem 26)) := by kernel_rfl
  simp [execOp, ho, resolve, invoke, builtin, hx, run_len_slice (h := h), Result.andThen]
  rfl
theorem exec_geN {c m : Nat} (ho : o.op = .binOp BinOp.geq 3 x y 3) (hx : a.eval x = .int .i64 (c : Int)) (hy : a.eval y = .int .i64 (m : Int)) : (execOp a.eval o).run Try.prog w = .ok (.value (.bool (decide (m ≤ c)))) w := by
  refine Wa.exec_bin _ _ _ _ _ ho (.int .i64 (c : Int)) (.int .i64 (m : Int)) _ hx hy (by rfl) ?_
  have hd : decide (m ≤ c) = decide ((m : Int) ≤ (c : Int)) := by rw [decide_eq_decide]; omega
  rw [hd]; rfl
theorem exec_eqN {c m : Nat} (ho : o.op = .binOp BinOp.eql 3 x y 3) (hx : a.eval x = .int .i64 (c : Int)) (hy : a.eval y = .int .i64 (m : Int)) : (execOp a.eval o).run Try.prog w = .ok (.value (.bool (decide (c = m)))) w := by
  refine Wa.exec_bin _ _ _ _ _ ho (.int .i64 (c : Int)) (.int .i64 (m : Int)) _ hx hy (by rfl) ?_
  have hd : decide (c = m) = decide ((c : Int) = (m : Int)) := by rw [decide_eq_decide]; omega
  rw [hd]; rfl
theorem exec_ix26 {D m c0 i : Nat} (ho : o.op = .indexAddr 26 x y) (hx : a.eval x = .slice (some ⟨D, 0, none⟩) m c0) (hy : a.eval y = .int .i64 (i : Nat)) (hi : i < m) : (execOp a.eval o).run Try.prog w = .ok (.value (.pointer (some ⟨D, i * 6, none⟩))) w := by
  have h := Wa.exec_ixA (o := o) (a := a) (w := w) 26 6 (by kernel_rfl) (by kernel_rfl) x y ho D 0 m c0 i hx hy hi
  simpa using h
theorem exec_c22 {u1 u2 : Value} (ho : o.op = .call { callee := .value (.func 22), args := #[x, y], argTypes := #[44, 44] }) (hx : a.eval x = u1) (hy : a.eval y = u2) : (execOp a.eval o).run Try.prog w = .ok (.enter 22 #[u1, u2]) w := by
  subst hx hy
  simp only [execOp, ho]
  kernel_rfl
theorem ldPk {g i : Nat} {CS : List Value} {y : Tp} (hb : Box w g 44 CS.toArray) (hp : Wa.Part CS i (pkL y)) : (loadVar 44 ⟨g, i, none⟩).run Try.prog w = .ok (.agg (pkL y).toArray) w :=
  Wa.run_load_part hb hp Try.underlying44 rfl (by kernel_rfl)
theorem store_4 {g : Nat} {b c : Bool} (hb : Box w g 4 #[.bool b]) : (storeVar 4 ⟨g, 0, none⟩ (.bool c)).run Try.prog w = .ok () (w.setRow g #[.bool c]) :=
  Wa.run_store_at (cur := [.bool b]) (vs := [.bool c]) hb rfl (by kernel_rfl) (by simp) (fun v hv => by rw [List.mem_singleton.1 hv]; rfl)
end
/-- A row's block. -/
theorem own_box {w : World} {base cap i : Nat} {a : Option Addr} {xs : List Tp} (h : Own 44 6 w base a cap xs.length (xs.flatMap pkL)) {x : Tp} (hi : xs[i]? = some x) : ∃ pg CS, a = some ⟨pg, 0, none⟩ ∧ Box w pg 44 CS.toArray ∧ Wa.Part CS (i * 6) (pkL x) := by
  obtain ⟨pg, e, hp⟩ := pk_at h hi
  subst e
  rcases Own.cases h (fl_len xs) with ⟨e, _⟩ | ⟨g, e, _, _, sp, hb, hs⟩
  · cases e
  · cases e
    refine ⟨pg, _, rfl, hb, fun j u hj => ?_⟩
    have hlj := (List.getElem?_eq_some_iff.1 hj).1
    have hl : i < xs.length := (List.getElem?_eq_some_iff.1 hi).1
    have hx : xs.flatMap pkL = (xs.take i).flatMap pkL ++ (pkL x ++ (xs.drop (i + 1)).flatMap pkL) := by
      have hd : xs.drop i = x :: xs.drop (i + 1) := by
        rw [List.drop_eq_getElem_cons hl]
        congr 1
        exact (List.getElem?_eq_some_iff.1 hi).2
      have e : xs.flatMap pkL = (xs.take i).flatMap pkL ++ (xs.drop i).flatMap pkL := by rw [← List.flatMap_append, List.take_append_drop]
      rw [e, hd, List.flatMap_cons]
    have hl6 : ((xs.take i).flatMap pkL).length = i * 6 := by rw [fl_len, List.length_take]; congr 1; omega
    rw [List.getElem?_append_left (by rw [hx, List.length_append, List.length_append, hl6]; omega), hx, List.getElem?_append_right (by omega), hl6, show i * 6 + j - i * 6 = j by omega, List.getElem?_append_left hlj]
    exact hj

def u7o0 : Oper := { dst := some 13, op := Op.load 3 (Operand.tmp 4), type := 3, pos := "law.go:73", after := #[], guard := none }
def u7o1 : Oper := { dst := some 14, op := Op.fieldAddr 31 (Operand.tmp 1) 1, type := 0, pos := "law.go:73", after := #[], guard := none }
def u7o2 : Oper := { dst := some 15, op := Op.load 25 (Operand.tmp 14), type := 25, pos := "law.go:73", after := #[{ on := 1, ground := Ground.data }], guard := none }
def u7o3 : Oper := { dst := some 16, op := Op.nilCheck (Operand.tmp 15), type := 0, pos := "law.go:73", after := #[{ on := 2, ground := Ground.data }], guard := none }
def u7o4 : Oper := { dst := some 17, op := Op.fieldAddr 29 (Operand.tmp 16) 0, type := 0, pos := "law.go:73", after := #[{ on := 3, ground := Ground.data }], guard := none }
def u7o5 : Oper := { dst := some 18, op := Op.load 26 (Operand.tmp 17), type := 26, pos := "law.go:73", after := #[{ on := 4, ground := Ground.data }], guard := none }
def u7o6 : Oper := { dst := some 19, op := Op.call { callee := Callee.builtin Builtin.len, args := #[Operand.tmp 18], argTypes := #[26] }, type := 3, pos := "law.go:73", after := #[{ on := 5, ground := Ground.data }], guard := none }
def u7o7 : Oper := { dst := some 20, op := Op.binOp BinOp.geq 3 (Operand.tmp 13) (Operand.tmp 19) 3, type := 4, pos := "law.go:73", after := #[{ on := 0, ground := Ground.data }, { on := 6, ground := Ground.data }], guard := none }
def u7o8 : Oper := { dst := some 21, op := Op.move (Operand.tmp 20), type := 4, pos := "law.go:73", after := #[{ on := 7, ground := Ground.data }], guard := none }
def u7o9 : Oper := { dst := some 22, op := Op.load 44 (Operand.tmp 5), type := 44, pos := "law.go:73", after := #[{ on := 8, ground := Ground.guard }], guard := some (8, false) }
def u7o10 : Oper := { dst := some 23, op := Op.fieldAddr 31 (Operand.tmp 1) 1, type := 0, pos := "law.go:73", after := #[{ on := 8, ground := Ground.guard }], guard := some (8, false) }
def u7o11 : Oper := { dst := some 24, op := Op.load 25 (Operand.tmp 23), type := 25, pos := "law.go:73", after := #[{ on := 10, ground := Ground.data }, { on := 8, ground := Ground.guard }], guard := some (8, false) }
def u7o12 : Oper := { dst := some 25, op := Op.nilCheck (Operand.tmp 24), type := 0, pos := "law.go:73", after := #[{ on := 11, ground := Ground.data }, { on := 8, ground := Ground.guard }], guard := some (8, false) }
def u7o13 : Oper := { dst := some 26, op := Op.fieldAddr 29 (Operand.tmp 25) 0, type := 0, pos := "law.go:73", after := #[{ on := 12, ground := Ground.data }, { on := 8, ground := Ground.guard }], guard := some (8, false) }
def u7o14 : Oper := { dst := some 27, op := Op.load 26 (Operand.tmp 26), type := 26, pos := "law.go:73", after := #[{ on := 13, ground := Ground.data }, { on := 8, ground := Ground.guard }], guard := some (8, false) }
def u7o15 : Oper := { dst := some 28, op := Op.load 3 (Operand.tmp 4), type := 3, pos := "law.go:73", after := #[{ on := 8, ground := Ground.guard }], guard := some (8, false) }
def u7o16 : Oper := { dst := some 29, op := Op.indexAddr 26 (Operand.tmp 27) (Operand.tmp 28), type := 0, pos := "law.go:73", after := #[{ on := 14, ground := Ground.data }, { on := 15, ground := Ground.data }, { on := 8, ground := Ground.guard }], guard := some (8, false) }
def u7o17 : Oper := { dst := some 30, op := Op.load 44 (Operand.tmp 29), type := 44, pos := "law.go:73", after := #[{ on := 16, ground := Ground.data }, { on := 8, ground := Ground.guard }], guard := some (8, false) }
def u7o18 : Oper := { dst := some 31, op := Op.call { callee := Callee.value (Operand.func 22), args := #[Operand.tmp 22, Operand.tmp 30], argTypes := #[44, 44] }, type := 4, pos := "law.go:73", after := #[{ on := 9, ground := Ground.data }, { on := 17, ground := Ground.data }, { on := 8, ground := Ground.chain }, { on := 8, ground := Ground.guard }], guard := some (8, false) }
def u7o19 : Oper := { dst := some 32, op := Op.unOp UnOp.not 4 (Operand.tmp 31), type := 4, pos := "law.go:73", after := #[{ on := 18, ground := Ground.data }, { on := 8, ground := Ground.guard }], guard := some (8, false) }
def u7o20 : Oper := { dst := some 33, op := Op.pick (Operand.tmp 21) (Operand.const (Value.bool true)) (Operand.tmp 32), type := 4, pos := "law.go:73", after := #[{ on := 8, ground := Ground.data }, { on := 19, ground := Ground.data }], guard := none }
def u7ops : Array Oper := #[u7o0, u7o1, u7o2, u7o3, u7o4, u7o5, u7o6, u7o7, u7o8, u7o9, u7o10, u7o11, u7o12, u7o13, u7o14, u7o15, u7o16, u7o17, u7o18, u7o19, u7o20]
set_option maxHeartbeats 4000000 in
theorem u7 (a : Act) (bW bN bP r n pg k m lc : Nat) (CS : List Value) (y : Tp) (fc tc : Bool) (fi cc ti : Int) (da : Option Addr) (dl dk : Nat) (sv : Value) (wm : World) (Q : Exit → Act → World → Prop) (l nf : Nat) (hsz : a.tmps.size = 44) (h1 : a.eval (.tmp 1) = .pointer (some ⟨bW, 0, none⟩)) (h4 : a.eval (.tmp 4) = .pointer (some ⟨bN, 0, none⟩)) (h5 : a.eval (.tmp 5) = .pointer (some ⟨bP, 0, none⟩)) (hc0 : Box wm bN 3 #[.int .i64 (k : Nat)]) (hc1 : Box wm bW 31 #[.pointer (some ⟨n, 0, none⟩), .pointer (some ⟨r, 0, none⟩)]) (hc2 : Box wm r 29 #[.slice (some ⟨pg, 0, none⟩) m lc, sv]) (hc3 : Box wm bP 44 #[.bool fc, .int .i64 fi, .int .i64 cc, .bool tc, .int .i64 ti, .slice da dl dk]) (hc4 : Box wm pg 44 CS.toArray) (hkm : k < m) (hpart : Wa.Part CS (k * 6) (pkL y)) (hcall : ∀ W, Kept No wm W → Calls Try.prog 22 #[.agg #[.bool fc, .int .i64 fi, .int .i64 cc, .bool tc, .int .i64 ti, .slice da dl dk], .agg (pkL y).toArray] W (fun e w' => e = .returned (.bool true) ∧ Kept No W w'))
    (h : ∀ wo, Kept No wm wo → Q .normal (((((((((((((((((((((a.put (some 13) (.int .i64 (k : Nat))).put (some 14) (.pointer (some ⟨bW, 1, none⟩))).put (some 15) (.pointer (some ⟨r, 0, none⟩))).put (some 16) (.pointer (some ⟨r, 0, none⟩))).put (some 17) (.pointer (some ⟨r, 0, none⟩))).put (some 18) (.slice (some ⟨pg, 0, none⟩) m lc)).put (some 19) (.int .i64 (m : Nat))).put (some 20) (.bool false)).put (some 21) (.bool false)).put (some 22) (.agg #[.bool fc, .int .i64 fi, .int .i64 cc, .bool tc, .int .i64 ti, .slice da dl dk])).put (some 23) (.pointer (some ⟨bW, 1, none⟩))).put (some 24) (.pointer (some ⟨r, 0, none⟩))).put (some 25) (.pointer (some ⟨r, 0, none⟩))).put (some 26) (.pointer (some ⟨r, 0, none⟩))).put (some 27) (.slice (some ⟨pg, 0, none⟩) m lc)).put (some 28) (.int .i64 (k : Nat))).put (some 29) (.pointer (some ⟨pg, k * 6, none⟩))).put (some 30) (.agg (pkL y).toArray)).put (some 31) (.bool true)).put (some 32) (.bool false)).put (some 33) (.bool false)) wo) :
    (Code.region 7 u7ops true).wpIn (Fence.wide.inRound l) nf Try.prog Q a wm := by
  unfold u7ops
  refine round_held (S := fun w' => Box w' bN 3 #[.int .i64 (k : Nat)] ∧ Box w' bW 31 #[.pointer (some ⟨n, 0, none⟩), .pointer (some ⟨r, 0, none⟩)] ∧ Box w' r 29 #[.slice (some ⟨pg, 0, none⟩) m lc, sv] ∧ Box w' bP 44 #[.bool fc, .int .i64 fi, .int .i64 cc, .bool tc, .int .i64 ti, .slice da dl dk] ∧ Box w' pg 44 CS.toArray) rfl rfl ⟨hc0, hc1, hc2, hc3, hc4⟩ (fun hH => ?_)
  refine Wa.aT (i := 0) (oi := u7o0) (v := .int .i64 (k : Nat)) (fun _ hw => Wa.exec_load 3 _ rfl ⟨bN, 0, none⟩ (by assumption) _ (Wa.load_one (hw.1.cell 0) Try.underlying3 rfl)) hH ?_ (hQ := npo)
  refine Wa.any_step (i := 1) (o := u7o1) (v := .pointer (some ⟨bW, 1, none⟩)) rfl (by kernel_rfl) (by kernel_rfl) (exec_f31_1 rfl (by simp [u7o0, ev_ne, ev_eq, sz_put, put_none, evc, hsz, h1, h4, h5])) hH (fun hH => ?_)
  refine Wa.any_step (i := 2) (o := u7o2) (v := .pointer (some ⟨r, 0, none⟩)) rfl (by kernel_rfl) (by kernel_rfl) (Wa.exec_load 25 _ rfl ⟨bW, 1, none⟩ (by simp [u7o0, u7o1, ev_ne, ev_eq, sz_put, put_none, evc, hsz, h1, h4, h5]) _ (Wa.load_one (hH.2.1.cell 1) Try.underlying25 rfl)) hH (fun hH => ?_)
  refine Wa.any_step (i := 3) (o := u7o3) (v := .pointer (some ⟨r, 0, none⟩)) rfl (by kernel_rfl) (by kernel_rfl) (exec_nil rfl (by simp [u7o0, u7o1, u7o2, ev_ne, ev_eq, sz_put, put_none, evc, hsz, h1, h4, h5])) hH (fun hH => ?_)
  refine Wa.any_step (i := 4) (o := u7o4) (v := .pointer (some ⟨r, 0, none⟩)) rfl (by kernel_rfl) (by kernel_rfl) (exec_f29_0 rfl (by simp [u7o0, u7o1, u7o2, u7o3, ev_ne, ev_eq, sz_put, put_none, evc, hsz, h1, h4, h5])) hH (fun hH => ?_)
  refine Wa.any_step (i := 5) (o := u7o5) (v := .slice (some ⟨pg, 0, none⟩) m lc) rfl (by kernel_rfl) (by kernel_rfl) (Wa.exec_load 26 _ rfl ⟨r, 0, none⟩ (by simp [u7o0, u7o1, u7o2, u7o3, u7o4, ev_ne, ev_eq, sz_put, put_none, evc, hsz, h1, h4, h5]) _ (Wa.load_one (hH.2.2.1.cell 0) Try.underlying26 rfl)) hH (fun hH => ?_)
  refine Wa.any_step (i := 6) (o := u7o6) (v := .int .i64 (m : Nat)) rfl (by kernel_rfl) (by kernel_rfl) (exec_len26 (p := some ⟨pg, 0, none⟩) (c := lc) rfl (by simp [u7o0, u7o1, u7o2, u7o3, u7o4, u7o5, ev_ne, ev_eq, sz_put, put_none, evc, hsz, h1, h4, h5])) hH (fun hH => ?_)
  refine Wa.any_step (i := 7) (o := u7o7) (v := .bool (decide (m ≤ k))) rfl (by kernel_rfl) (by kernel_rfl) (exec_geN rfl (by simp [u7o0, u7o1, u7o2, u7o3, u7o4, u7o5, u7o6, ev_ne, ev_eq, sz_put, put_none, evc, hsz, h1, h4, h5]) (by simp [u7o0, u7o1, u7o2, u7o3, u7o4, u7o5, u7o6, ev_ne, ev_eq, sz_put, put_none, evc, hsz, h1, h4, h5])) hH (fun hH => ?_)
  have hdf : decide (m ≤ k) = false := by rw [decide_eq_false_iff_not]; omega
  rw [hdf]
  refine Wa.any_step (i := 8) (o := u7o8) (v := .bool false) rfl (by kernel_rfl) (by kernel_rfl) (exec_mv rfl (by simp [u7o0, u7o1, u7o2, u7o3, u7o4, u7o5, u7o6, u7o7, ev_ne, ev_eq, sz_put, put_none, evc, hsz, h1, h4, h5])) hH (fun hH => ?_)
  refine Wa.aT (i := 9) (oi := u7o9) (v := .agg #[.bool fc, .int .i64 fi, .int .i64 cc, .bool tc, .int .i64 ti, .slice da dl dk]) (fun _ hw => Wa.exec_load 44 _ rfl ⟨bP, 0, none⟩ (by simp [u7o0, u7o1, u7o2, u7o3, u7o4, u7o5, u7o6, u7o7, u7o8, ev_ne, ev_eq, sz_put, put_none, evc, hsz, h1, h4, h5]) _ (ld44 hw.2.2.2.1)) hH ?_ (hQ := npo) (hw := wanted_f _ 8 21 false rfl rfl (by simp [u7o0, u7o1, u7o2, u7o3, u7o4, u7o5, u7o6, u7o7, u7o8, sz_put, put_none, hsz]) (by simp [u7o0, u7o1, u7o2, u7o3, u7o4, u7o5, u7o6, u7o7, u7o8, ev_ne, ev_eq, sz_put, put_none, evc, hsz, h1, h4, h5]))
  refine Wa.aT (i := 10) (oi := u7o10) (v := .pointer (some ⟨bW, 1, none⟩)) (fun _ hw => exec_f31_1 rfl (by simp [u7o0, u7o1, u7o2, u7o3, u7o4, u7o5, u7o6, u7o7, u7o8, u7o9, ev_ne, ev_eq, sz_put, put_none, evc, hsz, h1, h4, h5])) hH ?_ (hQ := npo) (hw := wanted_f _ 8 21 false rfl rfl (by simp [u7o0, u7o1, u7o2, u7o3, u7o4, u7o5, u7o6, u7o7, u7o8, u7o9, sz_put, put_none, hsz]) (by simp [u7o0, u7o1, u7o2, u7o3, u7o4, u7o5, u7o6, u7o7, u7o8, u7o9, ev_ne, ev_eq, sz_put, put_none, evc, hsz, h1, h4, h5]))
  refine Wa.aT (i := 11) (oi := u7o11) (v := .pointer (some ⟨r, 0, none⟩)) (fun _ hw => Wa.exec_load 25 _ rfl ⟨bW, 1, none⟩ (by simp [u7o0, u7o1, u7o2, u7o3, u7o4, u7o5, u7o6, u7o7, u7o8, u7o9, u7o10, ev_ne, ev_eq, sz_put, put_none, evc, hsz, h1, h4, h5]) _ (Wa.load_one (hw.2.1.cell 1) Try.underlying25 rfl)) hH ?_ (hQ := npo) (hw := wanted_f _ 8 21 false rfl rfl (by simp [u7o0, u7o1, u7o2, u7o3, u7o4, u7o5, u7o6, u7o7, u7o8, u7o9, u7o10, sz_put, put_none, hsz]) (by simp [u7o0, u7o1, u7o2, u7o3, u7o4, u7o5, u7o6, u7o7, u7o8, u7o9, u7o10, ev_ne, ev_eq, sz_put, put_none, evc, hsz, h1, h4, h5]))
  refine Wa.aT (i := 12) (oi := u7o12) (v := .pointer (some ⟨r, 0, none⟩)) (fun _ hw => exec_nil rfl (by simp [u7o0, u7o1, u7o2, u7o3, u7o4, u7o5, u7o6, u7o7, u7o8, u7o9, u7o10, u7o11, ev_ne, ev_eq, sz_put, put_none, evc, hsz, h1, h4, h5])) hH ?_ (hQ := npo) (hw := wanted_f _ 8 21 false rfl rfl (by simp [u7o0, u7o1, u7o2, u7o3, u7o4, u7o5, u7o6, u7o7, u7o8, u7o9, u7o10, u7o11, sz_put, put_none, hsz]) (by simp [u7o0, u7o1, u7o2, u7o3, u7o4, u7o5, u7o6, u7o7, u7o8, u7o9, u7o10, u7o11, ev_ne, ev_eq, sz_put, put_none, evc, hsz, h1, h4, h5]))
  refine Wa.aT (i := 13) (oi := u7o13) (v := .pointer (some ⟨r, 0, none⟩)) (fun _ hw => exec_f29_0 rfl (by simp [u7o0, u7o1, u7o2, u7o3, u7o4, u7o5, u7o6, u7o7, u7o8, u7o9, u7o10, u7o11, u7o12, ev_ne, ev_eq, sz_put, put_none, evc, hsz, h1, h4, h5])) hH ?_ (hQ := npo) (hw := wanted_f _ 8 21 false rfl rfl (by simp [u7o0, u7o1, u7o2, u7o3, u7o4, u7o5, u7o6, u7o7, u7o8, u7o9, u7o10, u7o11, u7o12, sz_put, put_none, hsz]) (by simp [u7o0, u7o1, u7o2, u7o3, u7o4, u7o5, u7o6, u7o7, u7o8, u7o9, u7o10, u7o11, u7o12, ev_ne, ev_eq, sz_put, put_none, evc, hsz, h1, h4, h5]))
  refine Wa.aT (i := 14) (oi := u7o14) (v := .slice (some ⟨pg, 0, none⟩) m lc) (fun _ hw => Wa.exec_load 26 _ rfl ⟨r, 0, none⟩ (by simp [u7o0, u7o1, u7o2, u7o3, u7o4, u7o5, u7o6, u7o7, u7o8, u7o9, u7o10, u7o11, u7o12, u7o13, ev_ne, ev_eq, sz_put, put_none, evc, hsz, h1, h4, h5]) _ (Wa.load_one (hw.2.2.1.cell 0) Try.underlying26 rfl)) hH ?_ (hQ := npo) (hw := wanted_f _ 8 21 false rfl rfl (by simp [u7o0, u7o1, u7o2, u7o3, u7o4, u7o5, u7o6, u7o7, u7o8, u7o9, u7o10, u7o11, u7o12, u7o13, sz_put, put_none, hsz]) (by simp [u7o0, u7o1, u7o2, u7o3, u7o4, u7o5, u7o6, u7o7, u7o8, u7o9, u7o10, u7o11, u7o12, u7o13, ev_ne, ev_eq, sz_put, put_none, evc, hsz, h1, h4, h5]))
  refine Wa.any_step (i := 15) (o := u7o15) (v := .int .i64 (k : Nat)) rfl (by kernel_rfl) (wanted_f _ 8 21 false rfl rfl (by simp [u7o0, u7o1, u7o2, u7o3, u7o4, u7o5, u7o6, u7o7, u7o8, u7o9, u7o10, u7o11, u7o12, u7o13, u7o14, sz_put, put_none, hsz]) (by simp [u7o0, u7o1, u7o2, u7o3, u7o4, u7o5, u7o6, u7o7, u7o8, u7o9, u7o10, u7o11, u7o12, u7o13, u7o14, ev_ne, ev_eq, sz_put, put_none, evc, hsz, h1, h4, h5])) (Wa.exec_load 3 _ rfl ⟨bN, 0, none⟩ (by simp [u7o0, u7o1, u7o2, u7o3, u7o4, u7o5, u7o6, u7o7, u7o8, u7o9, u7o10, u7o11, u7o12, u7o13, u7o14, ev_ne, ev_eq, sz_put, put_none, evc, hsz, h1, h4, h5]) _ (Wa.load_one (hH.1.cell 0) Try.underlying3 rfl)) hH (fun hH => ?_)
  refine Wa.any_step (i := 16) (o := u7o16) (v := .pointer (some ⟨pg, k * 6, none⟩)) rfl (by kernel_rfl) (wanted_f _ 8 21 false rfl rfl (by simp [u7o0, u7o1, u7o2, u7o3, u7o4, u7o5, u7o6, u7o7, u7o8, u7o9, u7o10, u7o11, u7o12, u7o13, u7o14, u7o15, sz_put, put_none, hsz]) (by simp [u7o0, u7o1, u7o2, u7o3, u7o4, u7o5, u7o6, u7o7, u7o8, u7o9, u7o10, u7o11, u7o12, u7o13, u7o14, u7o15, ev_ne, ev_eq, sz_put, put_none, evc, hsz, h1, h4, h5])) (exec_ix26 (m := m) (c0 := lc) rfl (by simp [u7o0, u7o1, u7o2, u7o3, u7o4, u7o5, u7o6, u7o7, u7o8, u7o9, u7o10, u7o11, u7o12, u7o13, u7o14, u7o15, ev_ne, ev_eq, sz_put, put_none, evc, hsz, h1, h4, h5]) (by simp [u7o0, u7o1, u7o2, u7o3, u7o4, u7o5, u7o6, u7o7, u7o8, u7o9, u7o10, u7o11, u7o12, u7o13, u7o14, u7o15, ev_ne, ev_eq, sz_put, put_none, evc, hsz, h1, h4, h5]) hkm) hH (fun hH => ?_)
  refine Wa.any_step (i := 17) (o := u7o17) (v := .agg (pkL y).toArray) rfl (by kernel_rfl) (wanted_f _ 8 21 false rfl rfl (by simp [u7o0, u7o1, u7o2, u7o3, u7o4, u7o5, u7o6, u7o7, u7o8, u7o9, u7o10, u7o11, u7o12, u7o13, u7o14, u7o15, u7o16, sz_put, put_none, hsz]) (by simp [u7o0, u7o1, u7o2, u7o3, u7o4, u7o5, u7o6, u7o7, u7o8, u7o9, u7o10, u7o11, u7o12, u7o13, u7o14, u7o15, u7o16, ev_ne, ev_eq, sz_put, put_none, evc, hsz, h1, h4, h5])) (Wa.exec_load 44 _ rfl ⟨pg, k * 6, none⟩ (by simp [u7o0, u7o1, u7o2, u7o3, u7o4, u7o5, u7o6, u7o7, u7o8, u7o9, u7o10, u7o11, u7o12, u7o13, u7o14, u7o15, u7o16, ev_ne, ev_eq, sz_put, put_none, evc, hsz, h1, h4, h5]) _ (ldPk hH.2.2.2.2 hpart)) hH (fun hH => ?_)
  refine Wa.any_call (i := 18) (o := u7o18) rfl (by kernel_rfl) (wanted_f _ 8 21 false rfl rfl (by simp [u7o0, u7o1, u7o2, u7o3, u7o4, u7o5, u7o6, u7o7, u7o8, u7o9, u7o10, u7o11, u7o12, u7o13, u7o14, u7o15, u7o16, u7o17, sz_put, put_none, hsz]) (by simp [u7o0, u7o1, u7o2, u7o3, u7o4, u7o5, u7o6, u7o7, u7o8, u7o9, u7o10, u7o11, u7o12, u7o13, u7o14, u7o15, u7o16, u7o17, ev_ne, ev_eq, sz_put, put_none, evc, hsz, h1, h4, h5])) 22 #[.agg #[.bool fc, .int .i64 fi, .int .i64 cc, .bool tc, .int .i64 ti, .slice da dl dk], .agg (pkL y).toArray] (exec_c22 rfl (by simp [u7o0, u7o1, u7o2, u7o3, u7o4, u7o5, u7o6, u7o7, u7o8, u7o9, u7o10, u7o11, u7o12, u7o13, u7o14, u7o15, u7o16, u7o17, ev_ne, ev_eq, sz_put, put_none, evc, hsz, h1, h4, h5]) (by simp [u7o0, u7o1, u7o2, u7o3, u7o4, u7o5, u7o6, u7o7, u7o8, u7o9, u7o10, u7o11, u7o12, u7o13, u7o14, u7o15, u7o16, u7o17, ev_ne, ev_eq, sz_put, put_none, evc, hsz, h1, h4, h5])) _ (hcall _ (Kept.refl No wm).drew) ?_
  rintro e w6 ⟨rfl, hk6⟩
  refine ⟨_, rfl, ⟨hH.1.kept hk6 (fun e => e), hH.2.1.kept hk6 (fun e => e), hH.2.2.1.kept hk6 (fun e => e), hH.2.2.2.1.kept hk6 (fun e => e), hH.2.2.2.2.kept hk6 (fun e => e)⟩, fun hH => ?_⟩
  refine Wa.any_step (i := 19) (o := u7o19) (v := .bool false) rfl (by kernel_rfl) (wanted_f _ 8 21 false rfl rfl (by simp [u7o0, u7o1, u7o2, u7o3, u7o4, u7o5, u7o6, u7o7, u7o8, u7o9, u7o10, u7o11, u7o12, u7o13, u7o14, u7o15, u7o16, u7o17, u7o18, sz_put, put_none, hsz]) (by simp [u7o0, u7o1, u7o2, u7o3, u7o4, u7o5, u7o6, u7o7, u7o8, u7o9, u7o10, u7o11, u7o12, u7o13, u7o14, u7o15, u7o16, u7o17, u7o18, ev_ne, ev_eq, sz_put, put_none, evc, hsz, h1, h4, h5])) (exec_not (b := true) rfl (by simp [u7o0, u7o1, u7o2, u7o3, u7o4, u7o5, u7o6, u7o7, u7o8, u7o9, u7o10, u7o11, u7o12, u7o13, u7o14, u7o15, u7o16, u7o17, u7o18, ev_ne, ev_eq, sz_put, put_none, evc, hsz, h1, h4, h5])) hH (fun hH => ?_)
  refine Wa.any_step (i := 20) (o := u7o20) (v := .bool false) rfl (by kernel_rfl) (by kernel_rfl) (exec_pickF rfl (by simp [u7o0, u7o1, u7o2, u7o3, u7o4, u7o5, u7o6, u7o7, u7o8, u7o9, u7o10, u7o11, u7o12, u7o13, u7o14, u7o15, u7o16, u7o17, u7o18, u7o19, ev_ne, ev_eq, sz_put, put_none, evc, hsz, h1, h4, h5]) (by simp [u7o0, u7o1, u7o2, u7o3, u7o4, u7o5, u7o6, u7o7, u7o8, u7o9, u7o10, u7o11, u7o12, u7o13, u7o14, u7o15, u7o16, u7o17, u7o18, u7o19, ev_ne, ev_eq, sz_put, put_none, evc, hsz, h1, h4, h5])) hH (fun hH => ?_)
  refine wpAnyH_done (by kernel_rfl) (npoQ ?_) _
  simp only [u7o0, u7o1, u7o2, u7o3, u7o4, u7o5, u7o6, u7o7, u7o8, u7o9, u7o10, u7o11, u7o12, u7o13, u7o14, u7o15, u7o16, u7o17, u7o18, u7o19, u7o20, put_none]
  exact h _ ((Kept.refl No wm).drew.then hk6)
def u10o0 : Oper := { dst := some 36, op := Op.load 3 (Operand.tmp 4), type := 3, pos := "law.go:78", after := #[], guard := none }
def u10o1 : Oper := { dst := some 37, op := Op.fieldAddr 31 (Operand.tmp 1) 1, type := 0, pos := "law.go:78", after := #[], guard := none }
def u10o2 : Oper := { dst := some 38, op := Op.load 25 (Operand.tmp 37), type := 25, pos := "law.go:78", after := #[{ on := 1, ground := Ground.data }], guard := none }
def u10o3 : Oper := { dst := some 39, op := Op.nilCheck (Operand.tmp 38), type := 0, pos := "law.go:78", after := #[{ on := 2, ground := Ground.data }], guard := none }
def u10o4 : Oper := { dst := some 40, op := Op.fieldAddr 29 (Operand.tmp 39) 0, type := 0, pos := "law.go:78", after := #[{ on := 3, ground := Ground.data }], guard := none }
def u10o5 : Oper := { dst := some 41, op := Op.load 26 (Operand.tmp 40), type := 26, pos := "law.go:78", after := #[{ on := 4, ground := Ground.data }], guard := none }
def u10o6 : Oper := { dst := some 42, op := Op.call { callee := Callee.builtin Builtin.len, args := #[Operand.tmp 41], argTypes := #[26] }, type := 3, pos := "law.go:78", after := #[{ on := 5, ground := Ground.data }], guard := none }
def u10o7 : Oper := { dst := some 43, op := Op.binOp BinOp.eql 3 (Operand.tmp 36) (Operand.tmp 42) 3, type := 4, pos := "law.go:78", after := #[{ on := 0, ground := Ground.data }, { on := 6, ground := Ground.data }], guard := none }
def u10o8 : Oper := { dst := none, op := Op.store 4 (Operand.tmp 2) (Operand.tmp 43), type := 0, pos := "law.go:78", after := #[{ on := 7, ground := Ground.data }, { on := 0, ground := Ground.phase }, { on := 1, ground := Ground.phase }, { on := 2, ground := Ground.phase }, { on := 3, ground := Ground.phase }, { on := 4, ground := Ground.phase }, { on := 5, ground := Ground.phase }, { on := 6, ground := Ground.phase }, { on := 7, ground := Ground.phase }], guard := none }
def u10ops : Array Oper := #[u10o0, u10o1, u10o2, u10o3, u10o4, u10o5, u10o6, u10o7, u10o8]
set_option maxHeartbeats 4000000 in
theorem u10 (a : Act) (bW bN bR r n m lc : Nat) (la : Option Addr) (sv : Value) (b0 : Bool) (wm : World) (Q : Exit → Act → World → Prop) (hsz : a.tmps.size = 44) (h1 : a.eval (.tmp 1) = .pointer (some ⟨bW, 0, none⟩)) (h2 : a.eval (.tmp 2) = .pointer (some ⟨bR, 0, none⟩)) (h4 : a.eval (.tmp 4) = .pointer (some ⟨bN, 0, none⟩)) (hc0 : Box wm bN 3 #[.int .i64 (m : Nat)]) (hc1 : Box wm bW 31 #[.pointer (some ⟨n, 0, none⟩), .pointer (some ⟨r, 0, none⟩)]) (hc2 : Box wm r 29 #[.slice la m lc, sv]) (hbr : Box wm bR 4 #[.bool b0])
    (h : ∀ wo, Box wo bR 4 #[.bool true] → Kept (Only bR) wm wo → Q .normal ((((((((a.put (some 36) (.int .i64 (m : Nat))).put (some 37) (.pointer (some ⟨bW, 1, none⟩))).put (some 38) (.pointer (some ⟨r, 0, none⟩))).put (some 39) (.pointer (some ⟨r, 0, none⟩))).put (some 40) (.pointer (some ⟨r, 0, none⟩))).put (some 41) (.slice la m lc)).put (some 42) (.int .i64 (m : Nat))).put (some 43) (.bool true)) wo) :
    Code.wp Try.prog (.region 10 u10ops true) Q a wm := by
  unfold u10ops
  refine flat_held (S := fun w' => Box w' bN 3 #[.int .i64 (m : Nat)] ∧ Box w' bW 31 #[.pointer (some ⟨n, 0, none⟩), .pointer (some ⟨r, 0, none⟩)] ∧ Box w' r 29 #[.slice la m lc, sv]) rfl ⟨hc0, hc1, hc2⟩ (fun hH => ?_)
  have hB : Box wm.drew bR 4 #[.bool b0] := hbr
  refine Wa.aT (i := 0) (oi := u10o0) (v := .int .i64 (m : Nat)) (fun _ hw => Wa.exec_load 3 _ rfl ⟨bN, 0, none⟩ (by assumption) _ (Wa.load_one (hw.1.cell 0) Try.underlying3 rfl)) hH ?_ (hQ := npo)
  refine Wa.any_step (i := 1) (o := u10o1) (v := .pointer (some ⟨bW, 1, none⟩)) rfl (by kernel_rfl) (by kernel_rfl) (exec_f31_1 rfl (by simp [u10o0, ev_ne, ev_eq, sz_put, put_none, evc, hsz, h1, h2, h4])) hH (fun hH => ?_)
  refine Wa.any_step (i := 2) (o := u10o2) (v := .pointer (some ⟨r, 0, none⟩)) rfl (by kernel_rfl) (by kernel_rfl) (Wa.exec_load 25 _ rfl ⟨bW, 1, none⟩ (by simp [u10o0, u10o1, ev_ne, ev_eq, sz_put, put_none, evc, hsz, h1, h2, h4]) _ (Wa.load_one (hH.2.1.cell 1) Try.underlying25 rfl)) hH (fun hH => ?_)
  refine Wa.any_step (i := 3) (o := u10o3) (v := .pointer (some ⟨r, 0, none⟩)) rfl (by kernel_rfl) (by kernel_rfl) (exec_nil rfl (by simp [u10o0, u10o1, u10o2, ev_ne, ev_eq, sz_put, put_none, evc, hsz, h1, h2, h4])) hH (fun hH => ?_)
  refine Wa.any_step (i := 4) (o := u10o4) (v := .pointer (some ⟨r, 0, none⟩)) rfl (by kernel_rfl) (by kernel_rfl) (exec_f29_0 rfl (by simp [u10o0, u10o1, u10o2, u10o3, ev_ne, ev_eq, sz_put, put_none, evc, hsz, h1, h2, h4])) hH (fun hH => ?_)
  refine Wa.any_step (i := 5) (o := u10o5) (v := .slice la m lc) rfl (by kernel_rfl) (by kernel_rfl) (Wa.exec_load 26 _ rfl ⟨r, 0, none⟩ (by simp [u10o0, u10o1, u10o2, u10o3, u10o4, ev_ne, ev_eq, sz_put, put_none, evc, hsz, h1, h2, h4]) _ (Wa.load_one (hH.2.2.cell 0) Try.underlying26 rfl)) hH (fun hH => ?_)
  refine Wa.any_step (i := 6) (o := u10o6) (v := .int .i64 (m : Nat)) rfl (by kernel_rfl) (by kernel_rfl) (exec_len26 (p := la) (c := lc) rfl (by simp [u10o0, u10o1, u10o2, u10o3, u10o4, u10o5, ev_ne, ev_eq, sz_put, put_none, evc, hsz, h1, h2, h4])) hH (fun hH => ?_)
  refine Wa.any_step (i := 7) (o := u10o7) (v := .bool (decide (m = m))) rfl (by kernel_rfl) (by kernel_rfl) (exec_eqN rfl (by simp [u10o0, u10o1, u10o2, u10o3, u10o4, u10o5, u10o6, ev_ne, ev_eq, sz_put, put_none, evc, hsz, h1, h2, h4]) (by simp [u10o0, u10o1, u10o2, u10o3, u10o4, u10o5, u10o6, ev_ne, ev_eq, sz_put, put_none, evc, hsz, h1, h2, h4])) hH (fun hH => ?_)
  rw [decide_eq_true (rfl : m = m)]
  refine Wa.any_store (i := 8) (o := u10o8) rfl (by kernel_rfl) (by kernel_rfl) 4 _ _ rfl ⟨bR, 0, none⟩ (.bool true) (by simp [u10o0, u10o1, u10o2, u10o3, u10o4, u10o5, u10o6, u10o7, ev_ne, ev_eq, sz_put, put_none, evc, hsz, h1, h2, h4]) (by simp [u10o0, u10o1, u10o2, u10o3, u10o4, u10o5, u10o6, u10o7, ev_ne, ev_eq, sz_put, put_none, evc, hsz, h1, h2, h4]) (store_4 hB) ⟨hH.1.kept (Wa.Kept.setRow _ _ _) (fun e => Wa.box_ne hH.1 hB (by decide) e), hH.2.1.kept (Wa.Kept.setRow _ _ _) (fun e => Wa.box_ne hH.2.1 hB (by decide) e), hH.2.2.kept (Wa.Kept.setRow _ _ _) (fun e => Wa.box_ne hH.2.2 hB (by decide) e)⟩ (fun hH => ?_)
  refine wpAnyH_done (by kernel_rfl) (npoQ ?_) _
  simp only [u10o0, u10o1, u10o2, u10o3, u10o4, u10o5, u10o6, u10o7, u10o8, put_none]
  exact h _ (Wa.Box.setRow hB _) ((Kept.refl (Only bR) wm).drew.then (Wa.Kept.setRow _ _ _))
end Go.Proofs.Ytphiokehcgbldaa
