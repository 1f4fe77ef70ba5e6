import Derived.Test.YthnecaejhnojfaaYa
import Derived.Laws.OwnMore
namespace Go.Proofs.Ythnecaejhnojfaa.Md
open Go.RowKit
set_option linter.unusedVariables false
set_option linter.unusedSimpArgs false

/-- A result, the reference's machine, what is asked, a step: as cells. -/
structure Rz where
  er : Int
  en : En
  li : Sl
  da : Sl
  n : Int
  st : Sp
  ins : Int
structure Rv where
  wr : Bool
  cl : Int
  op : Int
  ky : Ky
  g : Sl
  rd : Int
  sz : Int
  bl : Sl
  ph : Int
  an : Sl
  vs : Sl
  tag : Sp
  er : Int
structure Aq where
  wr : Bool
  cl : Int
  op : Int
  ky : Ky
  g : Sl
  rd : Int
  sz : Int
  da : Sl
structure Stp where
  k : Int
  m : Mg
def rzZ : Rz := ⟨0, enZ, slZ, slZ, 0, spZ, 0⟩
def blZ : Bl := ⟨spZ, slZ⟩
def Rz.cs (x : Rz) : List Value := [.int .i64 x.er] ++ (x.en.cs ++ ([x.li.v, x.da.v, .int .i64 x.n] ++ (x.st.cs ++ [.int .i64 x.ins])))
def Rv.cs (x : Rv) : List Value := [.bool x.wr, .int .i64 x.cl, .int .i64 x.op] ++ (x.ky.cs ++ ([x.g.v, .int .i64 x.rd, .int .i64 x.sz, x.bl.v, .int .i64 x.ph, x.an.v, x.vs.v] ++ (x.tag.cs ++ [.int .i64 x.er])))
def Aq.cs (x : Aq) : List Value := [.bool x.wr, .int .i64 x.cl, .int .i64 x.op] ++ (x.ky.cs ++ [x.g.v, .int .i64 x.rd, .int .i64 x.sz, x.da.v])
def Stp.cs (x : Stp) : List Value := [.int .i64 x.k] ++ x.m.cs
def Rz.cells (x : Rz) : Array Value := x.cs.toArray
def Rv.cells (x : Rv) : Array Value := x.cs.toArray
def Aq.cells (x : Aq) : Array Value := x.cs.toArray
def Stp.cells (x : Stp) : Array Value := x.cs.toArray
theorem Rz.oneL (x : Rz) : ∀ v ∈ x.cs, v.oneCell' = true := by simp [Rz.cs, En.cs, Sp.cs, Value.oneCell', Sl.v]
theorem Rv.oneL (x : Rv) : ∀ v ∈ x.cs, v.oneCell' = true := by simp [Rv.cs, Ky.cs, Sp.cs, Value.oneCell', Sl.v]
theorem Aq.oneL (x : Aq) : ∀ v ∈ x.cs, v.oneCell' = true := by simp [Aq.cs, Ky.cs, Value.oneCell', Sl.v]
theorem S90 : (Try.prog.info? 72).map (·.size) = some 11 := by kernel_rfl
theorem S57 : (Try.prog.info? 144).map (·.size) = some 3 := by kernel_rfl
theorem S27 : (Try.prog.info? 27).map (·.size) = some 11 := by kernel_rfl
theorem S88 : (Try.prog.info? 70).map (·.size) = some 4 := by kernel_rfl
theorem S34 : (Try.prog.info? 34).map (·.size) = some 2 := by kernel_rfl
theorem U90 : Try.prog.underlying 72 = some (.struct (Try.prog.fieldsOf 72)) := by kernel_rfl
theorem U57 : Try.prog.underlying 144 = some (.struct (Try.prog.fieldsOf 144)) := by kernel_rfl
theorem U27 : Try.prog.underlying 27 = some (.struct (Try.prog.fieldsOf 27)) := by kernel_rfl
theorem U88 : Try.prog.underlying 70 = some (.struct (Try.prog.fieldsOf 70)) := by kernel_rfl
theorem U34 : Try.prog.underlying 34 = some (.struct (Try.prog.fieldsOf 34)) := by kernel_rfl
theorem U86 : Try.prog.underlying 68 = some (.int .i64) := by kernel_rfl
theorem Z90 : (Try.prog.info? 72).bind (·.zero) = some (.agg rzZ.cells) := by kernel_rfl
theorem Z57 : (Try.prog.info? 144).bind (·.zero) = some (.agg blZ.cells) := by kernel_rfl
theorem Z34 : (Try.prog.info? 34).bind (·.zero) = some (.agg #[.nilIface, .pointer none]) := by kernel_rfl
theorem eqK_eql (a b : Ky) (w : World) : (binOp .eql 23 (.agg a.cells) (.agg b.cells)).run Try.prog w = .ok (.bool (eqK a b)) w := by
  rw [run_eql_struct, eq23 9998]; rfl
theorem eqS_eql (a b : Sp) (w : World) : (binOp .eql 41 (.agg a.cells) (.agg b.cells)).run Try.prog w = .ok (.bool (eqS a b)) w := by
  rw [run_eql_struct, eq25 9998]; rfl
theorem eqA_eql (a b : Ad) (w : World) : (binOp .eql 39 (.agg a.cells) (.agg b.cells)).run Try.prog w = .ok (.bool (eqA a b)) w := by
  rw [run_eql_struct, eq43 9998]; rfl
theorem eqC_eql (a b : Cm) (w : World) : (binOp .eql 45 (.agg a.cells) (.agg b.cells)).run Try.prog w = .ok (.bool (eqC a b)) w := by
  rw [run_eql_struct, eq47 9997]; rfl
theorem eqE_eql (a b : En) (w : World) : (binOp .eql 70 (.agg a.cells) (.agg b.cells)).run Try.prog w = .ok (.bool (eqE a b)) w := by
  rw [run_eql_struct, eq110 9997]; rfl
theorem b_eqlB (a b : Bool) (w : World) : (binOp .eql 4 (.bool a) (.bool b)).run Try.prog w = .ok (.bool (a == b)) w := by kernel_rfl
theorem b_gtr (x y : Int) (w : World) : (binOp .gtr 3 (.int .i64 x) (.int .i64 y)).run Try.prog w = .ok (.bool (decide (y < x))) w := by kernel_rfl
theorem b_eql111 (a b : Int) (w : World) : (binOp .eql 68 (.int .i64 a) (.int .i64 b)).run Try.prog w = .ok (.bool (a == b)) w := by kernel_rfl
def mgL (l : List Mg) : List Value := (l.map Mg.cs).flatten
theorem mgL_c (l : List Mg) : ∀ x ∈ l.map Mg.cs, x.length = 30 := by intro x hx; obtain ⟨s, _, rfl⟩ := List.mem_map.1 hx; rfl
theorem mgL_len (l : List Mg) : (mgL l).length = l.length * 30 := by rw [mgL, flat_len 30 _ (mgL_c l), List.length_map]
theorem mgL_app (a b : List Mg) : mgL (a ++ b) = mgL a ++ mgL b := by simp [mgL]
theorem mgL_1 (e : Mg) : mgL [e] = e.cs := by simp [mgL]
theorem rep_mg (n : Nat) : ((List.replicate n mgZ.cs).flatten) = mgL (List.replicate n mgZ) := by simp [mgL]
theorem make_mg (w : World) (n : Nat) (hb : n ≤ 100000000) : (Instr.makeSlice 57 (.int .i64 (n : Int)) (.int .i64 (n : Int))).run Try.prog w = .ok (.slice (some ⟨w.heap.size, 0, none⟩) n n) (w.alloc (.cells (mgL (List.replicate n mgZ)).toArray 52)) := by
  cases hq : Try.prog.info? 52 with
  | none => have := I52; simp [hq] at this
  | some i =>
    have h1 := I52
    simp only [hq, Option.map_some, Option.some.injEq, Prod.mk.injEq] at h1
    obtain ⟨hz, hs, hby⟩ := h1
    have h := run_make (P := Try.prog) w 57 52 i (.agg mgZ.cells) U71 hq hz .i64 .i64 (n : Int) (n : Int) (by omega) (by omega) (by rw [hby]; omega) (by omega)
    rw [h, hs, ← rep_mg]
    simp only [Int.toNat_natCast]
    rw [← made_row 30 mgZ.cs rfl (by omega) n]
    rfl
theorem mgL_set (l : List Mg) (i : Nat) (y : Mg) (h : i < l.length) : putL (mgL l) (i * 30) y.cs = mgL (l.set i y) := by
  unfold mgL
  rw [flat_set 30 _ (mgL_c l) i y.cs rfl (by rw [List.length_map]; exact h), List.map_set]
theorem st_M {w : World} {g : Nat} {cur : List Mg} {i : Nat} (y : Mg) (hb : Box w g 52 (mgL cur).toArray) (hi : i < cur.length) : (storeVar 52 ⟨g, 0 + i * 30, none⟩ (.agg (Mg.cells y))).run Try.prog w = .ok () (w.setRow g (mgL (cur.set i y)).toArray) := by
  have h := run_store_at (off := 0 + i * 30) (ty := 52) (vs := y.cs) (v := .agg y.cells) hb rfl S52 (by rw [mgL_len, Nat.zero_add]; show i * 30 + 30 ≤ cur.length * 30; omega) y.oneL
  rw [h, Nat.zero_add, mgL_set _ _ _ hi]
theorem row_M {w : World} {g : Nat} {xs : List Mg} (hb : Box w g 52 (mgL xs).toArray) {i : Nat} {x : Mg} (hx : xs[i]? = some x) : ∀ (j : Nat) v, x.cs[j]? = some v → w.cell? ⟨g, 0 + i * 30 + j, none⟩ = some v := by
  intro j v hv
  rw [hb.cell, Nat.zero_add, List.getElem?_toArray]
  exact flat_get 30 (xs.map Mg.cs) (mgL_c xs) i x.cs (by rw [List.getElem?_map, hx]; rfl) j v hv
theorem load_Ma {w : World} {b off i : Nat} {e : Mg} (hc : ∀ (j : Nat) v, e.cs[j]? = some v → w.cell? ⟨b, off + i * 30 + j, none⟩ = some v) : (loadVar 52 ⟨b, off + i * 30, none⟩).run Try.prog w = .ok (.agg e.cells) w := load_at hc U52 rfl S52
/-- A list of messages that can be read. -/
structure RdM (w : World) (s : Sl) (ms : List Mg) : Prop where
  row : RowsAt 30 w s.a (ms.map Mg.cs)
  len : ms.length = s.l
theorem RdM.kept {S : Nat → Prop} {w w' : World} {s : Sl} {ms : List Mg} (h : RdM w s ms) (hk : Kept S w w') (hS : ∀ k, At s.a k → ¬ S k) : RdM w' s ms := ⟨RowsAt.kept h.row hk hS, h.len⟩
theorem RdM.no {w w' : World} {s : Sl} {ms : List Mg} (h : RdM w s ms) (hk : Kept No w w') : RdM w' s ms := h.kept hk (fun _ _ e => e)
def gAt (es : List Mg) (i : Nat) : Mg := es[i]?.getD mgZ
theorem gAt_some {es : List Mg} {i : Nat} (h : i < es.length) : es[i]? = some (gAt es i) := by simp [gAt, List.getElem?_eq_getElem h]
theorem RdM.at {w : World} {s : Sl} {es : List Mg} (h : RdM w s es) {i : Nat} (hi : i < es.length) : ∃ b off, s.a = some ⟨b, off, none⟩ ∧ ∀ (j : Nat) v, (gAt es i).cs[j]? = some v → w.cell? ⟨b, off + i * 30 + j, none⟩ = some v :=
  h.row i _ (by rw [List.getElem?_map, gAt_some hi]; rfl)

end Go.Proofs.Ythnecaejhnojfaa.Md
namespace Go.Proofs.Ythnecaejhnojfaa.Md
open Go.RowKit
set_option linter.unusedVariables false
set_option linter.unusedSimpArgs false

theorem run_appN {w : World} (T ty E : TypeId) (c by' : Nat) (z : Value) (ht : Try.prog.underlying T = some (.slice E))
    (hinf : (Try.prog.info? E).map (fun i => (i.zero, i.size, i.bytes)) = some (some z, c, by')) (hzc : z.cells.size = c) (hc0 : 0 < c)
    (base n cap : Nat) (sa : Option Addr) (vs : List Value) (hown : Own E c w base sa cap n vs) (xa : Option Addr) (m cc : Nat) (news : List Value) (hl : news.length = m * c) (hx0 : xa = none → cc = 0) (hnews : ∀ j u, news[j]? = some u → ∃ ad, xa = some ad ∧ w.cell? (ad.add j) = some u) (h1 : ∀ u ∈ news, u.oneCell' = true) (hbd : (n + m) * by' ≤ 140737488355328) (hb63 : n + m ≤ 9223372036854775807) (hbase : base ≤ w.heap.size) :
    ∃ a' cap' w', (Builtin.append_ #[T, T] ty #[.slice sa n cap, .slice xa m cc]).run Try.prog w = .ok (.slice a' (n + m) cap') w' ∧ Own E c w' base a' cap' (n + m) (vs ++ news) ∧ Kept (At sa) w w' ∧ (∀ k, At a' k → At sa k ∨ k = w.heap.size) := by
  obtain ⟨i0, hi, hz0, hz1, hz2⟩ := info_parts hinf
  cases xa with
  | none =>
    have hm : m = 0 := by
      cases m with
      | zero => rfl
      | succ m =>
        have h0 : 0 < news.length := by rw [hl, Nat.succ_mul]; omega
        obtain ⟨ad, e, _⟩ := hnews 0 news[0] (List.getElem?_eq_getElem h0)
        cases e
    subst hm
    obtain rfl : news = [] := List.eq_nil_of_length_eq_zero (by simpa using hl)
    obtain rfl := hx0 rfl
    have hrun := run_append_owned_none (P := Try.prog) (w := w) base T ty E i0 c ht hi (.slice sa n cap) n vs hown
    exact ⟨sa, cap, w, hrun, by simpa using hown, Kept.refl _ _, fun k hk => .inl hk⟩
  | some ad =>
    obtain ⟨v', w', hrun, r1, r2, _, r4⟩ := run_append_own_at (P := Try.prog) (w := w) base T ty E i0 z c by' ht hi hz0 hz1 hz2 hzc hc0 (.slice sa n cap) n vs hown ad m cc news hl (fun j u hj => by obtain ⟨ad', e, h⟩ := hnews j u hj; cases e; exact h) h1 (by unfold maxLen; omega) hbd hbase
    have hk : Kept (At sa) w w' := (Kept.refl (At sa) w).grown r2 (fun k e hk => by
      cases sa with
      | none => cases e
      | some ad' => simp only [Value.ownBlock, Option.some.injEq] at e; exact ⟨ad', rfl, e⟩)
    rcases r1.2 with ⟨e, h0⟩ | ⟨g, cap', cur, e, _⟩
    · subst e
      refine ⟨none, 0, w', ?_, ?_, hk, fun k h => absurd h At.none⟩
      · rw [hrun, h0]
      · have := r1; rw [h0] at this ⊢; exact this
    · subst e
      refine ⟨some ⟨g, 0, none⟩, cap', w', hrun, r1, hk, ?_⟩
      rintro k ⟨ad2, e2, rfl⟩
      cases e2
      rcases r4 with e | e
      · left
        cases sa with
        | none => simp [Value.ownBlock] at e
        | some ad' => simp only [Value.ownBlock, Option.some.injEq] at e; exact ⟨ad', rfl, e.symm⟩
      · right; simpa [Value.ownBlock] using e
theorem exec_appN {o : Oper} {a : Act} {w w' : World} {v : Value} (s x : Operand) (T T' : TypeId) (ho : o.op = .call { callee := Callee.builtin Builtin.append, args := #[s, x], argTypes := #[T, T'] }) (vs vx : Value) (hs : a.eval s = vs) (hx : a.eval x = vx)
    (hrun : (Builtin.append_ #[T, T'] o.type #[vs, vx]).run Try.prog w = .ok v w') : (execOp a.eval o).run Try.prog w = .ok (.value v) w' := by
  simp [execOp, ho, resolve, invoke, builtin, hs, hx, hrun, Result.andThen]
theorem _root_.Go.Proofs.Ythnecaejhnojfaa.Own.ty {t : TypeId} {c : Nat} {w : World} {base : Nat} {a : Option Addr} {cap n : Nat} {vs : List Value} (h : Own t c w base a cap n vs) {k : Nat} (hk : At a k) : ∃ cs, Box w k t cs := by
  rcases h.cases h.1 with ⟨rfl, _⟩ | ⟨g, rfl, _, hg, sp, hbx, _⟩
  · exact absurd hk At.none
  · obtain ⟨ad, e, rfl⟩ := hk
    cases e
    exact ⟨_, hbx⟩
theorem flat_setA (c : Nat) (xs : List (List Value)) (hc : ∀ x ∈ xs, x.length = c) (sp : List Value) (i : Nat) (y : List Value) (hy : y.length = c) (hi : i < xs.length) : putL (xs.flatten ++ sp) (i * c) y = (xs.set i y).flatten ++ sp := by
  have h : xs = xs.take i ++ ([xs[i]] ++ xs.drop (i + 1)) := by simp
  have h2 : xs.set i y = xs.take i ++ ([y] ++ xs.drop (i + 1)) := by rw [List.set_eq_take_append_cons_drop]; simp [hi]
  have hl : (xs.take i).flatten.length = i * c := by
    rw [flat_len c _ (fun x hx => hc x (List.mem_of_mem_take hx)), List.length_take]; congr 1; omega
  have hxi : (xs[i]).length = c := hc _ (List.getElem_mem hi)
  have h3 : xs.flatten = (xs.take i).flatten ++ (xs[i] ++ (xs.drop (i + 1)).flatten) := by
    have e := congrArg List.flatten h
    rw [List.flatten_append, List.flatten_append, List.flatten_cons, List.flatten_nil, List.append_nil] at e
    exact e
  rw [h2, h3]
  simp only [List.flatten_append, List.flatten_cons, List.flatten_nil, List.append_nil, List.append_assoc]
  unfold putL
  rw [← hl, List.take_left', ← List.drop_drop, List.drop_left', hy, ← hxi, List.drop_left']
  all_goals rfl
theorem _root_.Go.Proofs.Ythnecaejhnojfaa.Own.setN {T ty : TypeId} {c : Nat} {W : World} {base : Nat} {a : Option Addr} {cap n : Nat} {xs : List (List Value)} (h : Own T c W base a cap n xs.flatten) (hc : ∀ x ∈ xs, x.length = c) (hl : xs.length = n) {i g : Nat} (hi : i < n) (ha : a = some ⟨g, 0, none⟩) {v : Value} {y : List Value} (hv : v.cells = y.toArray) (hz : (Try.prog.info? ty).map (·.size) = some y.length) (h1 : ∀ x ∈ y, x.oneCell' = true) (hy : y.length = c) :
    ∃ cs', (storeVar ty ⟨g, 0 + i * c, none⟩ v).run Try.prog W = .ok () (W.setRow g cs') ∧ Own T c (W.setRow g cs') base a cap n (xs.set i y).flatten := by
  rcases h.2 with ⟨hv2, hn⟩ | ⟨g', cap', cur, hv2, hb, hg, hle, hm, hs, ht⟩
  · omega
  · simp only [Value.slice.injEq] at hv2
    obtain ⟨ea, -, rfl⟩ := hv2
    rw [ea] at ha
    cases ha
    obtain ⟨cur, rfl⟩ : ∃ l : List Value, cur = l.toArray := ⟨cur.toList, by simp⟩
    have hbox : Box W g T cur.toArray := hg
    have hs : cur.length = cap * c := by simpa using hs
    have ht : cur.take (n * c) = xs.flatten := by simpa using ht
    have hnc : n * c ≤ cap * c := Nat.mul_le_mul_right _ hle
    have hic : i * c + c ≤ n * c := by rw [← Nat.succ_mul]; exact Nat.mul_le_mul_right _ hi
    have hcur : cur = xs.flatten ++ cur.drop (n * c) := by rw [← ht, List.take_append_drop]
    have hfl : xs.flatten.length = n * c := by rw [flat_len c xs hc, hl]
    refine ⟨(putL cur (0 + i * c) y).toArray, run_store_at hbox hv hz (by rw [hy, Nat.zero_add, hs]; omega) h1, ?_⟩
    rw [Nat.zero_add, ea]
    have hp : putL cur (i * c) y = (xs.set i y).flatten ++ cur.drop (n * c) := by
      conv => lhs; rw [hcur]
      exact flat_setA c xs hc _ i y hy (by omega)
    rw [hp]
    have hsl : ((xs.set i y).flatten).length = n * c := by
      rw [flat_len c _ (fun x hx => by rcases List.mem_or_eq_of_mem_set hx with hx | hx; exact hc x hx; rw [hx]; exact hy), List.length_set, hl]
    exact Own.shut hb (Box.setRow hbox _) hle (by unfold maxLen at hm; omega) (by rw [List.length_append, hsl, List.length_drop, hs]; omega) (by rw [← hsl]; exact List.take_left' rfl)
theorem I88 : (Try.prog.info? 70).map (fun i => (i.zero, i.size, i.bytes)) = some (some (.agg enZ.cells), 4, 40) := by kernel_rfl
theorem sl0_3 (w : World) : (Instr.buildSlice 24 0 #[]).run Try.prog w = .ok (.slice (some ⟨w.heap.size, 0, none⟩) 0 0) (w.alloc (.cells #[] 3)) := by kernel_rfl
theorem exec_sl0 {o : Oper} {a : Act} {w : World} (T E : TypeId) (ho : o.op = .buildSlice T 0 #[]) (h : (Instr.buildSlice T 0 #[]).run Try.prog w = .ok (.slice (some ⟨w.heap.size, 0, none⟩) 0 0) (w.alloc (.cells #[] E))) : (execOp a.eval o).run Try.prog w = .ok (.value (.slice (some ⟨w.heap.size, 0, none⟩) 0 0)) (w.alloc (.cells #[] E)) := by
  simp only [execOp, ho, Sem.run_bind, Array.map_empty, h, Result.andThen_ok, Sem.run_pure]
theorem own0 (t : TypeId) (c : Nat) (w : World) : Own t c (w.alloc (.cells #[] t)) w.heap.size (some ⟨w.heap.size, 0, none⟩) 0 0 [] := by
  refine ⟨by simp, .inr ⟨w.heap.size, 0, #[], rfl, Nat.le_refl _, ?_, Nat.le_refl _, Nat.zero_le _, by simp, by simp⟩⟩
  exact Box.new w t #[]
/-- A copy onto an empty slice that was built: new memory. -/
theorem run_cpy {w : World} (T ty E : TypeId) (c by' : Nat) (z : Value) (ht : Try.prog.underlying T = some (.slice E))
    (hinf : (Try.prog.info? E).map (fun i => (i.zero, i.size, i.bytes)) = some (some z, c, by')) (hzc : z.cells.size = c) (hc0 : 0 < c) (xa : Option Addr) (m cc : Nat) (news : List Value) (hl : news.length = m * c) (hx0 : xa = none → cc = 0) (hnews : ∀ j u, news[j]? = some u → ∃ ad, xa = some ad ∧ w.cell? (ad.add j) = some u) (h1 : ∀ u ∈ news, u.oneCell' = true) (hbd : m * by' ≤ 140737488355328) (hb63 : m ≤ 9223372036854775807) :
    ∃ a' cap' w', (Builtin.append_ #[T, T] ty #[.slice (some ⟨w.heap.size, 0, none⟩) 0 0, .slice xa m cc]).run Try.prog (w.alloc (.cells #[] E)) = .ok (.slice a' m cap') w' ∧ Own E c w' w.heap.size a' cap' m news ∧ Kept No w w' := by
  obtain ⟨a', cap', w', hr, ho, hk, _⟩ := run_appN (w := w.alloc (.cells #[] E)) T ty E c by' z ht hinf hzc hc0 w.heap.size 0 0 _ [] (own0 E c w) xa m cc news hl hx0 (fun j u hj => by
    obtain ⟨ad, e, hc⟩ := hnews j u hj
    exact ⟨ad, e, ((Kept.refl No w).alloc _).cell hc (fun e => e)⟩) h1 (by rwa [Nat.zero_add]) (by omega) (by simp)
  rw [Nat.zero_add] at hr ho
  refine ⟨a', cap', w', hr, ho, ((Kept.refl No w).alloc _).trans hk (fun _ e => e) (fun k hk' e => ?_)⟩
  obtain ⟨ad, e1, e2⟩ := e
  cases e1
  simp at e2
  omega

end Go.Proofs.Ythnecaejhnojfaa.Md
namespace Go.Proofs.Ythnecaejhnojfaa.Md
open Go.RowKit Go.Lib
set_option linter.unusedVariables false
set_option linter.unusedSimpArgs false

/-! Lists of messages that were told, written full and grown. -/
theorem own_apart {t t' : TypeId} {c c' : Nat} {w : World} {base base' : Nat} {a a' : Option Addr} {cap n cap' n' : Nat} {vs vs' : List Value} (h : Own t c w base a cap n vs) (h' : Own t' c' w base' a' cap' n' vs') (ht : t ≠ t') : ∀ k, At a k → ¬ At a' k := by
  intro k hk hk'
  obtain ⟨cs, hc⟩ := Own.ty h hk
  obtain ⟨cs', hc'⟩ := Own.ty h' hk'
  unfold Box at hc hc'
  rw [hc] at hc'
  cases hc'
  exact ht rfl
theorem own_front {w : World} {base : Nat} {a : Option Addr} {cap n : Nat} {xs ys : List Mg} (h : Own 52 30 w base a cap n (mgL ys)) (hp : xs <+: ys) : Own 52 30 w base a cap xs.length (mgL xs) := by
  have hl : ys.length = n := by have := h.1; rw [mgL_len] at this; omega
  have hle := hp.length_le
  refine ⟨by rw [mgL_len], ?_⟩
  rcases h.2 with ⟨hv, hn⟩ | ⟨g, cap', cur, hv, hb, hg, hnc, hm, hs, ht⟩
  · simp only [Value.slice.injEq] at hv
    obtain ⟨rfl, e, rfl⟩ := hv
    have : xs.length = 0 := by omega
    exact .inl ⟨by rw [this], this⟩
  · simp only [Value.slice.injEq] at hv
    obtain ⟨rfl, -, rfl⟩ := hv
    refine .inr ⟨g, cap, cur, rfl, hb, hg, by omega, hm, hs, ?_⟩
    obtain ⟨r, hr⟩ := hp
    have e : mgL xs = (mgL ys).take (xs.length * 30) := by
      rw [← hr, mgL_app, List.take_append_of_le_length (by rw [mgL_len]; exact Nat.le_refl _), List.take_of_length_le (by rw [mgL_len]; exact Nat.le_refl _)]
    rw [e, ← ht, List.take_take, Nat.min_eq_left (by omega)]
theorem own_slice {w : World} {base : Nat} {e : TypeId} {size : Nat} {v : Value} {n : Nat} {xs : List Value} (h : w.ownsRow base e size v n xs) : ∃ a c, v = .slice a n c := by
  rcases h.2 with ⟨hv, hn⟩ | ⟨g, cap, cur, hv, _⟩
  · exact ⟨none, 0, by rw [hv, hn]⟩
  · exact ⟨_, _, hv⟩
/-- append(s, x), x one message: in place, or moved while nothing else has turned. -/
theorem run_app52 {w : World} {base n cap : Nat} {sa : Option Addr} {ms : List Mg} (hown : Own 52 30 w base sa cap n (mgL ms)) (g2 : Nat) (y : Mg) (hx : Box w g2 52 y.cells) (hbd : n ≤ 1000000000) (hbase : base ≤ w.heap.size) :
    ∃ a' c' w', (Builtin.append_ #[57, 57] 57 #[.slice sa n cap, .slice (some ⟨g2, 0, none⟩) 1 1]).run Try.prog w = .ok (.slice a' (n + 1) c') w' ∧ Own 52 30 w' base a' c' (n + 1) (mgL (ms ++ [y])) ∧ ((a' = sa ∧ c' = cap ∧ Kept (At sa) w w') ∨ ((∀ k, At a' k → w.heap.size ≤ k) ∧ Kept No w w')) := by
  obtain ⟨i0, hi, hz0, hz1, hz2⟩ := info_parts I52
  have e1 : mgL (ms ++ [y]) = mgL ms ++ y.cs := by rw [mgL_app]; congr 1
  rw [e1]
  have hsrc : ∀ (j : Nat) u, y.cs[j]? = some u → w.cell? ((⟨g2, 0, none⟩ : Addr).add j) = some u := fun j u hj => by rw [addr_add, Nat.zero_add, hx.cell]; simpa [Mg.cells] using hj
  by_cases hroom : n + 1 ≤ cap
  · rcases hown.2 with ⟨hv, hn⟩ | ⟨g, cap', cur, hv, hb, rest⟩
    · simp only [Value.slice.injEq] at hv; omega
    · simp only [Value.slice.injEq] at hv
      obtain ⟨rfl, -, rfl⟩ := hv
      obtain ⟨w', h0, h2, h3⟩ := run_append_fits (P := Try.prog) w base 57 57 52 i0 30 U71 hi hz1 g n cap (mgL ms) hown ⟨g2, 0, none⟩ 1 1 y.cs rfl hsrc y.oneL hroom
      exact ⟨some ⟨g, 0, none⟩, cap, w', h0, h2, .inl ⟨rfl, rfl, (Kept.refl _ _).grown h3 (fun k e _ => by cases e; exact ⟨_, rfl, rfl⟩)⟩⟩
  · rcases hown.2 with ⟨hv, hn⟩ | ⟨g, cap', cur, hv, hb, rest⟩
    · simp only [Value.slice.injEq] at hv
      obtain ⟨rfl, _, rfl⟩ := hv
      subst hn
      obtain ⟨a', c', w', hrun, ho, hk, hn⟩ := run_appN (w := w) 57 57 52 30 312 _ U71 I52 rfl (by decide) w.heap.size 0 0 none [] (Own.nil _ _ _ _) (some ⟨g2, 0, none⟩) 1 1 y.cs rfl (fun e => by cases e) (fun j u hj => ⟨_, rfl, hsrc j u hj⟩) y.oneL (by omega) (by omega) (Nat.le_refl _)
      have hm : ms = [] := by
        have := hown.1
        rw [mgL_len] at this
        exact List.eq_nil_of_length_eq_zero (by omega)
      subst hm
      exact ⟨a', c', w', hrun, Own.lower ho hbase, .inr ⟨fun k hk => Own.base ho hk, hk.mono (fun i _ e => (At.none e).elim)⟩⟩
    · simp only [Value.slice.injEq] at hv
      obtain ⟨rfl, -, rfl⟩ := hv
      obtain ⟨v', w', hrun, r1, r2⟩ := run_append_arg_grows (P := Try.prog) w 57 57 52 i0 (.agg mgZ.cells) 30 312 U71 hi hz0 hz1 hz2 rfl (by decide) ⟨g, 0, none⟩ n cap (mgL ms) hown.1 (fun j u hj => World.ownsRow.cells hown (by rfl) j u hj) ⟨g2, 0, none⟩ 1 1 y.cs rfl hsrc (by omega) (by unfold maxLen; omega) (by omega)
      obtain ⟨a', c', rfl⟩ := own_slice r1
      exact ⟨a', c', w', hrun, Own.lower (show Own 52 30 w' w.heap.size a' c' (n + 1) _ from r1) hbase, .inr ⟨fun k hk => Own.base (show Own 52 30 w' w.heap.size a' c' (n + 1) _ from r1) hk, kept_grown r2⟩⟩
/-- A list that was told, and what it was grown to. -/
structure It where
  a : Option Addr
  c : Nat
  ms : List Mg
  a2 : Option Addr
  c2 : Nat
  ms2 : List Mg
def It.at (x : It) : Nat → Prop := fun k => At x.a k ∨ At x.a2 k
def It.v (x : It) : Value := .slice x.a x.ms.length x.c
def It.v2 (x : It) : Value := .slice x.a2 x.ms2.length x.c2
structure ItOk (W : World) (b : Nat) (x : It) : Prop where
  own : Own 52 30 W b x.a x.c x.ms.length (mgL x.ms)
  own2 : Own 52 30 W b x.a2 x.c2 x.ms2.length (mgL x.ms2)
theorem ItOk.lt {W : World} {b : Nat} {x : It} (h : ItOk W b x) {k : Nat} (hk : x.at k) : k < W.heap.size := hk.elim (fun e => Own.lt h.own e) (fun e => Own.lt h.own2 e)
theorem ItOk.ty {W : World} {b : Nat} {x : It} (h : ItOk W b x) {k : Nat} (hk : x.at k) : ∃ cs, Box W k 52 cs := hk.elim (fun e => Own.ty h.own e) (fun e => Own.ty h.own2 e)
theorem ItOk.base {W : World} {b : Nat} {x : It} (h : ItOk W b x) {k : Nat} (hk : x.at k) : b ≤ k := hk.elim (fun e => Own.base h.own e) (fun e => Own.base h.own2 e)
theorem ItOk.kept {S : Nat → Prop} {W W' : World} {b : Nat} {x : It} (h : ItOk W b x) (hk : Kept S W W') (hS : ∀ k, x.at k → ¬ S k) : ItOk W' b x :=
  ⟨Own.kept h.own hk (fun k e => hS k (.inl e)), Own.kept h.own2 hk (fun k e => hS k (.inr e))⟩
structure Ks (W : World) (b : Nat) (X : List It) : Prop where
  ok : ∀ (i : Nat) x, X[i]? = some x → ItOk W b x
  apart : ∀ (i j : Nat) x y, X[i]? = some x → X[j]? = some y → i ≠ j → ∀ k, x.at k → ¬ y.at k
theorem Ks.kept {S : Nat → Prop} {W W' : World} {b : Nat} {X : List It} (h : Ks W b X) (hk : Kept S W W') (hS : ∀ (i : Nat) x, X[i]? = some x → ∀ k, x.at k → ¬ S k) : Ks W' b X :=
  ⟨fun i x hx => (h.ok i x hx).kept hk (hS i x hx), h.apart⟩
theorem Ks.no {W W' : World} {b : Nat} {X : List It} (h : Ks W b X) (hk : Kept No W W') : Ks W' b X := h.kept hk (fun _ _ _ _ _ e => e)
theorem Ks.ty {W : World} {b : Nat} {X : List It} (h : Ks W b X) {i : Nat} {x : It} (hx : X[i]? = some x) {k : Nat} (e : x.at k) : ∃ cs, Box W k 52 cs := (h.ok i x hx).ty e
theorem Ks.upd {W W' : World} {b : Nat} {X : List It} (h : Ks W b X) {i : Nat} {x x' : It} (hi : X[i]? = some x) (hk : Kept x.at W W') (hx' : ItOk W' b x') (hat : ∀ k, x'.at k → x.at k ∨ W.heap.size ≤ k) : Ks W' b (X.set i x') := by
  have hlen := (List.getElem?_eq_some_iff.1 hi).1
  have get : ∀ (j : Nat) y, (X.set i x')[j]? = some y → (j = i ∧ y = x') ∨ (j ≠ i ∧ X[j]? = some y) := fun j y hj => by
    by_cases e : i = j
    · subst e
      rw [List.getElem?_set_self hlen] at hj
      cases hj
      exact .inl ⟨rfl, rfl⟩
    · rw [List.getElem?_set_ne e] at hj
      exact .inr ⟨fun e' => e e'.symm, hj⟩
  refine ⟨fun j y hj => ?_, fun j k y z hj hk' hne q hq hq2 => ?_⟩
  · rcases get j y hj with ⟨rfl, rfl⟩ | ⟨hne, hy⟩
    · exact hx'
    · exact (h.ok j y hy).kept hk (fun q hq => fun e => h.apart j i y x hy hi hne q hq e)
  · rcases get j y hj with ⟨rfl, rfl⟩ | ⟨hn1, hy⟩ <;> rcases get k z hk' with ⟨rfl, rfl⟩ | ⟨hn2, hz⟩
    · exact hne rfl
    · rcases hat q hq with e | e
      · exact h.apart _ _ x z hi hz (fun e => hn2 e.symm) q e hq2
      · have := (h.ok _ z hz).lt hq2; omega
    · rcases hat q hq2 with e | e
      · exact h.apart _ _ y x hy hi hn1 q hq e
      · have := (h.ok _ y hy).lt hq; omega
    · exact h.apart _ _ y z hy hz hne q hq hq2
theorem Ks.push {W W' : World} {b : Nat} {X : List It} (h : Ks W b X) {x : It} (hk : Kept No W W') (hx : ItOk W' b x) (hat : ∀ k, x.at k → W.heap.size ≤ k) : Ks W' b (X ++ [x]) := by
  have get : ∀ (j : Nat) y, (X ++ [x])[j]? = some y → (j = X.length ∧ y = x) ∨ (j < X.length ∧ X[j]? = some y) := fun j y hj => by
    rw [List.getElem?_append] at hj
    split at hj
    · rename_i e; exact .inr ⟨e, hj⟩
    · rename_i e
      have hj' := (List.getElem?_eq_some_iff.1 hj)
      obtain ⟨hlt, he⟩ := hj'
      have h0 : j - X.length = 0 := by simpa using hlt
      refine .inl ⟨by omega, ?_⟩
      simp [h0] at he
      exact he.symm
  refine ⟨fun j y hj => ?_, fun j k y z hj hk' hne q hq hq2 => ?_⟩
  · rcases get j y hj with ⟨rfl, rfl⟩ | ⟨_, hy⟩
    · exact hx
    · exact (h.ok j y hy).kept hk (fun _ _ e => e)
  · rcases get j y hj with ⟨rfl, rfl⟩ | ⟨hn1, hy⟩ <;> rcases get k z hk' with ⟨rfl, rfl⟩ | ⟨hn2, hz⟩
    · exact hne rfl
    · have h1 := hat q hq; have h2 := (h.ok _ z hz).lt hq2; omega
    · have h1 := hat q hq2; have h2 := (h.ok _ y hy).lt hq; omega
    · exact h.apart _ _ y z hy hz hne q hq hq2
theorem Ks.nil (W : World) (b : Nat) : Ks W b [] := ⟨fun i x hx => by simp at hx, fun i j x y hx => by simp at hx⟩
/-- One of them is grown. -/
def It.link (x : It) : Prop := ((x.a2 = x.a ∧ x.c2 = x.c) ∨ ∀ k, At x.a2 k → ¬ At x.a k) ∧ x.ms <+: x.ms2
theorem ItOk.grow {W : World} {b : Nat} {x : It} (h : ItOk W b x) (hl : x.link) (g2 : Nat) (y : Mg) (hx : Box W g2 52 y.cells) (hbd : x.ms2.length ≤ 1000000000) (hbase : b ≤ W.heap.size) :
    ∃ x' W', (Builtin.append_ #[57, 57] 57 #[x.v2, .slice (some ⟨g2, 0, none⟩) 1 1]).run Try.prog W = .ok x'.v2 W' ∧ x'.v = x.v ∧ x'.ms = x.ms ∧ x'.ms2 = x.ms2 ++ [y] ∧ ItOk W' b x' ∧ x'.link ∧ Kept x.at W W' ∧ (∀ k, x'.at k → x.at k ∨ W.heap.size ≤ k) := by
  obtain ⟨a', c', W', hrun, ho, hc⟩ := run_app52 h.own2 g2 y hx hbd hbase
  have hp : x.ms <+: x.ms2 ++ [y] := hl.2.trans (List.prefix_append _ _)
  have hlen : (x.ms2 ++ [y]).length = x.ms2.length + 1 := by simp
  refine ⟨{ x with a2 := a', c2 := c', ms2 := x.ms2 ++ [y] }, W', ?_, rfl, rfl, rfl, ?_⟩
  · rw [show ({ x with a2 := a', c2 := c', ms2 := x.ms2 ++ [y] } : It).v2 = .slice a' (x.ms2.length + 1) c' by unfold It.v2; rw [hlen]]
    exact hrun
  rcases hc with ⟨rfl, rfl, hk⟩ | ⟨hf, hk⟩
  · have hk' : Kept x.at W W' := hk.mono (fun i _ e => .inr e)
    have hat : ∀ k, ({ x with a2 := x.a2, c2 := x.c2, ms2 := x.ms2 ++ [y] } : It).at k → x.at k ∨ W.heap.size ≤ k := fun k e => .inl e
    rcases hl.1 with ⟨e1, e2⟩ | hap
    · refine ⟨⟨?_, by rw [hlen]; exact ho⟩, ⟨.inl ⟨e1, e2⟩, hp⟩, hk', hat⟩
      have hf := own_front ho hp
      show Own 52 30 W' b x.a x.c x.ms.length (mgL x.ms)
      rw [← e1, ← e2]
      exact hf
    · exact ⟨⟨Own.kept h.own hk (fun k e e' => hap k e' e), by rw [hlen]; exact ho⟩, ⟨.inr hap, hp⟩, hk', hat⟩
  · refine ⟨⟨Own.no h.own hk, by rw [hlen]; exact ho⟩, ⟨.inr (fun k e e' => by have h1 := hf k e; have h2 := Own.lt h.own e'; omega), hp⟩, hk.of_no, fun k e => ?_⟩
    rcases e with e | e
    · exact .inl (.inl e)
    · exact .inr (hf k e)
end Go.Proofs.Ythnecaejhnojfaa.Md
