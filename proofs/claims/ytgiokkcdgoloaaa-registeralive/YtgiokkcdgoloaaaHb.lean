import Derived.Test.YtgiokkcdgoloaaaYa
import Derived.Test.YtgiokkcdgoloaaaHa
namespace Go.Proofs.Ytgiokkcdgoloaaa.Md
open Go.RowKit
set_option linter.unusedVariables false
set_option linter.unusedSimpArgs false
structure Rz where
  er : Int
  en : En
  li : Sl
  da : Sl
  n : Int
  st : Sp
  ins : Int
structure Rv where
  wr : Bool
  cl : Int
  op : Int
  ky : Ky
  g : Sl
  rd : Int
  sz : Int
  bl : Sl
  ph : Int
  an : Sl
  vs : Sl
  tag : Sp
  er : Int
structure Aq where
  wr : Bool
  cl : Int
  op : Int
  ky : Ky
  g : Sl
  rd : Int
  sz : Int
  da : Sl
structure Stp where
  k : Int
  m : Mg
def rzZ : Rz := ⟨0, enZ, slZ, slZ, 0, spZ, 0⟩
def blZ : Bl := ⟨spZ, slZ⟩
def Rz.cs (x : Rz) : List Value := [.int .i64 x.er] ++ (x.en.cs ++ ([x.li.v, x.da.v, .int .i64 x.n] ++ (x.st.cs ++ [.int .i64 x.ins])))
def Rv.cs (x : Rv) : List Value := [.bool x.wr, .int .i64 x.cl, .int .i64 x.op] ++ (x.ky.cs ++ ([x.g.v, .int .i64 x.rd, .int .i64 x.sz, x.bl.v, .int .i64 x.ph, x.an.v, x.vs.v] ++ (x.tag.cs ++ [.int .i64 x.er])))
def Aq.cs (x : Aq) : List Value := [.bool x.wr, .int .i64 x.cl, .int .i64 x.op] ++ (x.ky.cs ++ [x.g.v, .int .i64 x.rd, .int .i64 x.sz, x.da.v])
def Stp.cs (x : Stp) : List Value := [.int .i64 x.k] ++ x.m.cs
def Rz.cells (x : Rz) : Array Value := x.cs.toArray
def Rv.cells (x : Rv) : Array Value := x.cs.toArray
def Aq.cells (x : Aq) : Array Value := x.cs.toArray
def Stp.cells (x : Stp) : Array Value := x.cs.toArray
theorem Rz.oneL (x : Rz) : ∀ v ∈ x.cs, v.oneCell' = true := by simp [Rz.cs, En.cs, Sp.cs, Value.oneCell', Sl.v]
theorem Rv.oneL (x : Rv) : ∀ v ∈ x.cs, v.oneCell' = true := by simp [Rv.cs, Ky.cs, Sp.cs, Value.oneCell', Sl.v]
theorem Aq.oneL (x : Aq) : ∀ v ∈ x.cs, v.oneCell' = true := by simp [Aq.cs, Ky.cs, Value.oneCell', Sl.v]
theorem S90 : (Try.prog.info? 90).map (·.size) = some 11 := by kernel_rfl
theorem S57 : (Try.prog.info? 57).map (·.size) = some 3 := by kernel_rfl
theorem S31 : (Try.prog.info? 31).map (·.size) = some 1 := by kernel_rfl
theorem U90 : Try.prog.underlying 90 = some (.struct (Try.prog.fieldsOf 90)) := by kernel_rfl
theorem U57 : Try.prog.underlying 57 = some (.struct (Try.prog.fieldsOf 57)) := by kernel_rfl
theorem U86 : Try.prog.underlying 86 = some (.int .i64) := by kernel_rfl
theorem Z90 : (Try.prog.info? 90).bind (·.zero) = some (.agg rzZ.cells) := by kernel_rfl
theorem Z57 : (Try.prog.info? 57).bind (·.zero) = some (.agg blZ.cells) := by kernel_rfl
theorem eqS_eql (a b : Sp) (w : World) : (binOp .eql 41 (.agg a.cells) (.agg b.cells)).run Try.prog w = .ok (.bool (eqS a b)) w := by
  rw [run_eql_struct, eq25 9998]; rfl
theorem b_gtr (x y : Int) (w : World) : (binOp .gtr 3 (.int .i64 x) (.int .i64 y)).run Try.prog w = .ok (.bool (decide (y < x))) w := by kernel_rfl
def mgL (l : List Mg) : List Value := (l.map Mg.cs).flatten
theorem mgL_c (l : List Mg) : ∀ x ∈ l.map Mg.cs, x.length = 30 := by intro x hx; obtain ⟨s, _, rfl⟩ := List.mem_map.1 hx; rfl
theorem mgL_len (l : List Mg) : (mgL l).length = l.length * 30 := by rw [mgL, flat_len 30 _ (mgL_c l), List.length_map]
theorem mgL_app (a b : List Mg) : mgL (a ++ b) = mgL a ++ mgL b := by simp [mgL]
theorem mgL_one (l : List Mg) : ∀ v ∈ mgL l, v.oneCell' = true := by
  intro v hv
  obtain ⟨x, hx, hv⟩ := List.mem_flatten.1 hv
  obtain ⟨e, _, rfl⟩ := List.mem_map.1 hx
  exact e.oneL v hv
structure RdM (w : World) (s : Sl) (ms : List Mg) : Prop where
  row : RowsAt 30 w s.a (ms.map Mg.cs)
  len : ms.length = s.l
theorem RdM.kept {S : Nat → Prop} {w w' : World} {s : Sl} {ms : List Mg} (h : RdM w s ms) (hk : Kept S w w') (hS : ∀ k, At s.a k → ¬ S k) : RdM w' s ms := ⟨RowsAt.kept h.row hk hS, h.len⟩
theorem RdM.no {w w' : World} {s : Sl} {ms : List Mg} (h : RdM w s ms) (hk : Kept No w w') : RdM w' s ms := h.kept hk (fun _ _ e => e)
def gAt (es : List Mg) (i : Nat) : Mg := es[i]?.getD mgZ
theorem gAt_some {es : List Mg} {i : Nat} (h : i < es.length) : es[i]? = some (gAt es i) := by simp [gAt, List.getElem?_eq_getElem h]
theorem RdM.at {w : World} {s : Sl} {es : List Mg} (h : RdM w s es) {i : Nat} (hi : i < es.length) : ∃ b off, s.a = some ⟨b, off, none⟩ ∧ ∀ (j : Nat) v, (gAt es i).cs[j]? = some v → w.cell? ⟨b, off + i * 30 + j, none⟩ = some v :=
  h.row i _ (by rw [List.getElem?_map, gAt_some hi]; rfl)
end Go.Proofs.Ytgiokkcdgoloaaa.Md
namespace Go.Proofs.Ytgiokkcdgoloaaa.Md
open Go.RowKit
set_option linter.unusedVariables false
set_option linter.unusedSimpArgs false
structure LikeM (w : World) (m m' : Mg) : Prop where
 sc : m' = { m with bl := m'.bl, bk := ⟨m.bk.up, m'.bk.e, m'.bk.l⟩, cm := m'.cm }
 ex : ∃ zs es ls cs, RdB w m.bl zs ∧ RdB w m'.bl zs ∧ RdE w m.bk.e es ∧ RdE w m'.bk.e es ∧ RdL w m.bk.l ls ∧ RdL w m'.bk.l ls ∧ RdC w m.cm cs ∧ RdC w m'.cm cs
 n1 : m.bl.l ≤ 281474976710656
 n2 : m.bk.e.l ≤ 4000000000000
 n3 : m.bk.l.l ≤ 4000000000000
 n4 : m.cm.l ≤ 4000000000000
theorem LikeM.no {w w' : World} {m m' : Mg} (h : LikeM w m m') (hk : Kept No w w') : LikeM w' m m' := by
 obtain ⟨h1, ⟨zs, es, ls, cs, a1, a2, a3, a4, a5, a6, a7, a8⟩, n1, n2, n3, n4⟩ := h
 exact ⟨h1, ⟨zs, es, ls, cs, a1.no hk, a2.no hk, a3.no hk, a4.no hk, a5.no hk, a6.no hk, a7.no hk, a8.no hk⟩, n1, n2, n3, n4⟩
end Go.Proofs.Ytgiokkcdgoloaaa.Md
namespace Go.Proofs.Ytgiokkcdgoloaaa.Md
open Go.RowKit
set_option linter.unusedVariables false
set_option linter.unusedSimpArgs false
theorem run_appN {w : World} (T ty E : TypeId) (c by' : Nat) (z : Value) (ht : Try.prog.underlying T = some (.slice E))
    (hinf : (Try.prog.info? E).map (fun i => (i.zero, i.size, i.bytes)) = some (some z, c, by')) (hzc : z.cells.size = c) (hc0 : 0 < c)
    (base n cap : Nat) (sa : Option Addr) (vs : List Value) (hown : Own E c w base sa cap n vs) (xa : Option Addr) (m cc : Nat) (news : List Value) (hl : news.length = m * c) (hx0 : xa = none → cc = 0) (hnews : ∀ j u, news[j]? = some u → ∃ ad, xa = some ad ∧ w.cell? (ad.add j) = some u) (h1 : ∀ u ∈ news, u.oneCell' = true) (hbd : (n + m) * by' ≤ 140737488355328) (hb63 : n + m ≤ 9223372036854775807) (hbase : base ≤ w.heap.size) :
    ∃ a' cap' w', (Builtin.append_ #[T, T] ty #[.slice sa n cap, .slice xa m cc]).run Try.prog w = .ok (.slice a' (n + m) cap') w' ∧ Own E c w' base a' cap' (n + m) (vs ++ news) ∧ Kept (At sa) w w' ∧ (∀ k, At a' k → At sa k ∨ k = w.heap.size) := by
  obtain ⟨i0, hi, hz0, hz1, hz2⟩ := info_parts hinf
  cases xa with
  | none =>
    have hm : m = 0 := by
      cases m with
      | zero => rfl
      | succ m =>
        have h0 : 0 < news.length := by rw [hl, Nat.succ_mul]; omega
        obtain ⟨ad, e, _⟩ := hnews 0 news[0] (List.getElem?_eq_getElem h0)
        cases e
    subst hm
    obtain rfl : news = [] := List.eq_nil_of_length_eq_zero (by simpa using hl)
    obtain rfl := hx0 rfl
    have hrun := run_append_owned_none (P := Try.prog) (w := w) base T ty E i0 c ht hi (.slice sa n cap) n vs hown
    exact ⟨sa, cap, w, hrun, by simpa using hown, Kept.refl _ _, fun k hk => .inl hk⟩
  | some ad =>
    obtain ⟨v', w', hrun, r1, r2, _, r4⟩ := run_append_own_at (P := Try.prog) (w := w) base T ty E i0 z c by' ht hi hz0 hz1 hz2 hzc hc0 (.slice sa n cap) n vs hown ad m cc news hl (fun j u hj => by obtain ⟨ad', e, h⟩ := hnews j u hj; cases e; exact h) h1 (by unfold maxLen; omega) hbd hbase
    have hk : Kept (At sa) w w' := (Kept.refl (At sa) w).grown r2 (fun k e hk => by
      cases sa with
      | none => cases e
      | some ad' => simp only [Value.ownBlock, Option.some.injEq] at e; exact ⟨ad', rfl, e⟩)
    rcases r1.2 with ⟨e, h0⟩ | ⟨g, cap', cur, e, _⟩
    · subst e
      refine ⟨none, 0, w', ?_, ?_, hk, fun k h => absurd h At.none⟩
      · rw [hrun, h0]
      · have := r1; rw [h0] at this ⊢; exact this
    · subst e
      refine ⟨some ⟨g, 0, none⟩, cap', w', hrun, r1, hk, ?_⟩
      rintro k ⟨ad2, e2, rfl⟩
      cases e2
      rcases r4 with e | e
      · left
        cases sa with
        | none => simp [Value.ownBlock] at e
        | some ad' => simp only [Value.ownBlock, Option.some.injEq] at e; exact ⟨ad', rfl, e.symm⟩
      · right; simpa [Value.ownBlock] using e
theorem exec_appN {o : Oper} {a : Act} {w w' : World} {v : Value} (s x : Operand) (T T' : TypeId) (ho : o.op = .call { callee := Callee.builtin Builtin.append, args := #[s, x], argTypes := #[T, T'] }) (vs vx : Value) (hs : a.eval s = vs) (hx : a.eval x = vx)
    (hrun : (Builtin.append_ #[T, T'] o.type #[vs, vx]).run Try.prog w = .ok v w') : (execOp a.eval o).run Try.prog w = .ok (.value v) w' := by
  simp [execOp, ho, resolve, invoke, builtin, hs, hx, hrun, Result.andThen]
theorem _root_.Go.Proofs.Ytgiokkcdgoloaaa.Own.ty {t : TypeId} {c : Nat} {w : World} {base : Nat} {a : Option Addr} {cap n : Nat} {vs : List Value} (h : Own t c w base a cap n vs) {k : Nat} (hk : At a k) : ∃ cs, Box w k t cs := by
  rcases h.cases h.1 with ⟨rfl, _⟩ | ⟨g, rfl, _, hg, sp, hbx, _⟩
  · exact absurd hk At.none
  · obtain ⟨ad, e, rfl⟩ := hk
    cases e
    exact ⟨_, hbx⟩
theorem flat_setA (c : Nat) (xs : List (List Value)) (hc : ∀ x ∈ xs, x.length = c) (sp : List Value) (i : Nat) (y : List Value) (hy : y.length = c) (hi : i < xs.length) : putL (xs.flatten ++ sp) (i * c) y = (xs.set i y).flatten ++ sp := by
  have h : xs = xs.take i ++ ([xs[i]] ++ xs.drop (i + 1)) := by simp
  have h2 : xs.set i y = xs.take i ++ ([y] ++ xs.drop (i + 1)) := by rw [List.set_eq_take_append_cons_drop]; simp [hi]
  have hl : (xs.take i).flatten.length = i * c := by
    rw [flat_len c _ (fun x hx => hc x (List.mem_of_mem_take hx)), List.length_take]; congr 1; omega
  have hxi : (xs[i]).length = c := hc _ (List.getElem_mem hi)
  have h3 : xs.flatten = (xs.take i).flatten ++ (xs[i] ++ (xs.drop (i + 1)).flatten) := by
    have e := congrArg List.flatten h
    rw [List.flatten_append, List.flatten_append, List.flatten_cons, List.flatten_nil, List.append_nil] at e
    exact e
  rw [h2, h3]
  simp only [List.flatten_append, List.flatten_cons, List.flatten_nil, List.append_nil, List.append_assoc]
  unfold putL
  rw [← hl, List.take_left', ← List.drop_drop, List.drop_left', hy, ← hxi, List.drop_left']
  all_goals rfl
theorem _root_.Go.Proofs.Ytgiokkcdgoloaaa.Own.setN {T ty : TypeId} {c : Nat} {W : World} {base : Nat} {a : Option Addr} {cap n : Nat} {xs : List (List Value)} (h : Own T c W base a cap n xs.flatten) (hc : ∀ x ∈ xs, x.length = c) (hl : xs.length = n) {i g : Nat} (hi : i < n) (ha : a = some ⟨g, 0, none⟩) {v : Value} {y : List Value} (hv : v.cells = y.toArray) (hz : (Try.prog.info? ty).map (·.size) = some y.length) (h1 : ∀ x ∈ y, x.oneCell' = true) (hy : y.length = c) :
    ∃ cs', (storeVar ty ⟨g, 0 + i * c, none⟩ v).run Try.prog W = .ok () (W.setRow g cs') ∧ Own T c (W.setRow g cs') base a cap n (xs.set i y).flatten := by
  rcases h.2 with ⟨hv2, hn⟩ | ⟨g', cap', cur, hv2, hb, hg, hle, hm, hs, ht⟩
  · omega
  · simp only [Value.slice.injEq] at hv2
    obtain ⟨ea, -, rfl⟩ := hv2
    rw [ea] at ha
    cases ha
    obtain ⟨cur, rfl⟩ : ∃ l : List Value, cur = l.toArray := ⟨cur.toList, by simp⟩
    have hbox : Box W g T cur.toArray := hg
    have hs : cur.length = cap * c := by simpa using hs
    have ht : cur.take (n * c) = xs.flatten := by simpa using ht
    have hnc : n * c ≤ cap * c := Nat.mul_le_mul_right _ hle
    have hic : i * c + c ≤ n * c := by rw [← Nat.succ_mul]; exact Nat.mul_le_mul_right _ hi
    have hcur : cur = xs.flatten ++ cur.drop (n * c) := by rw [← ht, List.take_append_drop]
    have hfl : xs.flatten.length = n * c := by rw [flat_len c xs hc, hl]
    refine ⟨(putL cur (0 + i * c) y).toArray, run_store_at hbox hv hz (by rw [hy, Nat.zero_add, hs]; omega) h1, ?_⟩
    rw [Nat.zero_add, ea]
    have hp : putL cur (i * c) y = (xs.set i y).flatten ++ cur.drop (n * c) := by
      conv => lhs; rw [hcur]
      exact flat_setA c xs hc _ i y hy (by omega)
    rw [hp]
    have hsl : ((xs.set i y).flatten).length = n * c := by
      rw [flat_len c _ (fun x hx => by rcases List.mem_or_eq_of_mem_set hx with hx | hx; exact hc x hx; rw [hx]; exact hy), List.length_set, hl]
    exact Own.shut hb (Box.setRow hbox _) hle (by unfold maxLen at hm; omega) (by rw [List.length_append, hsl, List.length_drop, hs]; omega) (by rw [← hsl]; exact List.take_left' rfl)
theorem I5 : (Try.prog.info? 5).map (fun i => (i.zero, i.size, i.bytes)) = some (some (.int .u8 0), 1, 1) := by kernel_rfl
theorem exec_sl0 {o : Oper} {a : Act} {w : World} (T E : TypeId) (ho : o.op = .buildSlice T 0 #[]) (h : (Instr.buildSlice T 0 #[]).run Try.prog w = .ok (.slice (some ⟨w.heap.size, 0, none⟩) 0 0) (w.alloc (.cells #[] E))) : (execOp a.eval o).run Try.prog w = .ok (.value (.slice (some ⟨w.heap.size, 0, none⟩) 0 0)) (w.alloc (.cells #[] E)) := by
  simp only [execOp, ho, Sem.run_bind, Array.map_empty, h, Result.andThen_ok, Sem.run_pure]
theorem own0 (t : TypeId) (c : Nat) (w : World) : Own t c (w.alloc (.cells #[] t)) w.heap.size (some ⟨w.heap.size, 0, none⟩) 0 0 [] := by
  refine ⟨by simp, .inr ⟨w.heap.size, 0, #[], rfl, Nat.le_refl _, ?_, Nat.le_refl _, Nat.zero_le _, by simp, by simp⟩⟩
  exact Box.new w t #[]
theorem run_cpy {w : World} (T ty E : TypeId) (c by' : Nat) (z : Value) (ht : Try.prog.underlying T = some (.slice E))
    (hinf : (Try.prog.info? E).map (fun i => (i.zero, i.size, i.bytes)) = some (some z, c, by')) (hzc : z.cells.size = c) (hc0 : 0 < c) (xa : Option Addr) (m cc : Nat) (news : List Value) (hl : news.length = m * c) (hx0 : xa = none → cc = 0) (hnews : ∀ j u, news[j]? = some u → ∃ ad, xa = some ad ∧ w.cell? (ad.add j) = some u) (h1 : ∀ u ∈ news, u.oneCell' = true) (hbd : m * by' ≤ 140737488355328) (hb63 : m ≤ 9223372036854775807) :
    ∃ a' cap' w', (Builtin.append_ #[T, T] ty #[.slice (some ⟨w.heap.size, 0, none⟩) 0 0, .slice xa m cc]).run Try.prog (w.alloc (.cells #[] E)) = .ok (.slice a' m cap') w' ∧ Own E c w' w.heap.size a' cap' m news ∧ Kept No w w' := by
  obtain ⟨a', cap', w', hr, ho, hk, _⟩ := run_appN (w := w.alloc (.cells #[] E)) T ty E c by' z ht hinf hzc hc0 w.heap.size 0 0 _ [] (own0 E c w) xa m cc news hl hx0 (fun j u hj => by
    obtain ⟨ad, e, hc⟩ := hnews j u hj
    exact ⟨ad, e, ((Kept.refl No w).alloc _).cell hc (fun e => e)⟩) h1 (by rwa [Nat.zero_add]) (by omega) (by simp)
  rw [Nat.zero_add] at hr ho
  refine ⟨a', cap', w', hr, ho, ((Kept.refl No w).alloc _).trans hk (fun _ e => e) (fun k hk' e => ?_)⟩
  obtain ⟨ad, e1, e2⟩ := e
  cases e1
  simp at e2
  omega
end Go.Proofs.Ytgiokkcdgoloaaa.Md
namespace Go.Proofs.Ytgiokkcdgoloaaa.Md
open Go.RowKit
set_option linter.unusedVariables false
set_option linter.unusedSimpArgs false
structure MgIn (w : World) (m : Mg) (zs : List Int) (es : List En) (ls : List La) (cs : List Cm) : Prop where
  b : RdB w m.bl zs
  e : RdE w m.bk.e es
  l : RdL w m.bk.l ls
  c : RdC w m.cm cs
  nb : m.bl.l ≤ 140737488351232
  ne : m.bk.e.l ≤ 3518437208780
  nl : m.bk.l.l ≤ 2513169434843
  nc : m.cm.l ≤ 1759218604390
theorem MgIn.no {w w' : World} {m : Mg} {zs : List Int} {es : List En} {ls : List La} {cs : List Cm} (H : MgIn w m zs es ls cs) (hk : Kept No w w') : MgIn w' m zs es ls cs := ⟨H.b.no hk, H.e.no hk, H.l.no hk, H.c.no hk, H.nb, H.ne, H.nl, H.nc⟩
structure Len (w : World) (base : Nat) (m : Mg) (zs : List Int) (es : List En) (ls : List La) (cs : List Cm) (gb : Nat) (e l c : Sl) : Prop where
  b : Blk w gb (lent zs 5)
  bb : base ≤ gb
  e : OwE w base e es
  l : OwL w base l ls
  c : OwC w base c cs
theorem Len.kept {S : Nat → Prop} {w w' : World} {base : Nat} {m : Mg} {zs : List Int} {es : List En} {ls : List La} {cs : List Cm} {gb : Nat} {e l c : Sl} (h : Len w base m zs es ls cs gb e l c) (hk : Kept S w w') (hS : ∀ k, base ≤ k → ¬ S k) : Len w' base m zs es ls cs gb e l c :=
  ⟨(hk.block gb (Array.getElem?_eq_some_iff.1 h.b).1 (hS gb h.bb)).trans h.b, h.bb, h.e.kept hk (fun k e => hS k (h.e.own.base e)), h.l.kept hk (fun k e => hS k (h.l.own.base e)), ⟨h.c.own.kept hk (fun k e => hS k (h.c.own.base e)), h.c.len⟩⟩
end Go.Proofs.Ytgiokkcdgoloaaa.Md
namespace Go.Proofs.Ytgiokkcdgoloaaa.Md
open Go.RowKit
set_option linter.unusedVariables false
set_option linter.unusedSimpArgs false
theorem OwC.rd {w : World} {base : Nat} {s : Sl} {es : List Cm} (h : OwC w base s es) : RdC w s es := ⟨Own.rows h.own (cmL_c es) (by omega), h.len, h.own.cap0⟩
theorem _root_.Go.Proofs.Ytgiokkcdgoloaaa.Nums.kept0 {q : IntKind} {S : Nat → Prop} {w w' : World} {a : Option Addr} {zs : List Int} (h : Nums q w a zs) (hk : Kept S w w') (hS : zs ≠ [] → ∀ b off, a = some ⟨b, off, none⟩ → ¬ S b) : Nums q w' a zs := by
  cases zs with
  | nil => intro i hi; simp at hi
  | cons z l => exact h.kept hk (hS (by simp))
theorem RowsAt.kept0 {n : Nat} {S : Nat → Prop} {w w' : World} {a : Option Addr} {xs : List (List Value)} (h : RowsAt n w a xs) (hk : Kept S w w') (hS : xs ≠ [] → ∀ k, At a k → ¬ S k) : RowsAt n w' a xs := by
  cases xs with
  | nil => intro i it hi; simp at hi
  | cons z l => exact h.kept hk (hS (by simp))
theorem RdB.kept0 {S : Nat → Prop} {w w' : World} {s : Sl} {bs : List Int} (h : RdB w s bs) (hk : Kept S w w') (hS : bs ≠ [] → ∀ k, At s.a k → ¬ S k) : RdB w' s bs := ⟨h.row.kept0 hk (fun hne b off e => hS hne b ⟨_, e, rfl⟩), h.len, h.cap⟩
def LB (gb : Nat) (E L C : Sl) : Nat → Prop := fun k => k = gb ∨ At E.a k ∨ At L.a k ∨ At C.a k
theorem Fq.wr {S : Nat → Prop} {w0 w : World} {l : List (Nat × TypeId × Array Value)} (h : Fq S w0 w l) {g : Nat} {T : TypeId} {c0 : Array Value} (hb : Box w g T c0) (hg : S g) (hT : ∀ x ∈ l, x.2.1 ≠ T) (cs : Array Value) : Fq S w0 (w.setRow g cs) l :=
  ⟨kept_row h.kept (.inr hg) cs, fun i g' T' cs' hi => (h.box i g' T' cs' hi).rowNe (box_ne (h.box i g' T' cs' hi) hb (hT _ (List.mem_of_getElem? hi))) _, h.low, h.inj⟩
end Go.Proofs.Ytgiokkcdgoloaaa.Md
namespace Go.Proofs.Ytgiokkcdgoloaaa.Md
open Go.RowKit
set_option linter.unusedVariables false
set_option linter.unusedSimpArgs false
structure Rx where
  wr : Bool
  cl : Int
  op : Int
  ky : Ky
  zs : List Int
  rd : Int
  sz : Int
  bl : Sl
  ph : Int
  qa : List Bool
  vs : List Mg
  tag : Sp
  er : Int
def rvG (x : Rx) (g an vv : Sl) : Rv := ⟨x.wr, x.cl, x.op, x.ky, g, x.rd, x.sz, x.bl, x.ph, an, vv, x.tag, x.er⟩
def rvL (x : Rx) (g : Sl) (ba bv : Nat) : Rv := rvG x g ⟨some ⟨ba, 0, none⟩, g.l, g.l⟩ ⟨some ⟨bv, 0, none⟩, g.l, g.l⟩
structure RfG (w : World) (r : Nat) (x : Rx) (g an vv : Sl) : Prop where
  box : Box w r 99 (rvG x g an vv).cells
  gr : OwI w 0 g x.zs
  hn : g.l ≤ 100
structure RfL (w : World) (r : Nat) (x : Rx) (g : Sl) (ba bv : Nat) : Prop where
  box : Box w r 99 (rvL x g ba bv).cells
  gr : OwI w 0 g x.zs
  hn : g.l ≤ 100
  ba : Box w ba 4 (boL x.qa).toArray
  bv : Box w bv 52 (mgL x.vs).toArray
  la : x.qa.length = g.l
  lv : x.vs.length = g.l
theorem RfL.g {w : World} {r : Nat} {x : Rx} {g : Sl} {ba bv : Nat} (h : RfL w r x g ba bv) : RfG w r x g ⟨some ⟨ba, 0, none⟩, g.l, g.l⟩ ⟨some ⟨bv, 0, none⟩, g.l, g.l⟩ := ⟨h.box, h.gr, h.hn⟩
theorem RfG.kept {S : Nat → Prop} {w w' : World} {r : Nat} {x : Rx} {g an vv : Sl} (h : RfG w r x g an vv) (hk : Kept S w w') (hr : ¬ S r) (hg : ∀ k, At g.a k → ¬ S k) : RfG w' r x g an vv := ⟨h.box.kept hk hr, h.gr.kept hk hg, h.hn⟩
theorem RfL.kept {S : Nat → Prop} {w w' : World} {r : Nat} {x : Rx} {g : Sl} {ba bv : Nat} (h : RfL w r x g ba bv) (hk : Kept S w w') (hr : ¬ S r) (hg : ∀ k, At g.a k → ¬ S k) (ha : ¬ S ba) (hv : ¬ S bv) : RfL w' r x g ba bv := ⟨h.box.kept hk hr, h.gr.kept hk hg, h.hn, h.ba.kept hk ha, h.bv.kept hk hv, h.la, h.lv⟩
theorem RfG.no {w w' : World} {r : Nat} {x : Rx} {g an vv : Sl} (h : RfG w r x g an vv) (hk : Kept No w w') : RfG w' r x g an vv := h.kept hk (fun e => e) (fun _ _ e => e)
theorem RfL.no {w w' : World} {r : Nat} {x : Rx} {g : Sl} {ba bv : Nat} (h : RfL w r x g ba bv) (hk : Kept No w w') : RfL w' r x g ba bv := h.kept hk (fun e => e) (fun _ _ e => e) (fun e => e) (fun e => e)
def msgR (x : Rx) (z : Int) : Mg := ⟨if x.ph == 2 then 2 else 1, ⟨true, x.cl⟩, ⟨false, z⟩, x.op, x.rd, x.ky, if x.ph == 2 then x.tag else spZ, spZ, if x.ph == 2 then x.bl else slZ, cZ, bvZ, slZ, false⟩
end Go.Proofs.Ytgiokkcdgoloaaa.Md
namespace Go.Proofs.Ytgiokkcdgoloaaa.Md
open Go.RowKit
set_option linter.unusedVariables false
set_option linter.unusedSimpArgs false
theorem addr_add (b o j : Nat) : (⟨b, o, none⟩ : Addr).add j = ⟨b, o + j, none⟩ := by simp [Addr.add]
structure OwM (w : World) (base : Nat) (s : Sl) (l : List Mg) : Prop where
 own : Own 52 30 w base s.a s.k s.l (mgL l)
 len : l.length = s.l
theorem OwM.kept {S : Nat → Prop} {w w' : World} {base : Nat} {s : Sl} {es : List Mg} (h : OwM w base s es) (hk : Kept S w w') (hS : ∀ k, At s.a k → ¬ S k) : OwM w' base s es := ⟨h.own.kept hk hS, h.len⟩
theorem OwM.no {w w' : World} {base : Nat} {s : Sl} {es : List Mg} (h : OwM w base s es) (hk : Kept No w w') : OwM w' base s es := h.kept hk (fun _ _ e => e)
theorem OwM.nil (w : World) (base : Nat) : OwM w base slZ [] := ⟨Own.nil _ _ _ _, rfl⟩
theorem OwM.rd {w : World} {base : Nat} {s : Sl} {es : List Mg} (h : OwM w base s es) : RdM w s es := ⟨Own.rows h.own (mgL_c es) (by omega), h.len⟩
end Go.Proofs.Ytgiokkcdgoloaaa.Md
namespace Go.Proofs.Ytgiokkcdgoloaaa.Md
open Go.RowKit
set_option linter.unusedVariables false
set_option linter.unusedSimpArgs false
def cntB (l : List Bool) : Nat := l.countP (fun b => b)
def J3 (r ba bv : Nat) : Nat → Prop := fun k => k = r ∨ k = ba ∨ k = bv
end Go.Proofs.Ytgiokkcdgoloaaa.Md
namespace Go.Proofs.Ytgiokkcdgoloaaa.Md
open Go.RowKit
set_option linter.unusedVariables false
set_option linter.unusedSimpArgs false
theorem OwI.nil (w : World) (base : Nat) : OwI w base slZ [] := ⟨Own.nil _ _ _ _, rfl⟩
structure RdI (w : World) (s : Sl) (zs : List Int) : Prop where
 row : Nums .i64 w s.a zs
 len : zs.length = s.l
end Go.Proofs.Ytgiokkcdgoloaaa.Md
namespace Go.Proofs.Ytgiokkcdgoloaaa.Md
open Go.RowKit
set_option linter.unusedVariables false
set_option linter.unusedSimpArgs false
def szR (sz : Int) : Int := if sz < 0 then 0 else if 4096 < sz then 4096 else sz
theorem szR_lo (sz : Int) : 0 ≤ szR sz := by unfold szR; split <;> (try split) <;> omega
theorem szR_hi (sz : Int) : szR sz ≤ 4096 := by unfold szR; split <;> (try split) <;> omega
end Go.Proofs.Ytgiokkcdgoloaaa.Md
namespace Go.Proofs.Ytgiokkcdgoloaaa
open Go.RowKit
set_option linter.unusedVariables false
set_option linter.unusedSimpArgs false
set_option maxRecDepth 100000 in
set_option maxHeartbeats 4000000 in
theorem tickL_any (m : Nat) (a : Option Addr) (cap : Nat) (x : MS) (t : TypeId) (v : Value) (n c : Int) (pa : Option Addr) (l k : Nat) (err sn sc : Int) (da : Option Addr) (dl dc : Nat) (ub bb ct : Nat) (at' : Option Addr) (X : TS Unit) (pz : List Int) (w : World) (hM : Mach w m a cap x t v) (hT : Tal 150 ansU w ub bb at' ct X) (hl : X.g.length ≤ 400000000000) (hz : pz.length = l) (hzl : l ≤ 140737488355328) (hzb : Bytes w pa pz) :
    Calls Try.prog 118 #[layV n c pa l k err sn sc da dl dc ub, .pointer (some ⟨m, 0, none⟩)] w (AskOut w x ⟨2, n, c, l⟩ pz (missL X)) := by
  have HM : Hid (Mach w m a cap x t v) := hM
  have HT : Hid (Tal 150 ansU w ub bb at' ct X) := hT
  have HL : Hid (X.g.length ≤ 400000000000) := hl
  have HZ : Hid (pz.length = l) := hz
  have HZB : Hid (Bytes w pa pz) := hzb
  clear hM hT hl hz hzb
  obtain ⟨w1, hw1⟩ : ∃ w1, w1 = w.alloc (.cells #[.int .i64 n, .int .i64 c, .slice pa l k, .int .i64 err, .string ⟨#[]⟩, .int .i64 0, .int .i64 0, .int .i64 0, .slice none 0 0, .slice da dl dc, .int .i64 0, .int .i64 sn, .int .i64 sc, .int .i64 0, .pointer (some ⟨ub, 0, none⟩)] 195) := ⟨_, rfl⟩
  obtain ⟨N, hN⟩ : ∃ N, N = w.heap.size := ⟨_, rfl⟩
  have HK1 : Hid (Kept No w w1) := by rw [hw1]; exact (Kept.refl No w).alloc _
  have HX : Hid (Box w1 N 195 #[.int .i64 n, .int .i64 c, .slice pa l k, .int .i64 err, .string ⟨#[]⟩, .int .i64 0, .int .i64 0, .int .i64 0, .slice none 0 0, .slice da dl dc, .int .i64 0, .int .i64 sn, .int .i64 sc, .int .i64 0, .pointer (some ⟨ub, 0, none⟩)]) := by rw [hw1, hN]; exact Box.new _ _ _
  have HXc : Hid (∀ wr, Kept No w1 wr → wr.cell? ⟨N, 0, none⟩ = some (.int .i64 n) ∧ wr.cell? ⟨N, 1, none⟩ = some (.int .i64 c) ∧ wr.cell? ⟨N, 2, none⟩ = some (.slice pa l k) ∧ wr.cell? ⟨N, 14, none⟩ = some (.pointer (some ⟨ub, 0, none⟩))) := fun wr hk => by
    have h := HX.out.kept hk (fun e => e)
    exact ⟨h.cell 0, h.cell 1, h.cell 2, h.cell 14⟩
  unfold layV
  go_enter Try.func118, Try.ntmps118
  go_upto_region 1 with fail
  rw [← hw1, ← hN]
  clear hw1 hN
  obtain ⟨x0, x1, x2, x3⟩ := HXc.out w1 (Kept.refl _ _)
  have HKr : Hid (Kept No w1 w1.drew) := (Kept.refl No w1).drew
  go_region_held3 (fun w' => w'.cell? ⟨N, 0, none⟩ = some (.int .i64 n) ∧ w'.cell? ⟨N, 1, none⟩ = some (.int .i64 c) ∧ w'.cell? ⟨N, 2, none⟩ = some (.slice pa l k) ∧ w'.cell? ⟨N, 14, none⟩ = some (.pointer (some ⟨ub, 0, none⟩))) (go_keep) (first
    | (go_at_call 62
       refine Calls.mono (missing_anyU ub bb ct at' X w1.drew (HT.out.no (HK1.out.then HKr.out))) ?_
       rintro e w2 ⟨a2, c2, rfl, hO2, hk2⟩
       have HO2 : Hid (Own 3 1 w2 w1.heap.size a2 c2 (missL X).length ((missL X).map (Value.int .i64))) := hO2
       have HK2 : Hid (Kept No w1 w2) := HKr.out.then hk2
       have HL2 : Hid ((missL X).length ≤ 400000000000) := Nat.le_trans (missL_len X) HL.out
       obtain ⟨y0, y1, y2, y3⟩ := HXc.out w2 HK2.out
       clear hO2 hk2)
    | (go_at_call 109
       refine Calls.mono (ask_any m a cap x t v 2 n c pa l k pz a2 (missL X).length c2 (missL X) w2 (HM.out.no (HK1.out.then HK2.out)) HZ.out hzl (HZB.out.no (HK1.out.then HK2.out)) rfl HL2.out (HO2.out.nums rfl)) ?_
       rintro e w3 ⟨a3, c3, qs, rfl, hq, hm3, hk3⟩
       have HQ : Hid (qs.map Qm.sv = missL X) := hq
       have HM3 : Hid (Msgs w3 w2.heap.size a3 c3 x ⟨2, n, c, l⟩ pz qs) := hm3
       have HK3 : Hid (Kept No w1 w3) := HK2.out.then hk3
       obtain ⟨z0, z1, z2, z3⟩ := HXc.out w3 HK3.out
       clear hq hm3 hk3))
  go_wp2
  go_ret
  exact ⟨a3, c3, qs, rfl, HQ.out, HM3.out.lower (HK1.out.then HK2.out).size, HK1.out.then HK3.out⟩
set_option maxRecDepth 100000 in
set_option maxHeartbeats 2000000 in
theorem enterL_any (m : Nat) (a : Option Addr) (cap : Nat) (x : MS) (t : TypeId) (v : Value) (n c : Int) (pa : Option Addr) (l k : Nat) (err sn sc : Int) (da : Option Addr) (dl dc : Nat) (ub bb ct : Nat) (at' : Option Addr) (X : TS Unit) (pz : List Int) (w : World) (hM : Mach w m a cap x t v) (hT : Tal 150 ansU w ub bb at' ct X) (hl : X.g.length ≤ 400000000000) (hz : pz.length = l) (hzl : l ≤ 140737488355328) (hzb : Bytes w pa pz) (hd : ¬ TB ub bb at' m) (hpm : ¬ At pa m) :
    Calls Try.prog 96 #[.pointer (some ⟨m, 0, none⟩), .iface 195 (layV n c pa l k err sn sc da dl dc ub)] w (EnterOut w m a cap x 195 (layV n c pa l k err sn sc da dl dc ub) ⟨2, n, c, l⟩ pz (missL X)) := by
  have c9 := hM.box.cell 9
  have f9 := hM.box.frozen 9
  simp only [mC, List.getElem?_toArray, List.getElem?_cons_zero, List.getElem?_cons_succ] at c9
  have hm := meth_tickL n c pa l k err sn sc da dl dc ub
  have HTk : Hid (∀ w1, Mach w1 m a cap x 195 (layV n c pa l k err sn sc da dl dc ub) → Tal 150 ansU w1 ub bb at' ct X → Bytes w1 pa pz → Calls Try.prog 118 #[layV n c pa l k err sn sc da dl dc ub, .pointer (some ⟨m, 0, none⟩)] w1 (AskOut w1 x ⟨2, n, c, l⟩ pz (missL X))) := fun w1 h1 h2 h3 => tickL_any m a cap x _ _ n c pa l k err sn sc da dl dc ub bb ct at' X pz w1 h1 h2 hl hz hzl h3
  generalize layV n c pa l k err sn sc da dl dc ub = LVV at hm HTk ⊢
  obtain ⟨w1, hw1⟩ : ∃ w1, w1 = w.setCell ⟨m, 9, none⟩ (.iface 195 LVV) := ⟨_, rfl⟩
  have HM1 : Hid (Mach w1 m a cap x 195 LVV) := by rw [hw1]; exact hM.setPhase _ _
  have HK1 : Hid (Kept (Only m) w w1) := by rw [hw1]; exact (Kept.refl (Only m) w).setCell (p := ⟨m, 9, none⟩) (fun _ => rfl) _
  have HT1 : Hid (Tal 150 ansU w1 ub bb at' ct X) := hT.kept HK1.out (fun k hk e => hd (by have : k = m := e; rw [← this]; exact hk))
  have HB1 : Hid (Bytes w1 pa pz) := hzb.kept HK1.out (fun b off e h => hpm ⟨_, e, h⟩)
  clear hM hT hl hd hz hzb hpm
  go_enter Try.func96, Try.ntmps96
  go_wp2_with (go_at_call 118
               rw [← hw1]
               refine Calls.mono (HTk.out w1 HM1.out HT1.out HB1.out) ?_
               rintro e w3 ⟨a3, c3, qs, rfl, hq, hm3, hk3⟩
               have HQ : Hid (qs.map Qm.sv = missL X) := hq
               have HQ3 : Hid (Msgs w3 w.heap.size a3 c3 x ⟨2, n, c, l⟩ pz qs) := hm3.lower HK1.out.size
               have HM3 : Hid (Mach w3 m a cap x 195 LVV) := HM1.out.no hk3
               have HK3 : Hid (Kept (Only m) w w3) := HK1.out.then hk3.of_no
               clear hq hm3 hk3 hw1)
  go_ret
  exact ⟨a3, c3, qs, rfl, HQ.out, HQ3.out, HM3.out, HK3.out⟩
set_option maxRecDepth 100000 in
set_option maxHeartbeats 2000000 in
theorem machTickA_any (m : Nat) (a : Option Addr) (cap : Nat) (x : MS) (ai : TypeId) (av : Value) (tb bb ct : Nat) (at' : Option Addr) (X : TS Bk) (w : World) (hM : Mach w m a cap x 182 (.agg #[.iface ai av, .pointer (some ⟨tb, 0, none⟩)])) (hT : Tal 185 ansB w tb bb at' ct X) (hl : X.g.length ≤ 400000000000) :
    Calls Try.prog 86 #[.pointer (some ⟨m, 0, none⟩)] w (AskOut w x ⟨1, 0, 0, 0⟩ [] (missL X)) := by
  have c9 := hM.box.cell 9
  simp only [mC, List.getElem?_toArray, List.getElem?_cons_zero, List.getElem?_cons_succ] at c9
  have HC : Hid _ := tickA_any m a cap x _ _ ai av tb bb ct at' X w hM hT hl
  have hm := meth_tickA
  clear hM hT
  go_enter Try.func86, Try.ntmps86
  go_wp2_with (go_at_call 106
               refine Calls.mono HC.out ?_
               rintro e w3 ⟨a3, c3, qs, rfl, hO⟩
               have HO : Hid _ := hO
               clear hO)
  go_ret
  exact ⟨a3, c3, qs, rfl, HO.out⟩
set_option maxRecDepth 100000 in
set_option maxHeartbeats 2000000 in
theorem machTickL_any (m : Nat) (a : Option Addr) (cap : Nat) (x : MS) (n c : Int) (pa : Option Addr) (l k : Nat) (err sn sc : Int) (da : Option Addr) (dl dc : Nat) (ub bb ct : Nat) (at' : Option Addr) (X : TS Unit) (pz : List Int) (w : World) (hM : Mach w m a cap x 195 (layV n c pa l k err sn sc da dl dc ub)) (hT : Tal 150 ansU w ub bb at' ct X) (hl : X.g.length ≤ 400000000000) (hz : pz.length = l) (hzl : l ≤ 140737488355328) (hzb : Bytes w pa pz) :
    Calls Try.prog 86 #[.pointer (some ⟨m, 0, none⟩)] w (AskOut w x ⟨2, n, c, l⟩ pz (missL X)) := by
  have c9 := hM.box.cell 9
  simp only [mC, List.getElem?_toArray, List.getElem?_cons_zero, List.getElem?_cons_succ] at c9
  have HC : Hid _ := tickL_any m a cap x _ _ n c pa l k err sn sc da dl dc ub bb ct at' X pz w hM hT hl hz hzl hzb
  have hm := meth_tickL n c pa l k err sn sc da dl dc ub
  clear hM hT hzb
  generalize layV n c pa l k err sn sc da dl dc ub = LVV at hm HC c9
  go_enter Try.func86, Try.ntmps86
  go_wp2_with (go_at_call 118
               refine Calls.mono HC.out ?_
               rintro e w3 ⟨a3, c3, qs, rfl, hO⟩
               have HO : Hid _ := hO
               clear hO)
  go_ret
  exact ⟨a3, c3, qs, rfl, HO.out⟩
set_option maxRecDepth 100000 in
set_option maxHeartbeats 2000000 in
theorem machTickE_any (m : Nat) (a : Option Addr) (cap : Nat) (x : MS) (err sn sc : Int) (da : Option Addr) (dl dc : Nat) (w : World) (hM : Mach w m a cap x 177 (endV err sn sc da dl dc)) :
    Calls Try.prog 86 #[.pointer (some ⟨m, 0, none⟩)] w (fun e w' => e = .returned (.slice none 0 0) ∧ Kept No w w') := by
  have c9 := hM.box.cell 9
  simp only [mC, List.getElem?_toArray, List.getElem?_cons_zero, List.getElem?_cons_succ] at c9
  have hm := meth_tickE err sn sc da dl dc
  generalize endV err sn sc da dl dc = EV at hm c9
  clear hM
  go_enter Try.func86, Try.ntmps86
  go_wp2_with (go_at_call 94
               refine Calls.mono (tick0_any _ w) ?_
               rintro e w3 ⟨rfl, hk⟩
               have HK : Hid (Kept No w w3) := hk
               clear hk)
  go_ret
  exact ⟨rfl, HK.out⟩
end Go.Proofs.Ytgiokkcdgoloaaa
