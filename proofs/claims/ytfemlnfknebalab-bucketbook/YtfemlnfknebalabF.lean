import Derived.Test.YtfemlnfknebalabE
import Derived.Laws.OwnMore
namespace Go.Proofs.Ytfemlnfknebalab
open Go.RowKit
set_option linter.unusedVariables false
set_option linter.unusedSimpArgs false

/-- append onto a row of one's own. -/
theorem run_appN {w : World} (T ty E : TypeId) (c by' : Nat) (z : Value) (ht : Try.prog.underlying T = some (.slice E))
    (hinf : (Try.prog.info? E).map (fun i => (i.zero, i.size, i.bytes)) = some (some z, c, by')) (hzc : z.cells.size = c) (hc0 : 0 < c)
    (base n cap : Nat) (sa : Option Addr) (vs : List Value) (hown : Own E c w base sa cap n vs) (xa : Option Addr) (m cc : Nat) (news : List Value) (hl : news.length = m * c) (hx0 : xa = none → cc = 0) (hnews : ∀ j u, news[j]? = some u → ∃ ad, xa = some ad ∧ w.cell? (ad.add j) = some u) (h1 : ∀ u ∈ news, u.oneCell' = true) (hbd : (n + m) * by' ≤ 140737488355328) (hb63 : n + m ≤ 9223372036854775807) (hbase : base ≤ w.heap.size) :
    ∃ a' cap' w', (Builtin.append_ #[T, T] ty #[.slice sa n cap, .slice xa m cc]).run Try.prog w = .ok (.slice a' (n + m) cap') w' ∧ Own E c w' base a' cap' (n + m) (vs ++ news) ∧ Kept (At sa) w w' ∧ (∀ k, At a' k → At sa k ∨ k = w.heap.size) := by
  obtain ⟨i0, hi, hz0, hz1, hz2⟩ := info_parts hinf
  cases xa with
  | none =>
    have hm : m = 0 := by
      cases m with
      | zero => rfl
      | succ m =>
        have h0 : 0 < news.length := by rw [hl, Nat.succ_mul]; omega
        obtain ⟨ad, e, _⟩ := hnews 0 news[0] (List.getElem?_eq_getElem h0)
        cases e
    subst hm
    obtain rfl : news = [] := List.eq_nil_of_length_eq_zero (by simpa using hl)
    obtain rfl := hx0 rfl
    have hrun := run_append_owned_none (P := Try.prog) (w := w) base T ty E i0 c ht hi (.slice sa n cap) n vs hown
    exact ⟨sa, cap, w, hrun, by simpa using hown, Kept.refl _ _, fun k hk => .inl hk⟩
  | some ad =>
    obtain ⟨v', w', hrun, r1, r2, _, r4⟩ := run_append_own_at (P := Try.prog) (w := w) base T ty E i0 z c by' ht hi hz0 hz1 hz2 hzc hc0 (.slice sa n cap) n vs hown ad m cc news hl (fun j u hj => by obtain ⟨ad', e, h⟩ := hnews j u hj; cases e; exact h) h1 (by unfold maxLen; omega) hbd hbase
    have hk : Kept (At sa) w w' := (Kept.refl (At sa) w).grown r2 (fun k e hk => by
      cases sa with
      | none => cases e
      | some ad' => simp only [Value.ownBlock, Option.some.injEq] at e; exact ⟨ad', rfl, e⟩)
    rcases r1.2 with ⟨e, h0⟩ | ⟨g, cap', cur, e, _⟩
    · subst e
      refine ⟨none, 0, w', ?_, ?_, hk, fun k h => absurd h At.none⟩
      · rw [hrun, h0]
      · have := r1; rw [h0] at this ⊢; exact this
    · subst e
      refine ⟨some ⟨g, 0, none⟩, cap', w', hrun, r1, hk, ?_⟩
      rintro k ⟨ad2, e2, rfl⟩
      cases e2
      rcases r4 with e | e
      · left
        cases sa with
        | none => simp [Value.ownBlock] at e
        | some ad' => simp only [Value.ownBlock, Option.some.injEq] at e; exact ⟨ad', rfl, e.symm⟩
      · right; simpa [Value.ownBlock] using e
theorem exec_appN {o : Oper} {a : Act} {w w' : World} {v : Value} (s x : Operand) (T T' : TypeId) (ho : o.op = .call { callee := Callee.builtin Builtin.append, args := #[s, x], argTypes := #[T, T'] }) (vs vx : Value) (hs : a.eval s = vs) (hx : a.eval x = vx)
    (hrun : (Builtin.append_ #[T, T'] o.type #[vs, vx]).run Try.prog w = .ok v w') : (execOp a.eval o).run Try.prog w = .ok (.value v) w' := by
  simp [execOp, ho, resolve, invoke, builtin, hs, hx, hrun, Result.andThen]
/-- A list that can be read: the slice's value and what lies there. -/
structure RdE (w : World) (s : Sl) (es : List En) : Prop where
  row : Es w s.a es
  len : es.length = s.l
  cap : s.a = none → s.k = 0
structure RdL (w : World) (s : Sl) (es : List La) : Prop where
  row : Ls w s.a es
  len : es.length = s.l
  cap : s.a = none → s.k = 0
theorem RdE.kept {S : Nat → Prop} {w w' : World} {s : Sl} {es : List En} (h : RdE w s es) (hk : Kept S w w') (hS : ∀ k, At s.a k → ¬ S k) : RdE w' s es := ⟨RowsAt.kept h.row hk hS, h.len, h.cap⟩
theorem RdL.kept {S : Nat → Prop} {w w' : World} {s : Sl} {es : List La} (h : RdL w s es) (hk : Kept S w w') (hS : ∀ k, At s.a k → ¬ S k) : RdL w' s es := ⟨RowsAt.kept h.row hk hS, h.len, h.cap⟩
theorem RdE.no {w w' : World} {s : Sl} {es : List En} (h : RdE w s es) (hk : Kept No w w') : RdE w' s es := h.kept hk (fun _ _ e => e)
theorem RdL.no {w w' : World} {s : Sl} {es : List La} (h : RdL w s es) (hk : Kept No w w') : RdL w' s es := h.kept hk (fun _ _ e => e)
theorem RdE.src {w : World} {s : Sl} {es : List En} (h : RdE w s es) : ∀ (j : Nat) u, (enL es)[j]? = some u → ∃ ad, s.a = some ad ∧ w.cell? (ad.add j) = some u := by
  intro j u hj
  have hlt := (List.getElem?_eq_some_iff.1 hj).1
  rw [enL_len] at hlt
  have hi : j / 4 < es.length := by omega
  obtain ⟨b, off, e, hc⟩ := h.row.at hi
  refine ⟨_, e, ?_⟩
  have hj4 : j % 4 < (eAt es (j / 4)).cs.length := by have : (eAt es (j / 4)).cs.length = 4 := rfl; omega
  have := flat_get 4 (es.map En.cs) (enL_c es) (j / 4) (eAt es (j / 4)).cs (by rw [List.getElem?_map, eAt_some hi]; rfl) (j % 4) _ (List.getElem?_eq_getElem hj4)
  rw [show j / 4 * 4 + j % 4 = j by omega] at this
  have e2 : (eAt es (j / 4)).cs[j % 4]? = some u := by rw [List.getElem?_eq_getElem hj4, ← this]; exact hj
  rw [addr_add, show off + j = off + j / 4 * 4 + j % 4 by omega]
  exact hc _ _ e2
theorem RdL.src {w : World} {s : Sl} {es : List La} (h : RdL w s es) : ∀ (j : Nat) u, (laL es)[j]? = some u → ∃ ad, s.a = some ad ∧ w.cell? (ad.add j) = some u := by
  intro j u hj
  have hlt := (List.getElem?_eq_some_iff.1 hj).1
  rw [laL_len] at hlt
  have hi : j / 7 < es.length := by omega
  obtain ⟨b, off, e, hc⟩ := h.row.at hi
  refine ⟨_, e, ?_⟩
  have hj4 : j % 7 < (lAt es (j / 7)).cs.length := by have : (lAt es (j / 7)).cs.length = 7 := rfl; omega
  have := flat_get 7 (es.map La.cs) (laL_c es) (j / 7) (lAt es (j / 7)).cs (by rw [List.getElem?_map, lAt_some hi]; rfl) (j % 7) _ (List.getElem?_eq_getElem hj4)
  rw [show j / 7 * 7 + j % 7 = j by omega] at this
  have e2 : (lAt es (j / 7)).cs[j % 7]? = some u := by rw [List.getElem?_eq_getElem hj4, ← this]; exact hj
  rw [addr_add, show off + j = off + j / 7 * 7 + j % 7 by omega]
  exact hc _ _ e2
/-- A list that is one's own. -/
structure OwE (w : World) (base : Nat) (s : Sl) (es : List En) : Prop where
  own : Own 34 4 w base s.a s.k s.l (enL es)
  len : es.length = s.l
structure OwL (w : World) (base : Nat) (s : Sl) (es : List La) : Prop where
  own : Own 67 7 w base s.a s.k s.l (laL es)
  len : es.length = s.l
theorem Own.cap0 {t : TypeId} {c : Nat} {w : World} {base : Nat} {a : Option Addr} {cap n : Nat} {vs : List Value} (h : Own t c w base a cap n vs) (ha : a = none) : cap = 0 := by
  rcases h.cases h.1 with ⟨_, h, _⟩ | ⟨g, e, _⟩
  · exact h
  · rw [ha] at e; cases e
theorem OwE.rd {w : World} {base : Nat} {s : Sl} {es : List En} (h : OwE w base s es) : RdE w s es := ⟨Own.rows h.own (enL_c es) (by omega), h.len, h.own.cap0⟩
theorem OwL.rd {w : World} {base : Nat} {s : Sl} {es : List La} (h : OwL w base s es) : RdL w s es := ⟨Own.rows h.own (laL_c es) (by omega), h.len, h.own.cap0⟩
theorem OwE.kept {S : Nat → Prop} {w w' : World} {base : Nat} {s : Sl} {es : List En} (h : OwE w base s es) (hk : Kept S w w') (hS : ∀ k, At s.a k → ¬ S k) : OwE w' base s es := ⟨h.own.kept hk hS, h.len⟩
theorem OwL.kept {S : Nat → Prop} {w w' : World} {base : Nat} {s : Sl} {es : List La} (h : OwL w base s es) (hk : Kept S w w') (hS : ∀ k, At s.a k → ¬ S k) : OwL w' base s es := ⟨h.own.kept hk hS, h.len⟩
theorem OwE.no {w w' : World} {base : Nat} {s : Sl} {es : List En} (h : OwE w base s es) (hk : Kept No w w') : OwE w' base s es := h.kept hk (fun _ _ e => e)
theorem OwL.no {w w' : World} {base : Nat} {s : Sl} {es : List La} (h : OwL w base s es) (hk : Kept No w w') : OwL w' base s es := h.kept hk (fun _ _ e => e)
theorem OwE.nil (w : World) (base : Nat) : OwE w base slZ [] := ⟨Own.nil _ _ _ _, rfl⟩
theorem OwL.nil (w : World) (base : Nat) : OwL w base slZ [] := ⟨Own.nil _ _ _ _, rfl⟩
theorem OwE.lower {w : World} {base base' : Nat} {s : Sl} {es : List En} (h : OwE w base s es) (hb : base' ≤ base) : OwE w base' s es := ⟨h.own.lower hb, h.len⟩
theorem OwL.lower {w : World} {base base' : Nat} {s : Sl} {es : List La} (h : OwL w base s es) (hb : base' ≤ base) : OwL w base' s es := ⟨h.own.lower hb, h.len⟩
theorem Own.lt {t : TypeId} {c : Nat} {w : World} {base : Nat} {a : Option Addr} {cap n : Nat} {vs : List Value} (h : Own t c w base a cap n vs) {k : Nat} (hk : At a k) : k < w.heap.size := by
  rcases h.cases h.1 with ⟨rfl, _⟩ | ⟨g, rfl, _, hg, _⟩
  · exact absurd hk At.none
  · obtain ⟨ad, e, rfl⟩ := hk; cases e; exact hg
/-- Of unlike types: apart. -/
theorem Own.notBox {t : TypeId} {c : Nat} {w : World} {base : Nat} {a : Option Addr} {cap n : Nat} {vs : List Value} (h : Own t c w base a cap n vs) {g : Nat} {T : TypeId} {cs : Array Value} (hb : Box w g T cs) (hne : t ≠ T) : ¬ At a g := by
  rintro ⟨ad, e, rfl⟩
  rcases h.cases h.1 with ⟨rfl, _⟩ | ⟨g, rfl, _, hg, sp, hbx, _⟩
  · cases e
  · cases e
    exact box_ne hbx hb hne rfl
theorem Own.apart {t t' : TypeId} {c c' : Nat} {w : World} {base base' : Nat} {a a' : Option Addr} {cap n cap' n' : Nat} {vs vs' : List Value} (h : Own t c w base a cap n vs) (h' : Own t' c' w base' a' cap' n' vs') (hne : t ≠ t') {k : Nat} (hk : At a k) : ¬ At a' k := by
  rcases h.cases h.1 with ⟨rfl, _⟩ | ⟨g, rfl, _, hg, sp, hbx, _⟩
  · exact absurd hk At.none
  · obtain ⟨ad, e, rfl⟩ := hk
    cases e
    exact h'.notBox hbx (fun e => hne e.symm)
def CopOut (w : World) (up : Int) (es : List En) (ls : List La) (e : Ending) (w' : World) : Prop :=
  ∃ se sl : Sl, e = .returned (.agg (Bv.cells ⟨up, se, sl⟩)) ∧ OwE w' w.heap.size se es ∧ OwL w' w.heap.size sl ls ∧ Kept No w w'
set_option maxRecDepth 100000 in
set_option maxHeartbeats 4000000 in
theorem copied_any (up : Int) (ae : Option Addr) (ne ce : Nat) (al : Option Addr) (nl cl : Nat) (es : List En) (ls : List La) (w : World) (hbe : ne * 40 ≤ 140737488355328) (hbl : nl * 56 ≤ 140737488355328) (he : RdE w ⟨ae, ne, ce⟩ es) (hl : RdL w ⟨al, nl, cl⟩ ls) : Calls Try.prog 23 #[.agg (Bv.cells ⟨up, ⟨ae, ne, ce⟩, ⟨al, nl, cl⟩⟩)] w (CopOut w up es ls) := by
  obtain ⟨C, hC⟩ : ∃ C : Ending → World → Prop, C = (CopOut w up es ls) := ⟨_, rfl⟩
  have HC : Hid (C = (CopOut w up es ls)) := hC
  rw [← hC]
  clear hC
  have HE : Hid (RdE w ⟨ae, ne, ce⟩ es) := he
  have HL : Hid (RdL w ⟨al, nl, cl⟩ ls) := hl
  clear he hl
  have HF : Hid (Fr No w w []) := Fr.start _ _
  go_enter Try.func23, Try.ntmps23
  go_upto_region 0 with fail
  refine WL.start ?_
  refine wp_runW (.pointer (some ⟨w.heap.size, 0, none⟩)) (w.alloc (.cells (Bv.cells ⟨up, ⟨ae, ne, ce⟩, ⟨al, nl, cl⟩⟩) 26)) (exec_box 26 _ rfl (Bv.cells ⟨up, ⟨ae, ne, ce⟩, ⟨al, nl, cl⟩⟩) (by kernel_rfl)) (by kernel_rfl) ?_
  try simp only [pA, pB, p1, p2, p3]
  have HF : Hid (Fr No w (w.alloc (.cells (Bv.cells ⟨up, ⟨ae, ne, ce⟩, ⟨al, nl, cl⟩⟩) 26)) [(w.heap.size, 26, Bv.cells ⟨up, ⟨ae, ne, ce⟩, ⟨al, nl, cl⟩⟩)]) := HF.out.alloc _ _
  generalize w.alloc (.cells (Bv.cells ⟨up, ⟨ae, ne, ce⟩, ⟨al, nl, cl⟩⟩) 26) = wk2 at HF ⊢
  generalize w.heap.size = gk1 at HF ⊢
  refine wp_runW (.pointer (some ⟨wk2.heap.size, 0, none⟩)) (wk2.alloc (.cells (Bv.cells bvZ) 26)) (exec_alloc 26 rfl (Bv.cells bvZ) zero25) (by kernel_rfl) ?_
  try simp only [pA, pB, p1, p2, p3]
  have HF : Hid (Fr No w (wk2.alloc (.cells (Bv.cells bvZ) 26)) [(gk1, 26, Bv.cells ⟨up, ⟨ae, ne, ce⟩, ⟨al, nl, cl⟩⟩), (wk2.heap.size, 26, Bv.cells bvZ)]) := HF.out.alloc _ _
  generalize wk2.alloc (.cells (Bv.cells bvZ) 26) = wk4 at HF ⊢
  generalize wk2.heap.size = gk3 at HF ⊢
  refine WL.nil ?_
  try simp only [pA, pB, p1, p2, p3]
  go_upto_region 1 with fail
  refine WL.start ?_
  refine tK (.pointer (some ⟨gk1, 1, none⟩)) ?_
  try simp only [pA, pB, p1, p2, p3]
  refine tW (.slice ae ne ce) (exec_load 23 _ rfl ⟨gk1, 1, none⟩ (by kernel_rfl) (.slice ae ne ce) (ld22 ((HF.out.box 0 _ _ _ rfl).cell 1))) ?_
  try simp only [pA, pB, p1, p2, p3]
  obtain ⟨aE, cE, wk5, hrun, hO, hk, hA⟩ := run_appN (w := wk4) 23 23 34 4 40 (.agg enZ.cells) Try.und22 Try.info54 rfl (by omega) w.heap.size 0 0 none [] (Own.nil _ _ _ _) ae ne ce (enL es) (by rw [enL_len, (HE.out).len]) (HE.out).cap (HE.out.no HF.out.kept).src (enL_one _) (by omega) (by omega) HF.out.kept.size
  rw [Nat.zero_add] at hrun hO
  have hkn : Kept No wk4 wk5 := hk.mono (fun _ _ e => absurd e At.none)
  refine wp_runW (.slice aE ne cE) wk5 (exec_appN _ _ 23 23 rfl _ _ (by kernel_rfl) (by kernel_rfl) hrun) (by kernel_rfl) ?_
  try simp only [pA, pB, p1, p2, p3]
  have HF : Hid (Fr No w (wk5) [(gk1, 26, Bv.cells ⟨up, ⟨ae, ne, ce⟩, ⟨al, nl, cl⟩⟩), (gk3, 26, Bv.cells bvZ)]) := HF.out.no hkn
  have HOE : Hid (OwE wk5 w.heap.size ⟨aE, ne, cE⟩ es) := ⟨hO, HE.out.len⟩
  clear hrun hO hk hA hkn
  refine tK (.pointer (some ⟨gk1, 1, none⟩)) ?_
  try simp only [pA, pB, p1, p2, p3]
  refine wp_storeW 23 _ _ rfl ⟨gk1, 1, none⟩ (.slice aE ne cE) (by kernel_rfl) (by kernel_rfl) (wk5.setRow gk1 (Bv.cells ⟨up, ⟨aE, ne, cE⟩, ⟨al, nl, cl⟩⟩)) (run_store_at (cur := Bv.cs ⟨up, ⟨ae, ne, ce⟩, ⟨al, nl, cl⟩⟩) (vs := [.slice aE ne cE]) (HF.out.box 0 _ _ _ rfl) rfl Try.size22 (by exact Nat.le_of_ble_eq_true rfl) (by simp [Value.oneCell'])) (by kernel_rfl) ?_
  try simp only [pA, pB, p1, p2, p3]
  have HOE : Hid (OwE (wk5.setRow gk1 (Bv.cells ⟨up, ⟨aE, ne, cE⟩, ⟨al, nl, cl⟩⟩)) w.heap.size ⟨aE, ne, cE⟩ es) := HOE.out.kept (Kept.setRow _ _ _) (fun k h e => (HOE.out.own.notBox (HF.out.box 0 _ _ _ rfl) (by decide)) ((show k = gk1 from e) ▸ h))
  have HF : Hid (Fr No w (wk5.setRow gk1 (Bv.cells ⟨up, ⟨aE, ne, cE⟩, ⟨al, nl, cl⟩⟩)) [(gk1, 26, Bv.cells ⟨up, ⟨aE, ne, cE⟩, ⟨al, nl, cl⟩⟩), (gk3, 26, Bv.cells bvZ)]) := HF.out.set 0 rfl _
  generalize wk5.setRow gk1 (Bv.cells ⟨up, ⟨aE, ne, cE⟩, ⟨al, nl, cl⟩⟩) = wk6 at HF HOE ⊢
  refine WL.nil ?_
  try simp only [pA, pB, p1, p2, p3]
  go_upto_region 2 with fail
  refine WL.start ?_
  refine tK (.pointer (some ⟨gk1, 2, none⟩)) ?_
  try simp only [pA, pB, p1, p2, p3]
  refine tW (.slice al nl cl) (exec_load 24 _ rfl ⟨gk1, 2, none⟩ (by kernel_rfl) (.slice al nl cl) (ld23 ((HF.out.box 0 _ _ _ rfl).cell 2))) ?_
  try simp only [pA, pB, p1, p2, p3]
  obtain ⟨aL, cL, wk7, hrun, hO, hk, hA⟩ := run_appN (w := wk6) 24 24 67 7 56 (.agg laZ.cells) Try.und23 Try.info64 rfl (by omega) w.heap.size 0 0 none [] (Own.nil _ _ _ _) al nl cl (laL ls) (by rw [laL_len, (HL.out).len]) (HL.out).cap (HL.out.no HF.out.kept).src (laL_one _) (by omega) (by omega) HF.out.kept.size
  rw [Nat.zero_add] at hrun hO
  have hkn : Kept No wk6 wk7 := hk.mono (fun _ _ e => absurd e At.none)
  refine wp_runW (.slice aL nl cL) wk7 (exec_appN _ _ 24 24 rfl _ _ (by kernel_rfl) (by kernel_rfl) hrun) (by kernel_rfl) ?_
  try simp only [pA, pB, p1, p2, p3]
  have HOE : Hid (OwE (wk7) w.heap.size ⟨aE, ne, cE⟩ es) := HOE.out.no hkn
  have HF : Hid (Fr No w (wk7) [(gk1, 26, Bv.cells ⟨up, ⟨aE, ne, cE⟩, ⟨al, nl, cl⟩⟩), (gk3, 26, Bv.cells bvZ)]) := HF.out.no hkn
  have HOL : Hid (OwL wk7 w.heap.size ⟨aL, nl, cL⟩ ls) := ⟨hO, HL.out.len⟩
  clear hrun hO hk hA hkn
  refine tK (.pointer (some ⟨gk1, 2, none⟩)) ?_
  try simp only [pA, pB, p1, p2, p3]
  refine wp_storeW 24 _ _ rfl ⟨gk1, 2, none⟩ (.slice aL nl cL) (by kernel_rfl) (by kernel_rfl) (wk7.setRow gk1 (Bv.cells ⟨up, ⟨aE, ne, cE⟩, ⟨aL, nl, cL⟩⟩)) (run_store_at (cur := Bv.cs ⟨up, ⟨aE, ne, cE⟩, ⟨al, nl, cl⟩⟩) (vs := [.slice aL nl cL]) (HF.out.box 0 _ _ _ rfl) rfl Try.size23 (by exact Nat.le_of_ble_eq_true rfl) (by simp [Value.oneCell'])) (by kernel_rfl) ?_
  try simp only [pA, pB, p1, p2, p3]
  have HOE : Hid (OwE (wk7.setRow gk1 (Bv.cells ⟨up, ⟨aE, ne, cE⟩, ⟨aL, nl, cL⟩⟩)) w.heap.size ⟨aE, ne, cE⟩ es) := HOE.out.kept (Kept.setRow _ _ _) (fun k h e => (HOE.out.own.notBox (HF.out.box 0 _ _ _ rfl) (by decide)) ((show k = gk1 from e) ▸ h))
  have HOL : Hid (OwL (wk7.setRow gk1 (Bv.cells ⟨up, ⟨aE, ne, cE⟩, ⟨aL, nl, cL⟩⟩)) w.heap.size ⟨aL, nl, cL⟩ ls) := HOL.out.kept (Kept.setRow _ _ _) (fun k h e => (HOL.out.own.notBox (HF.out.box 0 _ _ _ rfl) (by decide)) ((show k = gk1 from e) ▸ h))
  have HF : Hid (Fr No w (wk7.setRow gk1 (Bv.cells ⟨up, ⟨aE, ne, cE⟩, ⟨aL, nl, cL⟩⟩)) [(gk1, 26, Bv.cells ⟨up, ⟨aE, ne, cE⟩, ⟨aL, nl, cL⟩⟩), (gk3, 26, Bv.cells bvZ)]) := HF.out.set 0 rfl _
  generalize wk7.setRow gk1 (Bv.cells ⟨up, ⟨aE, ne, cE⟩, ⟨aL, nl, cL⟩⟩) = wk8 at HF HOE HOL ⊢
  refine WL.nil ?_
  try simp only [pA, pB, p1, p2, p3]
  go_upto_region 3 with fail
  refine WL.start ?_
  refine tW (.agg (Bv.cells ⟨up, ⟨aE, ne, cE⟩, ⟨aL, nl, cL⟩⟩)) (exec_load 26 _ rfl ⟨gk1, 0, none⟩ (by kernel_rfl) (.agg (Bv.cells ⟨up, ⟨aE, ne, cE⟩, ⟨aL, nl, cL⟩⟩)) (ld25 (HF.out.box 0 _ _ _ rfl))) ?_
  try simp only [pA, pB, p1, p2, p3]
  refine wp_storeW 26 _ _ rfl ⟨gk3, 0, none⟩ (.agg (Bv.cells ⟨up, ⟨aE, ne, cE⟩, ⟨aL, nl, cL⟩⟩)) (by kernel_rfl) (by kernel_rfl) (wk8.setRow gk3 (Bv.cells ⟨up, ⟨aE, ne, cE⟩, ⟨aL, nl, cL⟩⟩)) (st25 (HF.out.box 1 _ _ _ rfl) rfl) (by kernel_rfl) ?_
  try simp only [pA, pB, p1, p2, p3]
  have HOE : Hid (OwE (wk8.setRow gk3 (Bv.cells ⟨up, ⟨aE, ne, cE⟩, ⟨aL, nl, cL⟩⟩)) w.heap.size ⟨aE, ne, cE⟩ es) := HOE.out.kept (Kept.setRow _ _ _) (fun k h e => (HOE.out.own.notBox (HF.out.box 1 _ _ _ rfl) (by decide)) ((show k = gk3 from e) ▸ h))
  have HOL : Hid (OwL (wk8.setRow gk3 (Bv.cells ⟨up, ⟨aE, ne, cE⟩, ⟨aL, nl, cL⟩⟩)) w.heap.size ⟨aL, nl, cL⟩ ls) := HOL.out.kept (Kept.setRow _ _ _) (fun k h e => (HOL.out.own.notBox (HF.out.box 1 _ _ _ rfl) (by decide)) ((show k = gk3 from e) ▸ h))
  have HF : Hid (Fr No w (wk8.setRow gk3 (Bv.cells ⟨up, ⟨aE, ne, cE⟩, ⟨aL, nl, cL⟩⟩)) [(gk1, 26, Bv.cells ⟨up, ⟨aE, ne, cE⟩, ⟨aL, nl, cL⟩⟩), (gk3, 26, Bv.cells ⟨up, ⟨aE, ne, cE⟩, ⟨aL, nl, cL⟩⟩)]) := HF.out.set 1 rfl _
  generalize wk8.setRow gk3 (Bv.cells ⟨up, ⟨aE, ne, cE⟩, ⟨aL, nl, cL⟩⟩) = wk9 at HF HOE HOL ⊢
  refine WL.nil ?_
  try simp only [pA, pB, p1, p2, p3]
  go_wp2
  rw [HC.out]
  refine bodyPost_ret (results_row1 (by rfl) _ _ gk3 (Bv.cells ⟨up, ⟨aE, ne, cE⟩, ⟨aL, nl, cL⟩⟩) (by rfl) (ld25 (HF.out.box 1 _ _ _ rfl))) rfl ?_
  exact ⟨_, _, rfl, HOE.out, HOL.out, HF.out.kept⟩

end Go.Proofs.Ytfemlnfknebalab
