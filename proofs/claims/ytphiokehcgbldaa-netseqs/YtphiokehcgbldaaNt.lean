import Derived.Test.YtphiokehcgbldaaNr
import Derived.Maps.AppendAt
namespace Go.Proofs.Ytphiokehcgbldaa
open Go.RowKit Go.Shelf
set_option linter.unusedVariables false
set_option linter.unusedSimpArgs false

attribute [local go_sem] Oper.semAt_some
theorem wpIn_appV {F : Fence} {nf : Nat} {ops : Array Oper} {rest : List Oper} {o : Oper} {a : Act} {w : World} {Q : Exit → Act → World → Prop} (hg : o.guard = none) (s x : Operand) (T E : TypeId) (c by' : Nat) (z : Value) (ht : Try.prog.underlying T = some (.slice E))
    (hinf : (Try.prog.info? E).map (fun i => (i.zero, i.size, i.bytes)) = some (some z, c, by')) (hzc : z.cells.size = c) (hc0 : 0 < c) (ho : o.op = .call { callee := Callee.builtin Builtin.append, args := #[s, x], argTypes := #[T, T] })
    (base n cap : Nat) (sa : Option Addr) (vs : List Value) (hs : a.eval s = .slice sa n cap) (hown : Own E c w base sa cap n vs) (ad : Addr) (m cc : Nat) (news : List Value) (hx : a.eval x = .slice (some ad) m cc) (hl : news.length = m * c) (hnews : ∀ j u, news[j]? = some u → w.cell? (ad.add j) = some u) (h1 : ∀ u ∈ news, u.oneCell' = true) (hbd : (n + m) * by' ≤ 140737488355328) (hb63 : n + m ≤ 9223372036854775807) (hm : 0 < m) (hbase : base ≤ w.heap.size) (k : Nat) (hk : n + m = k)
    (h : ∀ g' cap' w', Hid (Own E c w' base (some ⟨g', 0, none⟩) cap' k (vs ++ news)) → Hid (Kept (At sa) w w') → Hid (KeepsOthers w w') → Hid (At sa g' ∨ g' = w.heap.size) → wpListIn F nf Try.prog ops Q rest (a.put o.dst (.slice (some ⟨g', 0, none⟩) k cap')) w') : wpListIn F nf Try.prog ops Q (o :: rest) a w := by
  subst hk
  obtain ⟨i0, hi, hz0, hz1, hz2⟩ := info_parts hinf
  obtain ⟨v', w', hrun, r1, r2, _, r4⟩ := run_append_own_at (P := Try.prog) (w := w) base T o.type E i0 z c by' ht hi hz0 hz1 hz2 hzc hc0 (.slice sa n cap) n vs hown ad m cc news hl hnews h1 (by unfold maxLen; omega) hbd hbase
  have hk : Kept (At sa) w w' := (Kept.refl (At sa) w).grown r2 (fun k e hk => by
    cases sa with
    | none => cases e
    | some ad' => simp only [Value.ownBlock, Option.some.injEq] at e; exact ⟨ad', rfl, e⟩)
  have hko : KeepsOthers w w' := KeepsOthers.of_grownBy r2 fun j o ej hj => by
    rcases hown.2 with ⟨e, _⟩ | ⟨g, cap, cur, e, _, hgb, _⟩
    · rw [e] at ej; simp [Value.ownBlock] at ej
    · rw [e] at ej
      obtain rfl : g = j := by simpa [Value.ownBlock] using ej
      rw [hgb] at hj; cases hj; rfl
  rcases r1.2 with ⟨e, h0⟩ | ⟨g, cap', cur, e, _⟩
  · omega
  · subst e
    have h4 : At sa g ∨ g = w.heap.size := by
      rcases r4 with e | e
      · left
        cases sa with
        | none => simp [Value.ownBlock] at e
        | some ad' => simp only [Value.ownBlock, Option.some.injEq] at e; exact ⟨ad', rfl, e.symm⟩
      · right; simpa [Value.ownBlock] using e
    refine wpListIn_plain hg fun K hK' => ?_
    unfold Oper.wpIn
    refine ⟨?_, ?_⟩
    · simp [Oper.about, ho, resolve, Target.leads, Sem.run_pure]
    · rw [Oper.semAt_plain F _ _ (by rw [ho]; intro c hc'; cases hc')]
      simp [execOp, ho, resolve, invoke, builtin, hs, hx, hrun, Result.andThen]
      exact hK' _ _ (h g cap' w' r1 hk hko h4)


/-- Told packets: the bytes of each lie in memory of their own. -/
structure TpN (w : World) (lo : Nat) (xs : List Tp) : Prop where
  own : ∀ x ∈ xs, OwnB w lo x.a x.c x.q.zs
  dis : xs.Pairwise (fun x y => ∀ k, At x.a k → ¬ At y.a k)
theorem own_off {t t' : TypeId} {c c' : Nat} {w : World} {b b' : Nat} {a a' : Option Addr} {cap cap' n n' : Nat} {vs vs' : List Value} (h : Own t c w b a cap n vs) (h' : Own t' c' w b' a' cap' n' vs') (ht : t ≠ t') {k : Nat} (e : At a k) (f : At a' k) : False := by
  obtain ⟨c1, h1⟩ := Gx.own_type h e
  obtain ⟨c2, h2⟩ := Gx.own_type h' f
  rw [h1] at h2
  simp only [Option.some.injEq, Obj.cells.injEq] at h2
  exact ht h2.2.1
theorem TpN.nil (w : World) (lo : Nat) : TpN w lo [] := ⟨fun x h => by simp at h, List.Pairwise.nil⟩
theorem TpN.kept {S : Nat → Prop} {w w' : World} {lo : Nat} {xs : List Tp} (h : TpN w lo xs) (hk : Kept S w w') (hS : ∀ x ∈ xs, ∀ k, At x.a k → ¬ S k) : TpN w' lo xs :=
  ⟨fun x hx => (h.own x hx).kept hk (hS x hx), h.dis⟩
theorem TpN.no {w w' : World} {lo : Nat} {xs : List Tp} (h : TpN w lo xs) (hk : Kept No w w') : TpN w' lo xs := h.kept hk (fun _ _ _ _ e => e)
theorem TpN.lower {w : World} {lo lo' : Nat} {xs : List Tp} (h : TpN w lo xs) (hl : lo' ≤ lo) : TpN w lo' xs := ⟨fun x hx => Own.lower (h.own x hx) hl, h.dis⟩
theorem TpN.add {w w' : World} {lo : Nat} {xs : List Tp} {x : Tp} (h : TpN w lo xs) (hk : Kept No w w') (hO : OwnB w' w.heap.size x.a x.c x.q.zs) (hl : lo ≤ w.heap.size) : TpN w' lo (xs ++ [x]) where
  own := fun y hy => by
    rcases List.mem_append.1 hy with hy | hy
    · exact (h.own y hy).no hk
    · rw [List.mem_singleton.1 hy]; exact Own.lower hO hl
  dis := by
    rw [List.pairwise_append]
    refine ⟨h.dis, List.pairwise_singleton _ _, fun y hy z hz k hk1 hk2 => ?_⟩
    rw [List.mem_singleton.1 hz] at hk2
    have h1 := Own.ltA (h.own y hy) hk1
    have h2 := Own.base hO hk2
    omega
def pkL (x : Tp) : List Value := [.bool x.q.nm.1.1, .int .i64 x.q.nm.1.2, .int .i64 x.q.nm.2, .bool x.q.to'.1, .int .i64 x.q.to'.2, .slice x.a x.q.zs.length x.c]
theorem und26 : Try.prog.underlying 26 = some (.slice 44) := by kernel_rfl
theorem info44 : (Try.prog.info? 44).map (fun i => (i.zero, i.size, i.bytes)) = some (some (.agg #[.bool false, .int .i64 0, .int .i64 0, .bool false, .int .i64 0, .slice none 0 0]), 6, 64) := by kernel_rfl
def LsOut (w : World) (s : Ns) (e : Ending) (w' : World) : Prop :=
  ∃ la lc xs, e = .returned (.tuple #[.slice la s.L.length lc, .bool true]) ∧ xs.map Tp.q = s.L ∧ Own 44 6 w' w.heap.size la lc s.L.length (xs.flatMap pkL) ∧ TpN w' w.heap.size xs ∧ Kept No w w'
def LsI (w : World) (B : Nat) (xs : List Tp) (W : World) : Prop :=
  ∃ la lc, Box W w.heap.size 26 #[.slice la xs.length lc] ∧ Own 44 6 W (B + 2) la lc xs.length (xs.flatMap pkL) ∧ TpN W (B + 2) xs ∧ Kept No w W
theorem LsI.kept {w W W' : World} {B : Nat} {xs : List Tp} {S : Nat → Prop} (h : LsI w B xs W) (hk : Kept S W W') (hB : w.heap.size < B) (hS : ∀ k, S k → k = B ∨ k = B + 1) : LsI w B xs W' := by
  obtain ⟨la, lc, h1, h2, h3, h4⟩ := h
  refine ⟨la, lc, h1.kept hk (fun e => by have := hS _ e; omega), h2.kept hk (fun k e f => ?_), h3.kept hk (fun x hx k e f => ?_), h4.trans hk (fun _ e => e) (fun i hi e => by have := hS _ e; omega)⟩
  · have := Own.base h2 e; have := hS _ f; omega
  · have := Own.base (h3.own x hx) e; have := hS _ f; omega
set_option maxRecDepth 100000 in
set_option maxHeartbeats 4000000 in
theorem listed_any {I : Nat → Prop} {n : Nat} {s : Ns} (w : World) (hN : NetM w n s I) (hs : Sml s) : Calls Try.prog 26 #[.pointer (some ⟨n, 0, none⟩)] w (LsOut w s) := by
  obtain ⟨C, hC⟩ : ∃ C : Ending → World → Prop, C = LsOut w s := ⟨_, rfl⟩
  have HC : Hid (C = LsOut w s) := hC
  rw [← hC]
  clear hC
  have HN : Hid (NetM w n s I) := hN
  have HS : Hid (Sml s) := hs
  clear hN hs
  refine (callsIn_wide (n := 3)).1 ?_
  refine callsIn_of_wp_marks Try.func26 rfl trivial ?_ rfl
  refine wpIn_wide.2 ?_
  simp only [Try.ntmps26, List.size_toArray, List.length_cons, List.length_nil, Nat.reduceAdd, Nat.reduceSub, Array.replicate_succ, Array.replicate_zero, List.push_toArray, List.append_toArray, List.nil_append, List.cons_append]
  go_wp2_with (go_at_call 21; refine (under_any (s := s) (I := I) _ (HN.out.no ((Kept.refl No w).alloc _)) HS.out.1).mono ?_; intro e w1 hu; obtain ⟨lb, ra, rc, P, rfl, hsq, hof, hk⟩ := hu.use HN.out ((Kept.refl No w).alloc _); have HU : Hid (SeqN w1 lb ra rc s.L P s.L ∧ (∀ k, SqB lb ra s.L k → k ≠ w.heap.size ∧ k < w1.heap.size) ∧ Kept No w w1 ∧ Box w1 w.heap.size 26 #[.slice none 0 0]) := ⟨hsq, (fun k h => ⟨fun e => by have := hof k h; simp at this; omega, hsq.lt h⟩), ((Kept.refl No w).alloc _).then hk, Box.kept (Box.new w 26 #[.slice none 0 0]) hk (fun e => e)⟩; have heq := eqFn lb w1; clear hsq hof hk hu)
  refine (wpIn_wide (n := 3)).1 ?_
  clear heq
  have hlt := HU.out.2.2.2.lt
  have hL : s.L.length ≤ 1000000000000 := by have := len_came HN.out.ok; have := HS.out.1; omega
  refine' rf_net (by omega) (lb := lb) rfl HU.out.1 (by omega) HS.out.2 (LsI w w1.heap.size) (fun _ _ _ => False) ⟨none, 0, HU.out.2.2.2, Own.nil _ _ _ _, TpN.nil _ _, HU.out.2.2.1⟩ ?hI (fun _ _ _ _ h _ => h) ?round ?done ?stop
  case hI => exact fun xs W W' h hk => h.kept hk hlt (fun k e => e)
  case stop => exact fun _ _ _ h => h.elim
  case round =>
    intro pre x W0 W1 hi hk01 hO hp hl0 hsq hlo
    have HT1 : Hid (TpN W1 (w1.heap.size + 2) (pre ++ [x])) := by obtain ⟨la, lc, h1, h2, h3, h4⟩ := hi; exact h3.add hk01 hO (by omega)
    obtain ⟨la, lc, h1, h2, h3, h4⟩ := hi
    have HI1 : Hid (Box W1 w.heap.size 26 #[.slice la pre.length lc] ∧ Own 44 6 W1 (w1.heap.size + 2) la lc pre.length (pre.flatMap pkL) ∧ Kept No w W1) := ⟨h1.kept hk01 (fun e => e), h2.no hk01, h4.then hk01⟩
    have hl1 : w1.heap.size + 1 < W1.heap.size := Nat.lt_of_lt_of_le hl0 hk01.size
    have hpl : pre.length < s.L.length := (List.getElem?_eq_some_iff.1 hp).1
    clear h1 h2 h3 h4 hO hp hl0 hsq hlo
    simp only [tdV]
    gi_wp2
    refine ⟨(Kept.refl _ W1).alloc _, fun Wb hkb hlo' => ?_⟩
    have hne : ∀ k, k ≠ w1.heap.size + 1 → ¬ Only (w1.heap.size + 1) k := fun k h e => h e
    have HBb : Hid (Box Wb w.heap.size 26 #[.slice la pre.length lc] ∧ Own 44 6 Wb (w1.heap.size + 2) la lc pre.length (pre.flatMap pkL) ∧ Kept No w Wb ∧ TpN Wb (w1.heap.size + 2) (pre ++ [x]) ∧ Box Wb W1.heap.size 44 #[.bool x.q.nm.1.1, .int .i64 x.q.nm.1.2, .int .i64 x.q.nm.2, .bool x.q.to'.1, .int .i64 x.q.to'.2, .slice x.a x.q.zs.length x.c] ∧ W1.heap.size < Wb.heap.size) := by
      refine ⟨(HI1.out.1.alloc _).kept hkb (hne _ (by omega)), (HI1.out.2.1.no ((Kept.refl No W1).alloc _)).kept hkb (fun k e => hne k (by have := Own.base HI1.out.2.1 e; omega)), (HI1.out.2.2.alloc _).trans hkb (fun _ e => e) (fun i hi e => by have e : i = w1.heap.size + 1 := e; omega), (HT1.out.no ((Kept.refl No W1).alloc _)).kept hkb (fun y hy k e => hne k (by have := Own.base (HT1.out.own y hy) e; omega)), (Box.new W1 44 _).kept hkb (hne _ (by omega)), ?_⟩
      have := hkb.size; simp at this; omega
    clear HI1 HT1 hkb hlo' hne hk01
    have e1 : Wb.cell? ⟨w.heap.size, 0, none⟩ = some (.slice la pre.length lc) := HBb.out.1.cell 0
    have v0 : Wb.cell? ⟨W1.heap.size, 0, none⟩ = some (.bool x.q.nm.1.1) := HBb.out.2.2.2.2.1.cell 0
    have v1 : Wb.cell? ⟨W1.heap.size, 1, none⟩ = some (.int .i64 x.q.nm.1.2) := HBb.out.2.2.2.2.1.cell 1
    have v2 : Wb.cell? ⟨W1.heap.size, 2, none⟩ = some (.int .i64 x.q.nm.2) := HBb.out.2.2.2.2.1.cell 2
    have v3 : Wb.cell? ⟨W1.heap.size, 3, none⟩ = some (.bool x.q.to'.1) := HBb.out.2.2.2.2.1.cell 3
    have v4 : Wb.cell? ⟨W1.heap.size, 4, none⟩ = some (.int .i64 x.q.to'.2) := HBb.out.2.2.2.2.1.cell 4
    have v5 : Wb.cell? ⟨W1.heap.size, 5, none⟩ = some (.slice x.a x.q.zs.length x.c) := HBb.out.2.2.2.2.1.cell 5
    gi_wp2_with (first
      | (gi_at_builtin
         refine wpIn_appV rfl _ _ 26 44 6 64 _ und26 info44 rfl (by omega) rfl (w1.heap.size + 2) _ lc la _ rfl (HBb.out.2.1.no ((Kept.refl No Wb).alloc _)) ⟨Wb.heap.size, 0, none⟩ 1 1 [.bool x.q.nm.1.1, .int .i64 x.q.nm.1.2, .int .i64 x.q.nm.2, .bool x.q.to'.1, .int .i64 x.q.to'.2, .slice x.a x.q.zs.length x.c] rfl rfl (cell_newC _ _ _) (by simp [Value.oneCell']) (by omega) (by omega) (by omega) (by have := HBb.out.2.2.2.2.2; simp; omega) (pre.length + 1) rfl ?_
         intro g1 d1 w4 HO4 HK4 HKo4 HAt4
         have HK14 : Hid (Kept (At la) Wb w4) := (((Kept.refl No Wb).alloc _).of_no).then HK4.out
         have HB4 : Hid (Box w4 w.heap.size 26 #[.slice la pre.length lc]) := HBb.out.1.kept HK14.out (fun e => by have := HBb.out.2.1.base e; omega)
         have f1 := HB4.out.frozen 0
         have e1' : w4.cell? ⟨w.heap.size, 0, none⟩ = some (.slice la pre.length lc) := HB4.out.cell 0
         clear e1 v0 v1 v2 v3 v4 v5))
    have hs4 : Kept (Only w.heap.size) w4 (w4.setCell ⟨w.heap.size, 0, none⟩ (.slice (some ⟨g1, 0, none⟩) (pre.length + 1) d1)) := (Kept.refl (Only w.heap.size) w4).setCell (p := ⟨w.heap.size, 0, none⟩) (fun _ => rfl) _
    have hbx := HB4.out.set 0 (.slice (some ⟨g1, 0, none⟩) (pre.length + 1) d1)
    have hk7 : Kept (fun k => k = w.heap.size ∨ w1.heap.size + 2 ≤ k) Wb (w4.setCell ⟨w.heap.size, 0, none⟩ (.slice (some ⟨g1, 0, none⟩) (pre.length + 1) d1)) := (HK14.out.mono (fun i _ e => .inr (HBb.out.2.1.base e))).then (hs4.mono (fun i _ e => .inl e))
    refine ⟨hk7.mono (fun i _ e f => ?_), some ⟨g1, 0, none⟩, d1, ?_, ?_, ?_, HBb.out.2.2.1.trans hk7 (fun _ e => e) (fun i hi e => by omega)⟩
    · rcases f with f | f
      · have := HU.out.2.1 i f; omega
      · have f : i = w1.heap.size ∨ i = w1.heap.size + 1 := f; omega
    · simpa using hbx
    · have h := HO4.out.kept hs4 (fun k hk e => by have := HO4.out.base hk; have e : k = w.heap.size := e; omega)
      simpa [pkL] using h
    · have hT := HBb.out.2.2.2.1
      refine (hT.kept HK14.out (fun y hy k e f => ?_)).kept hs4 (fun y hy k e f => ?_)
      · exact own_off (hT.own y hy) HBb.out.2.1 (by decide) e f
      · have := Own.base (hT.own y hy) e; have f : k = w.heap.size := f; omega
  case done =>
    rintro xs W hxs ⟨la, lc, h1, h2, h3, h4⟩ hD
    have hl : xs.length = s.L.length := by rw [← hxs, List.length_map]
    rw [hl] at h1 h2
    have e1 : W.cell? ⟨w.heap.size, 0, none⟩ = some (.slice la s.L.length lc) := h1.cell 0
    have HW : Hid (Own 44 6 W (w1.heap.size + 2) la lc s.L.length (xs.flatMap pkL) ∧ TpN W (w1.heap.size + 2) xs ∧ Kept No w W ∧ W.heap[w1.heap.size]? = some (.deferred (some [])) ∧ xs.map Tp.q = s.L) := ⟨h2, h3, h4, hD, hxs⟩
    clear h1 h2 h3 h4 hD hxs hl
    go_wp2
    rw [HC.out]
    have hkp : Kept (Bk2 w1.heap.size) W (W.putObj w1.heap.size (.deferred none)) := kept_put (Kept.refl _ W) (.inl (.inl rfl))
    refine ⟨by simp, .inl ⟨_, _, rfl, run_takeDeferred HW.out.2.2.2.1, ?_⟩⟩
    refine ⟨.tuple #[.slice la s.L.length lc, .bool true], ?_, ?_⟩
    · exact results_tmp2 (fn := Try.f26) rfl _ _ _
    · refine ⟨la, lc, xs, rfl, HW.out.2.2.2.2, Own.lower (HW.out.1.kept hkp (fun k e f => ?_)) (by omega), (HW.out.2.1.kept hkp (fun y hy k e f => ?_)).lower (by omega), kept_put HW.out.2.2.1 (.inr (by omega))⟩
      · have := Own.base HW.out.1 e; rcases f with f | f <;> omega
      · have := Own.base (HW.out.2.1.own y hy) e; rcases f with f | f <;> omega
end Go.Proofs.Ytphiokehcgbldaa
