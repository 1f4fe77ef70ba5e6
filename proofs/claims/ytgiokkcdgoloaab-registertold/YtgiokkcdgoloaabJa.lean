import Derived.Test.YtgiokkcdgoloaabIb
import Derived.Test.YtgiokkcdgoloaabHk
namespace Go.Proofs.Ytgiokkcdgoloaab
open Go.RowKit
set_option linter.unusedVariables false
set_option linter.unusedSimpArgs false

/-- The stamps of the answers, by how the read is to end. -/
def sNr (how k : Nat) : Int := if how = 2 then 0 else if how = 1 ∧ k = 2 then 4 else 5
def sCr (how k : Nat) : Int := if how = 2 then 0 else if how = 1 ∧ k = 2 then 9 else 2
def zzr (how : Nat) (bz : List Int) : List Int := if how = 2 then [0, 0, 0, 0] else bz
theorem keep_r (how k : Nat) (bz : List Int) (ba : Option Addr) (bk : Nat) (wr : World) (hbl : bz.length ≤ 140737488355328) (hb : Bytes wr ba bz) :
    Calls Try.prog 66 #[rv, .agg (valD k 7 (sNr how k) (sCr how k) ba bz.length bk).cells] wr (KeepOut wr (sNr how k) (sCr how k) (zzr how bz)) := by
  by_cases h2 : how = 2
  · subst h2
    exact keepR0_any 4 (valD k 7 0 0 ba bz.length bk) wr (by decide) (by decide) rfl rfl
  · have e : zzr how bz = bz := if_neg h2
    rw [e]
    refine keepR1_any 4 (valD k 7 (sNr how k) (sCr how k) ba bz.length bk) bz wr (fun h => ?_) rfl hbl hb
    have h1 : sNr how k = 0 := h.1
    unfold sNr at h1
    rw [if_neg h2] at h1
    split at h1 <;> simp at h1
/-- A machine that has ended with these bytes. -/
structure En (I : Nat → Prop) (zs : List Int) (m : Nat) (W : World) : Prop where
  ex : ∃ a cap x sn sc da dc, Mach W m a cap x 145 (endV 0 sn sc da zs.length dc) ∧ OwnB W 0 da dc zs ∧ ∀ k, MB m a k ∨ At da k → I k
/-- A read that lays down. -/
structure Lg (I : Nat → Prop) (zs : List Int) (X : TS Unit) (m : Nat) (W : World) : Prop where
  ex : ∃ a cap n c pa pl pk sn sc da dc ub ubb ut ua, Mach W m a cap x8 163 (layV n c pa pl pk 0 sn sc da zs.length dc ub) ∧ Tal 117 ansU W ub ubb ua ut X ∧ OwnB W 0 da dc zs ∧ (∀ k, MB m a k ∨ TB ub ubb ua k ∨ At da k → I k) ∧ (∀ k, MB m a k → ¬ TB ub ubb ua k) ∧ ∀ k, At da k → ¬ (k = m ∨ TB ub ubb ua k)
section
variable {S I I' : Nat → Prop} {H : List Hb} {m : Nat} {W W' : World} {zs bz : List Int} {X : TS Unit} {how : Nat}
theorem tb_of {ub ubb : Nat} {ua : Option Addr} (k : Nat) (e : Tb2 ub ubb k) : TB ub ubb ua k := by
  rcases e with rfl | rfl
  · exact .inl rfl
  · exact .inr (.inl rfl)
theorem En.kept (h : En I zs m W) (hk : Kept S W W') (hS : ∀ k, I k → k < W.heap.size → ¬ S k ∧ I' k) : En I' zs m W' := by
  obtain ⟨a, cap, x, sn, sc, da, dc, h1, h2, h3⟩ := h
  have hl : ∀ k, MB m a k ∨ At da k → k < W.heap.size := fun k e => by
    rcases e with (rfl | e) | e
    · exact h1.box.lt
    · exact Own.lt0 h1.row e
    · exact h2.lt e
  exact ⟨a, cap, x, sn, sc, da, dc, h1.kept hk (fun k e => (hS k (h3 k (.inl e)) (hl k (.inl e))).1), h2.keptS hk (fun k e => (hS k (h3 k (.inr e)) (hl k (.inr e))).1), fun k e => (hS k (h3 k e) (hl k e)).2⟩
theorem Lg.kept (h : Lg I zs X m W) (hk : Kept S W W') (hS : ∀ k, I k → k < W.heap.size → ¬ S k ∧ I' k) : Lg I' zs X m W' := by
  obtain ⟨a, cap, n, c, pa, pl, pk, sn, sc, da, dc, ub, ubb, ut, ua, h1, h2, h3, h4, h5, h6⟩ := h
  have hl : ∀ k, MB m a k ∨ TB ub ubb ua k ∨ At da k → k < W.heap.size := fun k e => by
    rcases e with (rfl | e) | (rfl | rfl | e) | e
    · exact h1.box.lt
    · exact Own.lt0 h1.row e
    · exact h2.box.lt
    · exact h2.map.lt
    · exact Own.lt0 h2.row e
    · exact h3.lt e
  exact ⟨a, cap, n, c, pa, pl, pk, sn, sc, da, dc, ub, ubb, ut, ua, h1.kept hk (fun k e => (hS k (h4 k (.inl e)) (hl k (.inl e))).1), h2.kept hk (fun k e => (hS k (h4 k (.inr (.inl e))) (hl k (.inr (.inl e)))).1), h3.keptS hk (fun k e => (hS k (h4 k (.inr (.inr e))) (hl k (.inr (.inr e)))).1), fun k e => (hS k (h4 k e) (hl k e)).2, h5, h6⟩
theorem t_take1 (how : Nat) (h : Ask I 93 rv H m T0 W) (ba : Option Addr) (bk : Nat) (hbl : bz.length ≤ 140737488355328) (hb : Bytes W ba bz) : Calls Try.prog 64 #[.pointer (some ⟨m, 0, none⟩), .agg (valD (1 : Nat) 7 (sNr how 1) (sCr how 1) ba bz.length bk).cells] W (fun e W' => e = .returned (.slice none 0 0) ∧ ∃ ka kk, Ask (fun k => I k ∨ W.heap.size ≤ k) 93 rv (H ++ [(ka, kk, zzr how bz)]) m (T1 ⟨sNr how 1, sCr how 1, ka, (zzr how bz).length, kk⟩) W' ∧ Kept I W W') :=
  ask_no h _ (valD_ok _ _ _ _ _ _ _) _ _ _ (fun a cap tb bb ct at' wr hM hT hd hk => takeA_noR m a cap x7 _ tb bb ct at' T0 _ _ _ _ wr hM hT (valD_ok _ _ _ _ _ _ _) rfl (meth_keepR 4) (fun wr' hk' => keep_r how 1 bz ba bk wr' hbl ((hb.no hk).no hk')) tb1 hd)
theorem t_take2 (how : Nat) {b1 : Bk} (h : Ask I 93 rv H m (T1 b1) W) (ba : Option Addr) (bk : Nat) (hbl : bz.length ≤ 140737488355328) (hb : Bytes W ba bz) : Calls Try.prog 64 #[.pointer (some ⟨m, 0, none⟩), .agg (valD (2 : Nat) 7 (sNr how 2) (sCr how 2) ba bz.length bk).cells] W (fun e W' => e = .returned (.slice none 0 0) ∧ ∃ ka kk, Ask (fun k => I k ∨ W.heap.size ≤ k) 93 rv (H ++ [(ka, kk, zzr how bz)]) m (T2 b1 ⟨sNr how 2, sCr how 2, ka, (zzr how bz).length, kk⟩) W' ∧ Kept I W W') :=
  ask_no h _ (valD_ok _ _ _ _ _ _ _) _ _ _ (fun a cap tb bb ct at' wr hM hT hd hk => takeA_noR m a cap x7 _ tb bb ct at' _ _ _ _ _ wr hM hT (valD_ok _ _ _ _ _ _ _) rfl (meth_keepR 4) (fun wr' hk' => keep_r how 2 bz ba bk wr' hbl ((hb.no hk).no hk')) (tb2 b1) hd)
theorem best_a (hw : how = 0 ∨ how = 2) (a1 a2 b : Bk) (h1 : a1.n = sNr how 1 ∧ a1.c = sCr how 1) (h2 : a2.n = sNr how 2 ∧ a2.c = sCr how 2) (hn : b.n = sNr how 3) (hc : b.c = sCr how 3) : bestP [a1, a2, b] = a1 ∧ [a1, a2, b].any (otherB a1) = false := by
  obtain ⟨n1, c1, x1, y1, z1⟩ := a1
  obtain ⟨n2, c2, x2, y2, z2⟩ := a2
  obtain ⟨n3, c3, x3, y3, z3⟩ := b
  simp only at h1 h2 hn hc
  obtain ⟨rfl, rfl⟩ := h1
  obtain ⟨rfl, rfl⟩ := h2
  subst hn hc
  rcases hw with rfl | rfl
  · exact ⟨rfl, rfl⟩
  · exact ⟨rfl, rfl⟩
theorem best_1 (a1 a2 b : Bk) (h1 : a1.n = sNr 1 1 ∧ a1.c = sCr 1 1) (h2 : a2.n = sNr 1 2 ∧ a2.c = sCr 1 2) (hn : b.n = sNr 1 3) (hc : b.c = sCr 1 3) : bestP [a1, a2, b] = a1 ∧ [a1, a2, b].any (otherB a1) = true := by
  obtain ⟨n1, c1, x1, y1, z1⟩ := a1
  obtain ⟨n2, c2, x2, y2, z2⟩ := a2
  obtain ⟨n3, c3, x3, y3, z3⟩ := b
  simp only at h1 h2 hn hc
  obtain ⟨rfl, rfl⟩ := h1
  obtain ⟨rfl, rfl⟩ := h2
  subst hn hc
  exact ⟨rfl, rfl⟩
theorem t_take3e (hw : how = 0 ∨ how = 2) {b1 b2 : Bk} (hH : (b1.a, b1.k, zzr how bz) ∈ H) (hl1 : b1.l = (zzr how bz).length) (hb1 : b1.n = sNr how 1 ∧ b1.c = sCr how 1) (hb2 : b2.n = sNr how 2 ∧ b2.c = sCr how 2) (h : Ask I 93 rv H m (T2 b1 b2) W) (ba : Option Addr) (bk : Nat) (hbl : bz.length ≤ 140737488355328) (hb : Bytes W ba bz) : Calls Try.prog 64 #[.pointer (some ⟨m, 0, none⟩), .agg (valD (3 : Nat) 7 (sNr how 3) (sCr how 3) ba bz.length bk).cells] W (fun e W' => e = .returned (.slice none 0 0) ∧ En (fun k => I k ∨ W.heap.size ≤ k) (zzr how bz) m W' ∧ Kept I W W') := by
  refine (ask_fin h _ (valD_ok _ _ _ _ _ _ _) (sNr how 3) (sCr how 3) (zzr how bz) (fun _ => b1.n) (fun _ => b1.c) (fun _ => b1.a) (fun _ => b1.l) (fun _ => b1.k) (fun a cap tb bb ct at' wr hM hT hd hk => takeA_endR m a cap x7 _ tb bb ct at' _ _ _ _ _ wr hM hT (valD_ok _ _ _ _ _ _ _) rfl (meth_keepR 4) (meth_setR 4) (fun wr' hk' => keep_r how 3 bz ba bk wr' hbl ((hb.no hk).no hk')) (tb3 b1 b2) hd (fun b => by rw [show (valD ((3 : Nat) : Int) 7 (sNr how 3) (sCr how 3) ba bz.length bk).fi = 3 from rfl, T3_cnt]; exact ⟨by decide, by decide⟩) (fun _ => b1.n) (fun _ => b1.c) (fun _ => b1.a) (fun _ => b1.l) (fun _ => b1.k) _ _ _ _ _ (fun b hbn hbc wr' => ?_))).mono ?_
  · rw [show (valD ((3 : Nat) : Int) 7 (sNr how 3) (sCr how 3) ba bz.length bk).fi = 3 from rfl, T3_got, (best_a hw b1 b2 b hb1 hb2 hbn hbc).1, (best_a hw b1 b2 b hb1 hb2 hbn hbc).2]
    exact settleR_any 4 b1.n b1.c b1.a b1.l b1.k true wr'
  · rintro e W' ⟨ka, kk, b, rfl, he, hF, hK⟩
    obtain ⟨a, cap, sn, sc, h1, h2, h3⟩ := hF
    obtain ⟨g1, g2⟩ := h2.ok _ (List.mem_append.2 (.inl hH))
    refine ⟨he, ⟨a, cap, x7, sn, sc, b1.a, b1.k, ?_, g1, fun k e => ?_⟩, hK⟩
    · rw [← hl1]; exact h1
    · rcases e with e | e
      · exact h3 k e
      · exact (g2 k e).1
theorem t_take3l {b1 b2 : Bk} (hH : (b1.a, b1.k, bz) ∈ H) (hl1 : b1.l = bz.length) (hb1 : b1.n = sNr 1 1 ∧ b1.c = sCr 1 1) (hb2 : b2.n = sNr 1 2 ∧ b2.c = sCr 1 2) (h : Ask I 93 rv H m (T2 b1 b2) W) (ba : Option Addr) (bk : Nat) (hbl : bz.length ≤ 140737488355328) (hb : Bytes W ba bz) : Calls Try.prog 64 #[.pointer (some ⟨m, 0, none⟩), .agg (valD (3 : Nat) 7 (sNr 1 3) (sCr 1 3) ba bz.length bk).cells] W (fun e W' => ∃ la lc, e = .returned (.slice la 5 lc) ∧ Lg (fun k => I k ∨ W.heap.size ≤ k) bz U0 m W' ∧ Kept I W W') := by
  obtain ⟨a, cap, tb, bb, ct, at', h1, h2, h3, h4, h5, h6⟩ := h
  have hl : ∀ k, MB m a k → k < W.heap.size := fun k e => by
    rcases e with rfl | e
    · exact h1.box.lt
    · exact Own.lt0 h1.row e
  have t2 : ∀ k, Tb2 tb bb k → TB tb bb at' k := fun k e => by
    rcases e with rfl | rfl
    · exact .inl rfl
    · exact .inr (.inl rfl)
  refine machTakeA_any m a cap x7 _ _ _ W _ h1 (valD_ok _ _ _ _ _ _ _) (fun w => meth_takeA _ _ w) (fun wr hk => ?_)
  have h3' := h3.to (I' := I) (N' := fun k => MB m a k ∨ TB tb bb at' k) hk (fun k e _ ne => ⟨fun f => f, e, ne⟩)
  refine (takeA_layR m a cap x7 _ tb bb ct at' _ _ (sNr 1 3) (sCr 1 3) bz wr (h1.no hk) (h2.no hk) (valD_ok _ _ _ _ _ _ _) rfl (meth_keepR 4) (meth_setR 4) (fun wr' hk' => keep_r 1 3 bz ba bk wr' hbl ((hb.no hk).no hk')) (tb3 b1 b2) (fun k e f => h6 k e (t2 k f)) (fun b => by rw [show (valD ((3 : Nat) : Int) 7 (sNr 1 3) (sCr 1 3) ba bz.length bk).fi = 3 from rfl, T3_cnt]; exact ⟨by decide, by decide⟩) (fun _ => b1.n) (fun _ => b1.c) (fun _ => b1.a) (fun _ => b1.l) (fun _ => b1.k) (fun _ => b1.n) (fun _ => b1.c) (fun _ => b1.a) (fun _ => b1.l) (fun _ => b1.k) (fun _ => bz) (fun ka kk => ⟨hl1.symm, by show b1.l ≤ _; omega⟩) (fun ka kk wr' hk' ho => ?_) (by decide) (by decide) (by decide) (fun b hbn hbc wr' => ?_)).mono ?_
  · obtain ⟨g1, g2⟩ := h3'.ok _ hH
    refine ⟨(g1.keptS hk' (fun k e f => (g2 k e).2 (.inr (t2 k f)))).bytes, fun e => (g2 m e).2 (.inl (.inl rfl))⟩
  · rw [show (valD ((3 : Nat) : Int) 7 (sNr 1 3) (sCr 1 3) ba bz.length bk).fi = 3 from rfl, T3_got, (best_1 b1 b2 b hb1 hb2 hbn hbc).1, (best_1 b1 b2 b hb1 hb2 hbn hbc).2]
    exact settleR_any 4 b1.n b1.c b1.a b1.l b1.k false wr'
  · rintro e W' ⟨ka, kk, ub, ubb, ut, ua, a', cap', qs, b, hb', rfl, hq, hMs, hM, hT, _, hO, hU, hK⟩
    have hql : qs.length = 5 := by have := congrArg List.length hq; simpa [x7] using this
    have hkk : Kept (fun k => k = m ∨ Tb2 tb bb k) W W' := hk.of_no.then hK
    have hs := hk.size
    obtain ⟨g1, g2⟩ := h3.ok _ hH
    rw [needs7] at hT
    refine ⟨⟨_, _, _, rfl⟩, a', cap', by rw [hql], ⟨a, cap, _, _, _, _, _, _, _, b1.a, b1.k, ub, ubb, ut, ua, by rw [← hl1]; exact hM, hT, g1.keptS hkk (fun k e f => ?_), fun k e => ?_, fun k e f => ?_, fun k e f => ?_⟩, hkk.mono (fun k _ e => ?_)⟩
    · rcases f with f | f
      · exact (g2 k e).2 (.inl (.inl f))
      · exact (g2 k e).2 (.inr (t2 k f))
    · rcases e with e | e | e
      · exact .inl (h4 k e)
      · exact .inr (by have := hU k e; omega)
      · exact .inl (g2 k e).1
    · have := hl k e; have := hU k f; omega
    · rcases f with f | f
      · exact (g2 k e).2 (.inl (.inl f))
      · have := g1.lt e; have := hU k f; omega
    · rcases e with e | e
      · exact h4 k (.inl e)
      · exact h5 k (t2 k e)
/-- A server's word that it has laid the block down. -/
def ackD (k : Int) : MD := ⟨12, false, k, true, 3, 1, 8, 1, 3, 1, 0, 0, 0, 0, 0, none, 0, 0, restZ⟩
theorem ackD_ok (k : Int) : MdOk (ackD k) := ⟨rfl, restZ_one⟩
theorem lg_no (h : Lg I zs X m W) (k : Int) (htb : takeB X k = false) : Calls Try.prog 64 #[.pointer (some ⟨m, 0, none⟩), .agg (ackD k).cells] W (fun e W' => e = .returned (.slice none 0 0) ∧ Lg I zs (takeS X k ()) m W' ∧ Kept I W W') := by
  obtain ⟨a, cap, n, c, pa, pl, pk, sn, sc, da, dc, ub, ubb, ut, ua, h1, h2, h3, h4, h5, h6⟩ := h
  refine machTakeL_any m a cap x8 _ _ (ackD k) W _ h1 (ackD_ok k) (fun w => meth_takeL _ _ _ _ _ _ _ _ _ _ _ _ w) (fun wr hk => ?_)
  refine (takeL_no m a cap x8 163 _ n c pa pl pk 0 sn sc da zs.length dc ub ubb ut ua X (ackD k) wr (h1.no hk) (h2.no hk) (ackD_ok k) rfl htb).mono ?_
  rintro e W' ⟨rfl, hT, hK⟩
  have hkk : Kept (Tb2 ub ubb) W W' := hk.of_no.then hK
  exact ⟨⟨_, _, _, rfl⟩, rfl, ⟨a, cap, n, c, pa, pl, pk, sn, sc, da, dc, ub, ubb, ut, ua, h1.kept hkk (fun k e f => h5 k e (tb_of k f)), hT, h3.keptS hkk (fun k e f => h6 k e (.inr (tb_of k f))), h4, h5, h6⟩, hkk.mono (fun k _ e => h4 k (.inr (.inl (tb_of k e))))⟩
theorem lg_end (h : Lg I zs X m W) (k : Int) (htb : takeB X k = true) : Calls Try.prog 64 #[.pointer (some ⟨m, 0, none⟩), .agg (ackD k).cells] W (fun e W' => e = .returned (.slice none 0 0) ∧ En I zs m W' ∧ Kept I W W') := by
  obtain ⟨a, cap, n, c, pa, pl, pk, sn, sc, da, dc, ub, ubb, ut, ua, h1, h2, h3, h4, h5, h6⟩ := h
  refine machTakeL_any m a cap x8 _ _ (ackD k) W _ h1 (ackD_ok k) (fun w => meth_takeL _ _ _ _ _ _ _ _ _ _ _ _ w) (fun wr hk => ?_)
  refine (takeL_end m a cap x8 163 _ n c pa pl pk 0 sn sc da zs.length dc ub ubb ut ua X (ackD k) wr (h1.no hk) (h2.no hk) (ackD_ok k) rfl htb (fun k e f => h5 k e (tb_of k f))).mono ?_
  rintro e W' ⟨rfl, hM, hT, hK⟩
  have hkk : Kept (fun k => k = m ∨ Tb2 ub ubb k) W W' := hk.of_no.then hK
  refine ⟨⟨_, _, _, rfl⟩, rfl, ⟨a, cap, x8, sn, sc, da, dc, hM, h3.keptS hkk (fun k e f => h6 k e (f.imp id (tb_of k))), fun k e => ?_⟩, hkk.mono (fun k _ e => ?_)⟩
  · rcases e with e | e
    · exact h4 k (.inl e)
    · exact h4 k (.inr (.inr e))
  · rcases e with e | e
    · exact h4 k (.inl (.inl e))
    · exact h4 k (.inr (.inl (tb_of k e)))
theorem en_done (h : En I zs m W) (hzl : zs.length ≤ 140737488355328) : Calls Try.prog 62 #[.pointer (some ⟨m, 0, none⟩)] W (fun e W' => ∃ sn sc ra rc, e = .returned (.tuple #[.agg (resC 0 sn sc ra zs.length rc), .bool true]) ∧ OwnB W' W.heap.size ra rc zs ∧ Kept No W W') := by
  obtain ⟨a, cap, x, sn, sc, da, dc, h1, h2, h3⟩ := h
  refine (machDoneE_any m a cap x 0 sn sc da zs.length dc zs W h1 rfl hzl h2.bytes).mono ?_
  rintro e W' ⟨ra, rc, rfl, ho, hk⟩
  exact ⟨sn, sc, ra, rc, rfl, ho, hk⟩
/-- A read on its way: what it has heard; what its last Take told. -/
inductive PhR (how : Nat) (bz : List Int) (I : Nat → Prop) (m : Nat) (W : World) : Nat → Nat → Prop
  | a0 (H : List Hb) (n : Nat) : Ask I 93 rv H m T0 W → PhR how bz I m W 1 n
  | a1 (H : List Hb) (b1 : Bk) : (b1.a, b1.k, zzr how bz) ∈ H → b1.l = (zzr how bz).length → b1.n = sNr how 1 ∧ b1.c = sCr how 1 → Ask I 93 rv H m (T1 b1) W → PhR how bz I m W 2 0
  | a2 (H : List Hb) (b1 b2 : Bk) : (b1.a, b1.k, zzr how bz) ∈ H → b1.l = (zzr how bz).length → b1.n = sNr how 1 ∧ b1.c = sCr how 1 → b2.n = sNr how 2 ∧ b2.c = sCr how 2 → Ask I 93 rv H m (T2 b1 b2) W → PhR how bz I m W 3 0
  | e : how ≠ 1 → En I (zzr how bz) m W → PhR how bz I m W 4 0
  | l : how = 1 → Lg I bz U0 m W → PhR how bz I m W 4 5
theorem PhR.kept {k n : Nat} (h : PhR how bz I m W k n) (hk : Kept S W W') (hS : ∀ k, I k → k < W.heap.size → ¬ S k ∧ I' k) : PhR how bz I' m W' k n := by
  cases h with
  | a0 H n h => exact .a0 H n (h.kept hk hS)
  | a1 H b1 h1 hl h2 h => exact .a1 H b1 h1 hl h2 (h.kept hk hS)
  | a2 H b1 b2 h1 hl h2 h3 h => exact .a2 H b1 b2 h1 hl h2 h3 (h.kept hk hS)
  | e h1 h => exact .e h1 (h.kept hk hS)
  | l h1 h => exact .l h1 (h.kept hk hS)
theorem PhR.cut {k n : Nat} (h : PhR how bz I m W k n) : PhR how bz (fun k => I k ∧ k < W.heap.size) m W k n := h.kept (Kept.refl No W) (fun k e l => ⟨fun f => f, e, l⟩)
theorem phR_take {k n : Nat} (hw : how < 3) (hk1 : 1 ≤ k) (hk3 : k ≤ 3) (hbl : bz.length ≤ 140737488355328) (h : PhR how bz I m W k n) (ba : Option Addr) (bk : Nat) (hb : Bytes W ba bz) :
    Calls Try.prog 64 #[.pointer (some ⟨m, 0, none⟩), .agg (valD k 7 (sNr how k) (sCr how k) ba bz.length bk).cells] W (fun e W' => ∃ la ln lc, e = .returned (.slice la ln lc) ∧ ∃ I', PhR how bz I' m W' (k + 1) ln ∧ (∀ j, I' j → (I j ∨ W.heap.size ≤ j) ∧ j < W'.heap.size) ∧ Kept I W W') := by
  cases h with
  | a0 H n h =>
    refine (t_take1 how h ba bk hbl hb).mono ?_
    rintro e W' ⟨rfl, ka, kk, hA, hK⟩
    exact ⟨_, _, _, rfl, _, (PhR.a1 (H ++ [(ka, kk, zzr how bz)]) ⟨sNr how 1, sCr how 1, ka, (zzr how bz).length, kk⟩ (List.mem_append.2 (.inr (List.mem_singleton.2 rfl))) rfl ⟨rfl, rfl⟩ hA).cut, fun j e => e, hK⟩
  | a1 H b1 h1 hl h2 h =>
    refine (t_take2 how h ba bk hbl hb).mono ?_
    rintro e W' ⟨rfl, ka, kk, hA, hK⟩
    exact ⟨_, _, _, rfl, _, (PhR.a2 _ b1 ⟨sNr how 2, sCr how 2, ka, (zzr how bz).length, kk⟩ (List.mem_append.2 (.inl h1)) hl h2 ⟨rfl, rfl⟩ hA).cut, fun j e => e, hK⟩
  | a2 H b1 b2 h1 hl h2 h3 h =>
    by_cases e1 : how = 1
    · subst e1
      refine (t_take3l h1 hl h2 h3 h ba bk hbl hb).mono ?_
      rintro e W' ⟨la, lc, rfl, hA, hK⟩
      exact ⟨_, _, _, rfl, _, (PhR.l rfl hA).cut, fun j e => e, hK⟩
    · refine (t_take3e (by omega) h1 hl h2 h3 h ba bk hbl hb).mono ?_
      rintro e W' ⟨rfl, hA, hK⟩
      exact ⟨_, _, _, rfl, _, (PhR.e e1 hA).cut, fun j e => e, hK⟩
  | e h1 h => omega
  | l h1 h => omega
/-- The second phase: who has said so. -/
inductive AkP (bz : List Int) (I : Nat → Prop) (m : Nat) (W : World) : Nat → Prop
  | l3 : Lg I bz U0 m W → AkP bz I m W 3
  | l4 : Lg I bz (takeS U0 3 ()) m W → AkP bz I m W 4
  | l5 : Lg I bz (takeS (takeS U0 3 ()) 4 ()) m W → AkP bz I m W 5
  | e : En I bz m W → AkP bz I m W 6
theorem akP_take {k : Nat} (hk5 : k ≤ 5) (h : AkP bz I m W k) : Calls Try.prog 64 #[.pointer (some ⟨m, 0, none⟩), .agg (ackD k).cells] W (fun e W' => e = .returned (.slice none 0 0) ∧ AkP bz I m W' (k + 1) ∧ Kept I W W') := by
  cases h with
  | l3 h =>
    refine (lg_no h 3 (by decide)).mono ?_
    rintro e W' ⟨rfl, hA, hK⟩
    exact ⟨rfl, .l4 hA, hK⟩
  | l4 h =>
    refine (lg_no h 4 (by decide)).mono ?_
    rintro e W' ⟨rfl, hA, hK⟩
    exact ⟨rfl, .l5 hA, hK⟩
  | l5 h =>
    refine (lg_end h 5 (by decide)).mono ?_
    rintro e W' ⟨rfl, hA, hK⟩
    exact ⟨rfl, .e hA, hK⟩
  | e h => omega
end

end Go.Proofs.Ytgiokkcdgoloaab
