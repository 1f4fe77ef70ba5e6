import Derived.Test.YtphiokehcgbldaaNf
namespace Go.Proofs.Ytphiokehcgbldaa
open Go.RowKit
set_option linter.unusedVariables false
set_option linter.unusedSimpArgs false

theorem gN_rm {s : Ns} (ok : NOk s) {k : Nm} {q : Pq} (h : s.L.find? (isN k) = some q) (P : Nm → Nat × Nat × Nat) (v : Nat × Nat × Nat) : gN (rmN k s.L) (upP P k v) = upG (gN s.L P) k (if (pls s.L k).tail = [] then none else some (alV q (plV (upP P k v) k (pls s.L k).tail.length))) := by
  funext j
  unfold gN upG
  rw [rm_find ok h j (fun p => alV p (plV (upP P k v) j (pls (rmN k s.L) j).length)) (fun p r e => sameP_al e _), pls_rm]
  by_cases e : j = k
  · subst e
    rw [if_pos rfl, if_pos rfl, if_pos rfl]
  · rw [if_neg e, if_neg e, if_neg e]
    have hv : plV (upP P k v) j = plV P j := by funext n; simp [plV, upP, e]
    rw [hv]
theorem gP_rm {s : Ns} {k : Nm} {q : Pq} (h : s.L.find? (isN k) = some q) : gP (rmN k s.L) = upG (gP s.L) (q.nm.1, q.to') (if cnP s.L (q.nm.1, q.to') = 1 then none else some (.int .i64 ((cnP s.L (q.nm.1, q.to') - 1 : Nat) : Int))) := by
  funext p
  have hc := cnP_rm k p s.L q h
  have hc' := cnP_rm k (q.nm.1, q.to') s.L q h
  rw [if_pos rfl] at hc'
  unfold gP upG
  by_cases e : p = (q.nm.1, q.to')
  · subst e
    rw [if_pos rfl]
    have e1 : cnP (rmN k s.L) (q.nm.1, q.to') = cnP s.L (q.nm.1, q.to') - 1 := by omega
    rw [e1]
    by_cases e2 : cnP s.L (q.nm.1, q.to') = 1
    · rw [if_pos e2, if_pos (by omega)]
    · rw [if_neg e2, if_neg (by omega)]
  · rw [if_neg e]
    rw [if_neg (fun f => e f.symm)] at hc
    have e1 : cnP (rmN k s.L) p = cnP s.L p := by omega
    rw [e1]
theorem up_up {K : Type} [DecidableEq K] (g : K → Option Value) (x : K) (a b : Option Value) : upG (upG g x a) x b = upG g x b := by
  funext m; unfold upG; split <;> rfl
theorem gN_find {L : List Pq} {P : Nm → Nat × Nat × Nat} {k : Nm} {q : Pq} (h : L.find? (isN k) = some q) : gN L P k = some (alV q (plV P k (pls L k).length)) := by unfold gN; rw [h]; rfl
theorem gN_miss {L : List Pq} {P : Nm → Nat × Nat × Nat} {k : Nm} (h : L.find? (isN k) = none) : gN L P k = none := by unfold gN; rw [h]; rfl
def zAl : Value := .agg #[.bool false, .int .i64 0, .slice none 0 0, .slice none 0 0]

theorem leave_fin {I : Nat → Prop} {w wd wF : World} {n b1 b2 b3 pb po2 pc2 : Nat} {s : Ns} {P : Nm → Nat × Nat × Nat} {q : Pq} {k : Nm} {ps : List Nat} (hN : NetB w n s I b1 b2 b3 P) (hf : s.L.find? (isN k) = some q) (hps : (pls s.L k).tail = ps) (hb1 : (P k).1 = pb) (hb2 : (P k).1 = pb) (hPl : PlA w pb po2 pc2 ps)
    (KF : Kept (fun j => j = b2 ∨ j = b3 ∨ w.heap.size ≤ j) w wF) (KM : Kept (fun j => w.heap.size ≤ j) wd wF) (hM2 : MapG mkP wd b2 (gP (rmN k s.L))) (hM3 : MapG mkN wd b3 (gN (rmN k s.L) (upP P k (pb, po2, pc2)))) :
    Kept (W5 w I) w wF ∧ OwnB wF 0 q.da q.dc q.zs ∧ ∃ P', NetB wF n ⟨s.sent, rmN k s.L, s.came⟩ (fun j => I j ∨ w.heap.size ≤ j) b1 b2 b3 P' := by
  have sub : ∀ p ∈ rmN k s.L, p ∈ s.L := fun p hp => (rm_sub k s.L).subset hp
  obtain ⟨hqL, hqk⟩ := find_mem hf
  have hnl := hN.box.lt
  have hb1l := hN.m1.lt
  have hb2l := hN.m2.lt
  have hb3l := hN.m3.lt
  have hU : ∀ j, (upP P k (pb, po2, pc2) j).1 = (P j).1 := fun j => by
    unfold upP
    split
    · rename_i e; rw [e, hb1]
    · rfl
  have dat : ∀ p ∈ s.L, OwnB wF 0 p.da p.dc p.zs := fun p hp => by
    have hd := hN.dt p hp
    refine Own.kept hd KF (fun j e f => ?_)
    have hl := Own.ltA hd e
    rcases f with f | f | f
    · rw [f] at e; exact Own.neMap hd hN.m2 e
    · rw [f] at e; exact Own.neMap hd hN.m3 e
    · omega
  refine ⟨KF.mono (fun j l e => ?_), dat q hqL, upP P k (pb, po2, pc2), ok_rm hN.ok k, hN.box.kept KF (fun e => ?_), hN.m1.kept KF (fun e => ?_), hM2.kept KM (fun e => ?_), hM3.kept KM (fun e => ?_), hN.ne, fun p hp => ?_, fun p hp r hr hne => ?_, fun p hp => dat p (sub p hp), ⟨.inl hN.inn.1, .inl hN.inn.2.1, .inl hN.inn.2.2.1, .inl hN.inn.2.2.2⟩, fun p hp => ?_, fun p hp j e => .inl (hN.ind p (sub p hp) j e)⟩
  · rcases e with e | e | e
    · rw [e]; exact W5.map hN.m2 hN.inn.2.2.1
    · rw [e]; exact W5.map hN.m3 hN.inn.2.2.2
    · omega
  · rcases e with e | e | e
    · exact hN.box.neMap hN.m2 e
    · exact hN.box.neMap hN.m3 e
    · omega
  · rcases e with e | e | e
    · exact hN.ne.1 e
    · exact hN.ne.2.1 e
    · omega
  · have e : w.heap.size ≤ b2 := e; omega
  · have e : w.heap.size ≤ b3 := e; omega
  · show PlA wF _ _ _ (pls (rmN k s.L) p.nm)
    rw [pls_rm]
    by_cases e : p.nm = k
    · rw [if_pos e, e, hps]
      have hu : upP P k (pb, po2, pc2) k = (pb, po2, pc2) := by simp [upP]
      rw [hu]
      refine hPl.kept KF (fun f => ?_)
      have hl := hPl.lt
      rcases f with f | f | f
      · exact hPl.neMap hN.m2 f
      · exact hPl.neMap hN.m3 f
      · omega
    · rw [if_neg e]
      have hu : upP P k (pb, po2, pc2) p.nm = P p.nm := by simp [upP, e]
      rw [hu]
      have h := hN.pl p (sub p hp)
      refine h.kept KF (fun f => ?_)
      have hl := h.lt
      rcases f with f | f | f
      · exact h.neMap hN.m2 f
      · exact h.neMap hN.m3 f
      · omega
  · rw [hU, hU]
    exact hN.pd p (sub p hp) r (sub r hr) hne
  · rw [hU]
    exact .inl (hN.inp p (sub p hp))
section
set_option maxRecDepth 100000 in
set_option maxHeartbeats 8000000 in
/-- leave: no such packet. -/
theorem leave_none (n : Nat) (m0 m1 mv m3 : Value) (k : Nm) (w : World) (hb : Box w n 69 #[m0, m1, mv, m3]) (hl : LkV mkN w mv k none) :
    Calls Try.prog 36 #[.pointer (some ⟨n, 0, none⟩), .agg #[.bool k.1.1, .int .i64 k.1.2, .int .i64 k.2]] w (fun e w' => e = .returned (.tuple #[zAl, .bool false]) ∧ Kept No w w') := by
  have HB : Hid (Box w n 69 #[m0, m1, mv, m3]) := hb
  have HL : Hid (LkV mkN w mv k none) := hl
  clear hb hl
  obtain ⟨⟨kc, ki⟩, kn⟩ := k
  simp only at HL ⊢
  go_enter Try.func36, Try.ntmps36
  go_upto_region 1 with fail
  obtain ⟨w3, hw3⟩ : ∃ w3, w3 = (w.alloc (.cells #[.bool kc, .int .i64 ki, .int .i64 kn] 79)).alloc (.cells #[.bool false, .int .i64 0, .slice none 0 0, .slice none 0 0] 81) := ⟨_, rfl⟩
  have HK3 : Hid (Kept No w w3) := by rw [hw3]; exact ((Kept.refl No w).alloc _).alloc _
  have HBK : Hid (Box w3 w.heap.size 79 #[.bool kc, .int .i64 ki, .int .i64 kn]) := by rw [hw3]; exact (Box.new _ _ _).alloc _
  have HBR : Hid (Box w3 (w.heap.size + 1) 81 #[.bool false, .int .i64 0, .slice none 0 0, .slice none 0 0]) := by
    have h := Box.new (w.alloc (.cells #[.bool kc, .int .i64 ki, .int .i64 kn] 79)) 81 #[.bool false, .int .i64 0, .slice none 0 0, .slice none 0 0]
    have e : (w.alloc (.cells #[.bool kc, .int .i64 ki, .int .i64 kn] 79)).heap.size = w.heap.size + 1 := by simp
    rw [e] at h
    rw [hw3]
    exact h
  rw [← hw3]
  obtain ⟨bK, hbK⟩ : ∃ b, b = w.heap.size := ⟨_, rfl⟩
  obtain ⟨bR, hbR⟩ : ∃ b, b = w.heap.size + 1 := ⟨_, rfl⟩
  rw [← hbR, ← hbK]
  rw [← hbK] at HBK
  rw [← hbR] at HBR
  have HBb : Hid (w.heap.size ≤ bK ∧ w.heap.size ≤ bR) := ⟨by omega, by omega⟩
  clear hw3 hbK hbR
  refine l1 _ n bK ((kc, ki), kn) mv none (.bool false) (.int .i64 0) (.slice none 0 0) (.slice none 0 0) false _ _ _ w3 _ rfl rfl rfl (HB.out.kept HK3.out (fun e => e)) HBK.out (HL.out.kept HK3.out (fun _ _ e => e)) rfl (by simp [Value.oneCell']) (fun _ _ t _ _ h => by cases t <;> exact h) ?_
  intro w4 G hG hGl hk4
  have HBR4 : Hid (Box w4 bR 81 #[.bool false, .int .i64 0, .slice none 0 0, .slice none 0 0]) := HBR.out.kept hk4 (fun e => e)
  have HK4 : Hid (Kept No w w4) := HK3.out.then hk4
  clear hG hGl hk4 HBR HK3 HL HBK HB
  simp only [Wa.pA, Wa.pB, Wa.p1, Wa.p2, Wa.p3]
  go_wp2_with (refine wpList_store_row rfl 81 _ _ rfl bR #[.bool false, .int .i64 0, .slice none 0 0, .slice none 0 0] rfl rfl 81 #[.bool false, .int .i64 0, .slice none 0 0, .slice none 0 0] HBR4.out (by kernel_rfl) rfl (by simp [Value.oneCell']) ?_)
  refine bodyPost_ret (Wa.results_row_tmp (by rfl) _ _ bR #[.bool false, .int .i64 0, .slice none 0 0, .slice none 0 0] (by rfl) (ld81 (Wa.Box.setRow HBR4.out _))) rfl ?_
  exact ⟨rfl, HK4.out.trans (Wa.Kept.setRow _ _ _) (fun _ e => e) (fun j l e => by have e : j = bR := e; have := HBb.out.2; omega)⟩
set_option maxRecDepth 100000 in
set_option maxHeartbeats 8000000 in
/-- leave: the first of that name. -/
theorem leave_some {I : Nat → Prop} {n b1 b2 b3 : Nat} {s : Ns} {P : Nm → Nat × Nat × Nat} (q : Pq) (k : Nm) (w : World) (h : NetB w n s I b1 b2 b3 P) (hf : s.L.find? (isN k) = some q) :
    Calls Try.prog 36 #[.pointer (some ⟨n, 0, none⟩), .agg #[.bool k.1.1, .int .i64 k.1.2, .int .i64 k.2]] w (fun e w' => ∃ pv, (∃ x y z, pv = Value.slice x y z) ∧ e = .returned (.tuple #[alV q pv, .bool true]) ∧ Kept (W5 w I) w w' ∧ OwnB w' 0 q.da q.dc q.zs ∧ ∃ P', NetB w' n ⟨s.sent, rmN k s.L, s.came⟩ (fun j => I j ∨ w.heap.size ≤ j) b1 b2 b3 P') := by
  have HN : Hid (NetB w n s I b1 b2 b3 P) := h
  have HF : Hid (s.L.find? (isN k) = some q) := hf
  obtain ⟨hqL, hqk⟩ := find_mem hf
  obtain ⟨p0, ps, hps⟩ : ∃ p0 ps, pls s.L k = p0 :: ps := by
    have := pls_pos hqL hqk
    cases h : pls s.L k with
    | nil => rw [h] at this; simp at this
    | cons a l => exact ⟨a, l, rfl⟩
  have HPs : Hid (pls s.L k = p0 :: ps) := hps
  have HQ : Hid (q ∈ s.L ∧ q.nm = k) := ⟨hqL, hqk⟩
  have HPl : Hid (PlA w (P k).1 (P k).2.1 (P k).2.2 (p0 :: ps)) := by have h1 := h.pl q hqL; rw [hqk, hps] at h1; exact h1
  have hcap : ps.length + 1 ≤ (P k).2.2 := by obtain ⟨cs, _, _, h3, _⟩ := HPl.out; simpa using h3
  clear h hf hqL hqk hps
  obtain ⟨⟨kc, ki⟩, kn⟩ := k
  obtain ⟨pb, hpb⟩ : ∃ x, x = (P ((kc, ki), kn)).1 := ⟨_, rfl⟩
  obtain ⟨po, hpo⟩ : ∃ x, x = (P ((kc, ki), kn)).2.1 := ⟨_, rfl⟩
  obtain ⟨pc, hpc⟩ : ∃ x, x = (P ((kc, ki), kn)).2.2 := ⟨_, rfl⟩
  have HPP : Hid (P ((kc, ki), kn) = (pb, po, pc)) := by rw [hpb, hpo, hpc]; rfl
  rw [← hpb, ← hpo, ← hpc] at HPl
  rw [← hpc] at hcap
  clear hpb hpo hpc
  obtain ⟨qn, ⟨tc, ti⟩, da, dc, zs, pl⟩ := q
  simp only at HF HQ ⊢
  go_enter Try.func36, Try.ntmps36
  go_upto_region 1 with fail
  obtain ⟨w3, hw3⟩ : ∃ w3, w3 = (w.alloc (.cells #[.bool kc, .int .i64 ki, .int .i64 kn] 79)).alloc (.cells #[.bool false, .int .i64 0, .slice none 0 0, .slice none 0 0] 81) := ⟨_, rfl⟩
  have HK3 : Hid (Kept No w w3) := by rw [hw3]; exact ((Kept.refl No w).alloc _).alloc _
  have HBK : Hid (Box w3 w.heap.size 79 #[.bool kc, .int .i64 ki, .int .i64 kn]) := by rw [hw3]; exact (Box.new _ _ _).alloc _
  have HBR : Hid (Box w3 (w.heap.size + 1) 81 #[.bool false, .int .i64 0, .slice none 0 0, .slice none 0 0]) := by
    have h := Box.new (w.alloc (.cells #[.bool kc, .int .i64 ki, .int .i64 kn] 79)) 81 #[.bool false, .int .i64 0, .slice none 0 0, .slice none 0 0]
    have e : (w.alloc (.cells #[.bool kc, .int .i64 ki, .int .i64 kn] 79)).heap.size = w.heap.size + 1 := by simp
    rw [e] at h
    rw [hw3]
    exact h
  rw [← hw3]
  obtain ⟨bK, hbK⟩ : ∃ b, b = w.heap.size := ⟨_, rfl⟩
  obtain ⟨bR, hbR⟩ : ∃ b, b = w.heap.size + 1 := ⟨_, rfl⟩
  rw [← hbR, ← hbK]
  rw [← hbK] at HBK
  rw [← hbR] at HBR
  have HBb : Hid (w.heap.size ≤ bK ∧ w.heap.size ≤ bR ∧ bR < w3.heap.size ∧ bK < w3.heap.size) := ⟨by omega, by omega, HBR.out.lt, HBK.out.lt⟩
  clear hw3 hbK hbR
  have HLk : Hid (LkV mkN w3 (.map (some b3)) ((kc, ki), kn) (some (.agg #[.bool tc, .int .i64 ti, .slice da zs.length dc, .slice (some ⟨pb, po, none⟩) (ps.length + 1) pc]))) := .inr ⟨b3, _, rfl, HN.out.m3.kept HK3.out (fun e => e), by rw [gN_find HF.out, HPs.out, plV, HPP.out]; rfl⟩
  refine l1 _ n bK ((kc, ki), kn) (.map (some b3)) _ (.bool tc) (.int .i64 ti) (.slice da zs.length dc) (.slice (some ⟨pb, po, none⟩) (ps.length + 1) pc) true _ _ _ w3 _ rfl rfl rfl (HN.out.box.kept HK3.out (fun e => e)) HBK.out HLk.out rfl (by simp [Value.oneCell']) (fun _ _ t _ _ h => by cases t <;> exact h) ?_
  intro w4 G hG hGl hk4
  have HG4 : Hid (Box w4 G 81 #[.bool tc, .int .i64 ti, .slice da zs.length dc, .slice (some ⟨pb, po, none⟩) (ps.length + 1) pc] ∧ w3.heap.size ≤ G) := ⟨hG, hGl⟩
  have HBR4 : Hid (Box w4 bR 81 #[.bool false, .int .i64 0, .slice none 0 0, .slice none 0 0]) := HBR.out.kept hk4 (fun e => e)
  have HBK4 : Hid (Box w4 bK 79 #[.bool kc, .int .i64 ki, .int .i64 kn]) := HBK.out.kept hk4 (fun e => e)
  have HK4 : Hid (Kept No w w4) := HK3.out.then hk4
  have HN4 : Hid (NetB w4 n s (fun j => I j ∧ j < w.heap.size) b1 b2 b3 P) := HN.out.kept HK4.out (fun j e l => ⟨fun f => f, e, l⟩)
  have hs3 : w.heap.size ≤ w3.heap.size := HK3.out.size
  clear hG hGl hk4 HBR HBK HK3 HLk
  simp only [Wa.pA, Wa.pB, Wa.p1, Wa.p2, Wa.p3]
  have g3 := HG4.out.1.cell 3
  have f3 := HG4.out.1.frozen 3
  simp only [List.getElem?_toArray, List.getElem?_cons_zero, List.getElem?_cons_succ] at g3
  have i1 : (1 : Int) ≤ ((ps.length + 1 : Nat) : Int) := by omega
  have i2 : ((ps.length + 1 : Nat) : Int) ≤ (pc : Int) := by omega
  go_upto_if 28 with fail
  obtain ⟨po2, hpo2, hpo3⟩ : ∃ po2, (if pc = 1 then some (⟨pb, po, none⟩ : Addr) else some ⟨pb, po + 1, none⟩) = some ⟨pb, po2, none⟩ ∧ (pc ≠ 1 → po2 = po + 1) ∧ (pc = 1 → po2 = po) := by
    by_cases e : pc = 1
    · exact ⟨po, by rw [if_pos e], fun h => absurd e h, fun _ => rfl⟩
    · exact ⟨po + 1, by rw [if_neg e], fun _ => rfl, fun h => absurd h e⟩
  rw [hpo2]
  have HPl2 : Hid (PlA w pb po2 (pc - 1) ps) := by
    have h := HPl.out.tail
    by_cases e : pc = 1
    · have hl : ps = [] := by rw [← List.length_eq_zero_iff]; omega
      obtain ⟨cs, h1, h2, h3, h4⟩ := HPl.out
      refine ⟨cs, h1, by rw [hpo3.2 e]; omega, by omega, fun i p hp => by rw [hl] at hp; simp at hp⟩
    · rw [hpo3.1 e]; exact h
  have HG5 : Hid (Box (w4.setCell ⟨G, 3, none⟩ (.slice (some ⟨pb, po2, none⟩) ps.length (pc - 1))) G 81 #[.bool tc, .int .i64 ti, .slice da zs.length dc, .slice (some ⟨pb, po2, none⟩) ps.length (pc - 1)] ∧ Kept (Only G) w4 (w4.setCell ⟨G, 3, none⟩ (.slice (some ⟨pb, po2, none⟩) ps.length (pc - 1)))) := ⟨HG4.out.1.set 3 _, (Kept.refl (Only G) w4).setCell (p := ⟨G, 3, none⟩) (fun _ => rfl) _⟩
  generalize w4.setCell ⟨G, 3, none⟩ (.slice (some ⟨pb, po2, none⟩) ps.length (pc - 1)) = w5 at HG5 ⊢
  clear g3 f3 i1 i2 hpo2
  have hGs : w3.heap.size ≤ G := HG4.out.2
  have hbRl : bR < w3.heap.size := HBb.out.2.2.1
  have hbKl : bK < w3.heap.size := HBb.out.2.2.2
  have HN5 : Hid (NetB w5 n s (fun j => I j ∧ j < w.heap.size) b1 b2 b3 P) := HN4.out.kept HG5.out.2 (fun j e l => ⟨fun f => by have f : j = G := f; have := e.2; omega, e⟩)
  have HBK5 : Hid (Box w5 bK 79 #[.bool kc, .int .i64 ki, .int .i64 kn]) := HBK4.out.kept HG5.out.2 (fun e => by have e : bK = G := e; omega)
  have HBR5 : Hid (Box w5 bR 81 #[.bool false, .int .i64 0, .slice none 0 0, .slice none 0 0]) := HBR4.out.kept HG5.out.2 (fun e => by have e : bR = G := e; omega)
  go_cut [] from 28 to 39 (fun wc => Hid (MapG mkN wc b3 (gN (rmN ((kc, ki), kn) s.L) (upP P ((kc, ki), kn) (pb, po2, pc - 1))) ∧ Kept (Only b3) w5 wc))
  case first =>
    have hE : (gN (rmN ((kc, ki), kn) s.L) (upP P ((kc, ki), kn) (pb, po2, pc - 1)) = upG (gN s.L P) ((kc, ki), kn) (if ps = [] then none else some (.agg #[.bool tc, .int .i64 ti, .slice da zs.length dc, .slice (some ⟨pb, po2, none⟩) ps.length (pc - 1)]))) := by
      have h := gN_rm HN.out.ok HF.out P (pb, po2, pc - 1)
      rw [HPs.out] at h
      rw [h]
      simp [plV, upP, alV]
    have HE : Hid _ := hE
    clear hE
    by_cases h0 : 0 < ps.length
    · rw [decide_eq_true h0]
      have hne : ps ≠ [] := fun e => by rw [e] at h0; simp at h0
      go_upto_region 6 with fail
      refine l6 _ n bK G b3 ((kc, ki), kn) (gN s.L P) _ _ _ _ _ _ _ w5 _ rfl rfl rfl rfl HN5.out.box HBK5.out HG5.out.1 HN5.out.m3 (fun _ _ t _ _ h => by cases t <;> exact h) ?_
      intro w6 hm6 hk6
      have HM : Hid (MapG mkN w6 b3 (gN (rmN ((kc, ki), kn) s.L) (upP P ((kc, ki), kn) (pb, po2, pc - 1))) ∧ Kept (Only b3) w5 w6) := ⟨by rw [HE.out, if_neg hne]; exact hm6, hk6⟩
      simp only [Wa.pA, Wa.pB, Wa.p1, Wa.p2, Wa.p3]
      go_wp2
      go_meet
      case rel => exact HM
    · rw [decide_eq_false h0]
      have hne : ps = [] := by rw [← List.length_eq_zero_iff]; omega
      go_upto_region 7 with fail
      refine l7 _ n bK b3 ((kc, ki), kn) (gN s.L P) _ _ _ w5 _ rfl rfl rfl HN5.out.box HBK5.out HN5.out.m3 (fun _ _ t _ _ h => by cases t <;> exact h) ?_
      intro w6 hm6 hk6
      have HM : Hid (MapG mkN w6 b3 (gN (rmN ((kc, ki), kn) s.L) (upP P ((kc, ki), kn) (pb, po2, pc - 1))) ∧ Kept (Only b3) w5 w6) := ⟨by rw [HE.out, if_pos hne]; exact hm6, hk6⟩
      simp only [Wa.pA, Wa.pB, Wa.p1, Wa.p2, Wa.p3]
      go_wp2
      go_meet
      case rel => exact HM
  have HM6 := hcut
  clear hcut
  have HBKc : Hid (Box wc bK 79 #[.bool kc, .int .i64 ki, .int .i64 kn]) := HBK5.out.kept HM6.out.2 (fun e => HBK5.out.neMap HN5.out.m3 e)
  have HBRc : Hid (Box wc bR 81 #[.bool false, .int .i64 0, .slice none 0 0, .slice none 0 0]) := HBR5.out.kept HM6.out.2 (fun e => HBR5.out.neMap HN5.out.m3 e)
  have HGc : Hid (Box wc G 81 #[.bool tc, .int .i64 ti, .slice da zs.length dc, .slice (some ⟨pb, po2, none⟩) ps.length (pc - 1)]) := HG5.out.1.kept HM6.out.2 (fun e => HG5.out.1.neMap HN5.out.m3 e)
  have HBc : Hid (Box wc n 69 #[.map (some b1), .map (some b2), .map (some b3), .int .i64 (s.came : Nat)]) := HN5.out.box.kept HM6.out.2 (fun e => HN5.out.box.neMap HN5.out.m3 e)
  have HM2c : Hid (MapG mkP wc b2 (gP s.L)) := HN5.out.m2.kept HM6.out.2 (fun e => HN5.out.ne.2.2 e)
  have k0 := HBKc.out.cell 0
  have k1 := HBKc.out.cell 1
  have g0 := HGc.out.cell 0
  have g1 := HGc.out.cell 1
  simp only [List.getElem?_toArray, List.getElem?_cons_zero, List.getElem?_cons_succ] at k0 k1 g0 g1
  go_upto_region 9 with fail
  have HW7 : Hid (Box (wc.alloc (.cells #[.bool kc, .int .i64 ki, .bool tc, .int .i64 ti] 76)) wc.heap.size 76 #[.bool kc, .int .i64 ki, .bool tc, .int .i64 ti] ∧ Kept No wc (wc.alloc (.cells #[.bool kc, .int .i64 ki, .bool tc, .int .i64 ti] 76))) := ⟨Box.new _ _ _, (Kept.refl No _).alloc _⟩
  generalize wc.alloc (.cells #[.bool kc, .int .i64 ki, .bool tc, .int .i64 ti] 76) = w7 at HW7 ⊢
  have hsc : w.heap.size ≤ wc.heap.size := Nat.le_trans HK4.out.size (Nat.le_trans HG5.out.2.size HM6.out.2.size)
  generalize wc.heap.size = bW at HW7 hsc ⊢
  clear k0 k1 g0 g1
  have hqk : qn = ((kc, ki), kn) := HQ.out.2
  obtain ⟨c, hc⟩ : ∃ c, cnP s.L ((kc, ki), (tc, ti)) = c + 1 := by
    have h := cnP_rm ((kc, ki), kn) ((kc, ki), (tc, ti)) s.L _ HF.out
    rw [if_pos (by show (qn.1, (tc, ti)) = _; rw [hqk])] at h
    exact ⟨_, h⟩
  have HCc : Hid (cnP s.L ((kc, ki), (tc, ti)) = c + 1) := hc
  have hc64 : c < 64 := by have := HN.out.ok.way ((kc, ki), (tc, ti)); omega
  clear hc
  have HM27 : Hid (MapG mkP w7 b2 (gP s.L)) := HM2c.out.kept HW7.out.2 (fun e => e)
  refine l9 _ n bW b2 c ((kc, ki), (tc, ti)) (gP s.L) _ _ _ w7 _ rfl rfl rfl (HBc.out.kept HW7.out.2 (fun e => e)) HW7.out.1 HM27.out (by rw [gP_get, HCc.out]) (by omega) (fun _ _ t _ _ h => by cases t <;> exact h) ?_
  intro w8 st hm8 hk8
  have HM8 : Hid (MapG mkP w8 b2 (upG (gP s.L) ((kc, ki), (tc, ti)) (some (.int .i64 (c : Int)))) ∧ Kept (Only b2) w7 w8) := ⟨hm8, hk8⟩
  have HB8 : Hid (Box w8 n 69 #[.map (some b1), .map (some b2), .map (some b3), .int .i64 (s.came : Nat)]) := (HBc.out.kept HW7.out.2 (fun e => e)).kept hk8 (fun e => (HBc.out.kept HW7.out.2 (fun e => e)).neMap HM27.out e)
  have HW8 : Hid (Box w8 bW 76 #[.bool kc, .int .i64 ki, .bool tc, .int .i64 ti]) := HW7.out.1.kept hk8 (fun e => HW7.out.1.neMap HM27.out e)
  clear hm8 hk8
  simp only [Wa.pA, Wa.pB, Wa.p1, Wa.p2, Wa.p3]
  go_upto_region 10 with fail
  refine l10 _ n bW b2 c ((kc, ki), (tc, ti)) _ _ _ w8 _ rfl rfl rfl HB8.out HW8.out ⟨_, HM8.out.1, by rw [upG, if_pos rfl]; rfl⟩ (fun _ _ t _ _ h => by cases t <;> exact h) ?_
  intro w9 hk9
  have HM9 : Hid (MapG mkP w9 b2 (upG (gP s.L) ((kc, ki), (tc, ti)) (some (.int .i64 (c : Int)))) ∧ Kept No w8 w9) := ⟨HM8.out.1.kept hk9 (fun e => e), hk9⟩
  have HB9 : Hid (Box w9 n 69 #[.map (some b1), .map (some b2), .map (some b3), .int .i64 (s.came : Nat)]) := HB8.out.kept hk9 (fun e => e)
  have HW9 : Hid (Box w9 bW 76 #[.bool kc, .int .i64 ki, .bool tc, .int .i64 ti]) := HW8.out.kept hk9 (fun e => e)
  clear hk9
  simp only [Wa.pA, Wa.pB, Wa.p1, Wa.p2, Wa.p3]
  have K09 : Hid (Kept (fun j => j = b2 ∨ j = b3 ∨ w.heap.size ≤ j) w w9) := by
    refine ((((HK4.out.of_no.then (HG5.out.2.mono (fun j _ e => .inr (.inr ?_)))).then (HM6.out.2.mono (fun j _ e => .inr (.inl e)))).then HW7.out.2.of_no).then (HM8.out.2.mono (fun j _ e => .inl e))).then HM9.out.2.of_no
    have e : j = G := e
    omega
  have Kc9 : Hid (Kept (Only b2) wc w9) := (HW7.out.2.of_no.then HM8.out.2).then HM9.out.2.of_no
  have HG9 : Hid (Box w9 G 81 #[.bool tc, .int .i64 ti, .slice da zs.length dc, .slice (some ⟨pb, po2, none⟩) ps.length (pc - 1)]) := HGc.out.kept Kc9.out (fun e => HGc.out.neMap HM2c.out e)
  have HBR9 : Hid (Box w9 bR 81 #[.bool false, .int .i64 0, .slice none 0 0, .slice none 0 0]) := HBRc.out.kept Kc9.out (fun e => HBRc.out.neMap HM2c.out e)
  have HM39 : Hid (MapG mkN w9 b3 (gN (rmN ((kc, ki), kn) s.L) (upP P ((kc, ki), kn) (pb, po2, pc - 1)))) := HM6.out.1.kept Kc9.out (fun e => HN.out.ne.2.2 e.symm)
  go_upto_if 60 with fail
  go_cut [] from 60 to 65 (fun wd => Hid (MapG mkP wd b2 (gP (rmN ((kc, ki), kn) s.L)) ∧ Kept (Only b2) w9 wd))
  case first =>
    have hE : gP (rmN ((kc, ki), kn) s.L) = upG (gP s.L) ((kc, ki), (tc, ti)) (if c = 0 then none else some (.int .i64 (c : Int))) := by
      rw [gP_rm HF.out]
      show upG (gP s.L) (qn.1, (tc, ti)) (if cnP s.L (qn.1, (tc, ti)) = 1 then none else some (.int .i64 ((cnP s.L (qn.1, (tc, ti)) - 1 : Nat) : Int))) = _
      rw [hqk]
      show upG (gP s.L) ((kc, ki), (tc, ti)) (if cnP s.L ((kc, ki), (tc, ti)) = 1 then none else some (.int .i64 ((cnP s.L ((kc, ki), (tc, ti)) - 1 : Nat) : Int))) = _
      rw [HCc.out]
      simp
    have HE : Hid _ := hE
    clear hE
    by_cases h0 : c = 0
    · rw [decide_eq_true h0]
      go_upto_region 11 with fail
      refine l11 _ n bW b2 ((kc, ki), (tc, ti)) _ _ _ _ w9 _ rfl rfl rfl HB9.out HW9.out HM9.out.1 (fun _ _ t _ _ h => by cases t <;> exact h) ?_
      intro w6 hm6 hk6
      have HM : Hid (MapG mkP w6 b2 (gP (rmN ((kc, ki), kn) s.L)) ∧ Kept (Only b2) w9 w6) := ⟨by rw [HE.out, if_pos h0]; rw [up_up] at hm6; exact hm6, hk6⟩
      simp only [Wa.pA, Wa.pB, Wa.p1, Wa.p2, Wa.p3]
      go_wp2
      go_meet
      case rel => exact HM
    · rw [decide_eq_false h0]
      have HM : Hid (MapG mkP w9 b2 (gP (rmN ((kc, ki), kn) s.L)) ∧ Kept (Only b2) w9 w9) := ⟨by rw [HE.out, if_neg h0]; exact HM9.out.1, Kept.refl _ _⟩
      go_wp2
      go_meet
      case rel => exact HM
  have HMd := hcut
  clear hcut
  have HGd : Hid (Box wc G 81 #[.bool tc, .int .i64 ti, .slice da zs.length dc, .slice (some ⟨pb, po2, none⟩) ps.length (pc - 1)]) := HG9.out.kept HMd.out.2 (fun e => HG9.out.neMap HM9.out.1 e)
  have HRd : Hid (Box wc bR 81 #[.bool false, .int .i64 0, .slice none 0 0, .slice none 0 0]) := HBR9.out.kept HMd.out.2 (fun e => HBR9.out.neMap HM9.out.1 e)
  have g0 := HGd.out.cell 0
  have g1 := HGd.out.cell 1
  have g2 := HGd.out.cell 2
  have g3 := HGd.out.cell 3
  simp only [List.getElem?_toArray, List.getElem?_cons_zero, List.getElem?_cons_succ] at g0 g1 g2 g3
  go_wp2_with (refine wpList_store_row rfl 81 _ _ rfl bR #[.bool tc, .int .i64 ti, .slice da zs.length dc, .slice (some ⟨pb, po2, none⟩) ps.length (pc - 1)] rfl rfl 81 #[.bool false, .int .i64 0, .slice none 0 0, .slice none 0 0] HRd.out (by kernel_rfl) rfl (by simp [Value.oneCell']) ?_)
  refine bodyPost_ret (Wa.results_row_tmp (by rfl) _ _ bR #[.bool tc, .int .i64 ti, .slice da zs.length dc, .slice (some ⟨pb, po2, none⟩) ps.length (pc - 1)] (by rfl) (ld81 (Wa.Box.setRow HRd.out _))) rfl ?_
  refine ⟨.slice (some ⟨pb, po2, none⟩) ps.length (pc - 1), ⟨_, _, _, rfl⟩, rfl, ?_⟩
  have KF : Kept (fun j => j = b2 ∨ j = b3 ∨ w.heap.size ≤ j) w (wc.setRow bR #[.bool tc, .int .i64 ti, .slice da zs.length dc, .slice (some ⟨pb, po2, none⟩) ps.length (pc - 1)]) := by
    refine (K09.out.then (HMd.out.2.mono (fun j _ e => .inl e))).then ((Wa.Kept.setRow _ _ _).mono (fun j _ e => .inr (.inr ?_)))
    have e : j = bR := e
    have := HBb.out.2.1
    omega
  have KM : Kept (fun j => w.heap.size ≤ j) wc (wc.setRow bR #[.bool tc, .int .i64 ti, .slice da zs.length dc, .slice (some ⟨pb, po2, none⟩) ps.length (pc - 1)]) := (Wa.Kept.setRow _ _ _).mono (fun j _ e => by have e : j = bR := e; have := HBb.out.2.1; show w.heap.size ≤ j; omega)
  have hPP := HPP.out
  exact leave_fin (q := ⟨qn, (tc, ti), da, dc, zs, pl⟩) HN.out HF.out (by rw [HPs.out]; rfl) (by rw [hPP]) (by rw [hPP]) HPl2.out KF KM HMd.out.1 (HM39.out.kept HMd.out.2 (fun e => HN.out.ne.2.2 e.symm))
end

end Go.Proofs.Ytphiokehcgbldaa
