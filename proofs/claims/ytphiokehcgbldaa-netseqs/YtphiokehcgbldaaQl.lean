import Derived.Test.YtphiokehcgbldaaQk
namespace Go.Proofs.Ytphiokehcgbldaa
open Go.RowKit Go.Shelf
set_option linter.unusedVariables false
set_option linter.unusedSimpArgs false

set_option maxRecDepth 100000 in
set_option maxHeartbeats 16000000 in
theorem wstep_any {X : Nat → Prop} {w0 : World} {n r : Nat} {s : Ns} {ys : List Tp} {ss : List Ad} (x : St) (w : World) (h : Wd w0 w n r s ys ss X) (hx : StOk w0 x) (hc : s.came < 900000000) (hsl : ss.length < 900000000) :
    Calls Try.prog 9 #[.agg #[.pointer (some ⟨n, 0, none⟩), .pointer (some ⟨r, 0, none⟩)], .agg x.cs.toArray] w (StO w0 w n r s ss X 70) := by
  obtain ⟨xk, ⟨fc, fi⟩, ⟨tc, ti⟩, cc, da, dl, dcp, zs⟩ := x
  obtain ⟨I, la, lc, sa, sc, hN, hR, hIX, hBX⟩ := h.cut.net
  have HH : Hid (Wd w0 w n r s ys ss X ∧ StOk w0 ⟨xk, (fc, fi), (tc, ti), cc, da, dl, dcp, zs⟩) := ⟨h, hx⟩
  have HN : Hid (NetM w n s I ∧ RfM w r ys ss la lc sa sc w0.heap.size ∧ (∀ k, I k → X k ∧ k < w.heap.size) ∧ ∀ k, RfB r la sa k → (X k ∧ k < w.heap.size) ∧ ¬ I k) := ⟨hN, hR, hIX, hBX⟩
  have hyl : ys.length ≤ 1000000000 := by have := h.len; omega
  clear h hx hN hR hIX hBX
  simp only [St.cs]
  go_enter Try.func9, Try.ntmps9
  go_upto_region 1 with fail
  have h2 := two w 31 37 #[.pointer (some ⟨n, 0, none⟩), .pointer (some ⟨r, 0, none⟩)] #[.int .i64 xk, .bool fc, .int .i64 fi, .bool tc, .int .i64 ti, .int .i64 cc, .slice da dl dcp]
  obtain ⟨bW, hbW⟩ : ∃ b, b = w.heap.size := ⟨_, rfl⟩
  obtain ⟨bX, hbX⟩ : ∃ b, b = w.heap.size + 1 := ⟨_, rfl⟩
  rw [← hbX, ← hbW] at h2
  rw [← hbX, ← hbW]
  generalize (w.alloc (.cells #[.pointer (some ⟨n, 0, none⟩), .pointer (some ⟨r, 0, none⟩)] 31)).alloc (.cells #[.int .i64 xk, .bool fc, .int .i64 fi, .bool tc, .int .i64 ti, .int .i64 cc, .slice da dl dcp] 37) = w1 at h2 ⊢
  have HB1 : Hid (Sp w0 w w1 n r ⟨xk, (fc, fi), (tc, ti), cc, da, dl, dcp, zs⟩ bW bX w1 ∧ Kept No w w1 ∧ w.heap.size ≤ bW ∧ w.heap.size ≤ bX ∧ bW < w1.heap.size ∧ bX < w1.heap.size) := ⟨⟨h2.1, h2.2.1⟩, h2.2.2, by omega, by omega, h2.1.lt, h2.2.1.lt⟩
  clear h2 hbW hbX
  have HW1 : Hid (Wd w0 w1 n r s ys ss X) := HH.out.1.no HB1.out.2.1
  have v0 : w1.cell? ⟨bW, 0, none⟩ = some (.pointer (some ⟨n, 0, none⟩)) := HB1.out.1.bw.cell 0
  have v1 : w1.cell? ⟨bW, 1, none⟩ = some (.pointer (some ⟨r, 0, none⟩)) := HB1.out.1.bw.cell 1
  obtain ⟨x0, x1, x2, x3, x4, x5, x6⟩ := Box.stAt (x := ⟨xk, (fc, fi), (tc, ti), cc, da, dl, dcp, zs⟩) HB1.out.1.bx
  simp only at x0 x1 x2 x3 x4 x5 x6
  have HF : Hid (∀ d e w', d ≤ 70 → StO w0 w1 n r s ss X d e w' → StO w0 w n r s ss X 70 e w') := fun d e w' hd hs => hs.from HB1.out.2.1 (fun _ e => e) HH.out.1.low HH.out.1.kept hd
  have HS : Hid (∀ w', Kept No w1 w' → StO w0 w n r s ss X 70 (.returned (.bool true)) w') := fun w' hk => StO.same HH.out.1 (HB1.out.2.1.then hk)
  by_cases k1 : xk = 1
  · subst k1
    go_wp2_with (go_at_call 28; refine (wsend_any ⟨1, (fc, fi), (tc, ti), cc, da, dl, dcp, zs⟩ w1 HW1.out HH.out.2 (by omega) (by omega)).mono ?_; intro e w2 hs; have he := hs.1; subst he; have H2 : Hid (StO w0 w1 n r s ss X 1 (.returned (.bool true)) w2) := hs; clear hs)
    go_ret
    exact HF.out 1 _ _ (by omega) H2.out
  by_cases k2 : xk = 2
  · subst k2
    go_wp2_with (go_at_call 29; refine (wdeliver_any fc fi cc w1 HW1.out (by omega)).mono ?_; intro e w2 hs; have he := hs.1; subst he; have H2 : Hid (StO w0 w1 n r s ss X 0 (.returned (.bool true)) w2) := hs; clear hs)
    go_ret
    exact HF.out 0 _ _ (by omega) H2.out
  by_cases k3 : xk = 3
  · subst k3
    rcases plc_iff HH.out.1.eq ((fc, fi), cc) with ⟨hp, hf⟩ | ⟨i, y, hp, hy, hyn, hf, hrm, hym⟩
    · have HP : Hid (plc ((fc, fi), cc) ys = none ∧ s.L.find? (isN ((fc, fi), cc)) = none) := ⟨hp, hf⟩
      clear hp hf
      go_upto_region 8 with (go_at_call 16; refine (lose_no fc fi cc w1 (HN.out.1.no HB1.out.2.1) HP.out.2).mono ?_; rintro e w2 ⟨rfl, hk2⟩; have H2 : Hid (Kept No w1 w2 ∧ Sp w0 w w1 n r ⟨3, (fc, fi), (tc, ti), cc, da, dl, dcp, zs⟩ bW bX w2) := ⟨hk2, HB1.out.1.no hk2⟩; clear hk2)
      clear v0 v1 x0 x1 x2 x3 x4 x5 x6
      have v1 : w2.cell? ⟨bW, 1, none⟩ = some (.pointer (some ⟨r, 0, none⟩)) := H2.out.2.bw.cell 1
      obtain ⟨x0, x1, x2, x3, x4, x5, x6⟩ := Box.stAt (x := ⟨3, (fc, fi), (tc, ti), cc, da, dl, dcp, zs⟩) H2.out.2.bx
      simp only at x0 x1 x2 x3 x4 x5 x6
      go_wp2_with (go_at_call 30; refine (deliverR_any fc fi cc w2 ((HN.out.2.1.no HB1.out.2.1).no H2.out.1) (by omega) ((HH.out.1.kept.then HB1.out.2.1).then H2.out.1).size).mono ?_; intro e w3 hd; obtain ⟨rfl, hk3⟩ : e = .returned (.tuple #[.agg #[.bool false, .int .i64 0, .int .i64 0, .bool false, .int .i64 0, .slice none 0 0], .int .i64 150]) ∧ Kept No w2 w3 := (by rcases hd with ⟨_, h1, h2⟩ | ⟨i, y, _, _, h1, _⟩; exact ⟨h1, h2⟩; rw [HP.out.1] at h1; cases h1); have H3 : Hid (Kept No w1 w3) := H2.out.1.then hk3; clear hk3 hd)
      go_ret
      exact HS.out _ (H3.out.alloc _)
    · obtain ⟨⟨⟨⟨yc, yi⟩, yn⟩, ⟨ytc, yti⟩, yda, ydc, yz, ypl⟩, ya, ycc⟩ := y
      simp only at hyn
      cases hyn
      have HP : Hid (plc ((fc, fi), cc) ys = some i ∧ ys[i]? = some ⟨⟨((fc, fi), cc), (ytc, yti), yda, ydc, yz, ypl⟩, ya, ycc⟩ ∧ s.L.find? (isN ((fc, fi), cc)) = some ⟨((fc, fi), cc), (ytc, yti), yda, ydc, yz, ypl⟩ ∧ rmN ((fc, fi), cc) s.L = (ys.eraseIdx i).map Tp.q) := ⟨hp, hy, hf, hrm⟩
      clear hp hf hy hrm hym
      go_upto_region 8 with (go_at_call 16; refine (lose_yes fc fi cc w1 (HN.out.1.no HB1.out.2.1) HP.out.2.2.1).mono ?_; rintro e w2 ⟨rfl, hk2, hN2⟩; have H2 : Hid (Kept (W5 w1 I) w1 w2 ∧ NetM w2 n ⟨s.sent, rmN ((fc, fi), cc) s.L, s.came⟩ (fun j => I j ∨ w1.heap.size ≤ j) ∧ Sp w0 w w1 n r ⟨3, (fc, fi), (tc, ti), cc, da, dl, dcp, zs⟩ bW bX w2 ∧ RfM w2 r ys ss la lc sa sc w0.heap.size ∧ w0.heap.size ≤ w2.heap.size) := ⟨hk2, hN2, HB1.out.1.off hk2 (fun e => by have := (HN.out.2.2.1 _ e.1).2; have := HB1.out.2.2.1; omega) (fun e => by have := (HN.out.2.2.1 _ e.1).2; have := HB1.out.2.2.2.1; omega), (HN.out.2.1.no HB1.out.2.1).kept hk2 (fun k e f => (HN.out.2.2.2 k e).2 f.1), Nat.le_trans (HH.out.1.kept.then HB1.out.2.1).size hk2.size⟩; clear hk2 hN2)
      clear v0 v1 x0 x1 x2 x3 x4 x5 x6
      have v1 : w2.cell? ⟨bW, 1, none⟩ = some (.pointer (some ⟨r, 0, none⟩)) := H2.out.2.2.1.bw.cell 1
      obtain ⟨x0, x1, x2, x3, x4, x5, x6⟩ := Box.stAt (x := ⟨3, (fc, fi), (tc, ti), cc, da, dl, dcp, zs⟩) H2.out.2.2.1.bx
      simp only at x0 x1 x2 x3 x4 x5 x6
      go_wp2_with (go_at_call 30; refine (deliverR_any fc fi cc w2 H2.out.2.2.2.1 (by omega) H2.out.2.2.2.2).mono ?_; intro e w3 hd; obtain ⟨la', lc', rfl, hR4, hk4, hla4⟩ : ∃ la' lc', e = .returned (.tuple #[.agg #[.bool fc, .int .i64 fi, .int .i64 cc, .bool ytc, .int .i64 yti, .slice ya yz.length ycc], .int .i64 0]) ∧ RfM w3 r (ys.eraseIdx i) ss la' lc' sa sc w0.heap.size ∧ Kept (Only r) w2 w3 ∧ ∀ j, At la' j → w2.heap.size ≤ j := (by rcases hd with ⟨h1, _⟩ | ⟨i', y', la', lc', h1, h2, h3, h4, h5, h6⟩; rw [HP.out.1] at h1; cases h1; rw [HP.out.1] at h1; cases h1; rw [HP.out.2.1] at h2; cases h2; exact ⟨la', lc', h3, h4, h5, h6⟩); have H4 : Hid (RfM w3 r (ys.eraseIdx i) ss la' lc' sa sc w0.heap.size ∧ Kept (Only r) w2 w3 ∧ ∀ j, At la' j → w2.heap.size ≤ j) := ⟨hR4, hk4, hla4⟩; clear hR4 hk4 hla4 hd)
      go_ret
      exact (rm_st HH.out.1 HB1.out.2.1 H2.out.2.1 H2.out.1 HN.out.2.2.1 HN.out.2.2.2 HN.out.2.1 H4.out.1 H4.out.2.1 H4.out.2.2 ((Kept.refl No w3).alloc _) HP.out.2.2.2).from (Kept.refl No w) (fun _ e => e) HH.out.1.low HH.out.1.kept (by omega)
  by_cases k4 : xk = 4
  · subst k4
    rcases plc_iff HH.out.1.eq ((fc, fi), cc) with ⟨hp, hf⟩ | ⟨i, y, hp, hy, hyn, hf, hrm, hym⟩
    · have HP : Hid (plc ((fc, fi), cc) ys = none ∧ s.L.find? (isN ((fc, fi), cc)) = none) := ⟨hp, hf⟩
      clear hp hf
      go_upto_region 12 with (go_at_call 18; refine (double_no fc fi cc w1 (HN.out.1.no HB1.out.2.1) (by omega) HP.out.2).mono ?_; rintro e w2 ⟨rfl, hk2⟩; have H2 : Hid (Kept No w1 w2 ∧ Sp w0 w w1 n r ⟨4, (fc, fi), (tc, ti), cc, da, dl, dcp, zs⟩ bW bX w2) := ⟨hk2, HB1.out.1.no hk2⟩; clear hk2)
      clear v0 v1 x0 x1 x2 x3 x4 x5 x6
      have v1 : w2.cell? ⟨bW, 1, none⟩ = some (.pointer (some ⟨r, 0, none⟩)) := H2.out.2.bw.cell 1
      obtain ⟨x0, x1, x2, x3, x4, x5, x6⟩ := Box.stAt (x := ⟨4, (fc, fi), (tc, ti), cc, da, dl, dcp, zs⟩) H2.out.2.bx
      simp only at x0 x1 x2 x3 x4 x5 x6
      go_wp2_with (go_at_call 31; refine (doubleR_any (s.came + 1) fc fi cc w2 ((HN.out.2.1.no HB1.out.2.1).no H2.out.1) (by omega) ((HH.out.1.kept.then HB1.out.2.1).then H2.out.1).size).mono ?_; intro e w3 hd; obtain ⟨rfl, hk3⟩ : e = .returned (.int .i64 150) ∧ Kept No w2 w3 := (by rcases hd with ⟨_, h1, h2⟩ | ⟨i, y, _, _, h1, _⟩; exact ⟨h1, h2⟩; rw [HP.out.1] at h1; cases h1); have H3 : Hid (Kept No w1 w3) := H2.out.1.then hk3; clear hk3 hd)
      go_ret
      exact HS.out _ H3.out
    · have HP : Hid (plc ((fc, fi), cc) ys = some i ∧ ys[i]? = some y ∧ s.L.find? (isN ((fc, fi), cc)) = some y.q ∧ y ∈ ys) := ⟨hp, hy, hf, hym⟩
      clear hp hf hy hrm hym hyn
      go_upto_region 12 with (go_at_call 18; refine (double_yes fc fi cc w1 (HN.out.1.no HB1.out.2.1) (by omega) HP.out.2.2.1).mono ?_; rintro e w2 ⟨rfl, hk2, hN2⟩; have H2 : Hid (Kept (W5 w1 I) w1 w2 ∧ NetM w2 n (addS s { y.q with pl := s.came + 1 }) (fun j => I j ∨ w1.heap.size ≤ j) ∧ Sp w0 w w1 n r ⟨4, (fc, fi), (tc, ti), cc, da, dl, dcp, zs⟩ bW bX w2 ∧ RfM w2 r ys ss la lc sa sc w0.heap.size ∧ w0.heap.size ≤ w2.heap.size) := ⟨hk2, hN2, HB1.out.1.off hk2 (fun e => by have := (HN.out.2.2.1 _ e.1).2; have := HB1.out.2.2.1; omega) (fun e => by have := (HN.out.2.2.1 _ e.1).2; have := HB1.out.2.2.2.1; omega), (HN.out.2.1.no HB1.out.2.1).kept hk2 (fun k e f => (HN.out.2.2.2 k e).2 f.1), Nat.le_trans (HH.out.1.kept.then HB1.out.2.1).size hk2.size⟩; clear hk2 hN2)
      clear v0 v1 x0 x1 x2 x3 x4 x5 x6
      have v1 : w2.cell? ⟨bW, 1, none⟩ = some (.pointer (some ⟨r, 0, none⟩)) := H2.out.2.2.1.bw.cell 1
      obtain ⟨x0, x1, x2, x3, x4, x5, x6⟩ := Box.stAt (x := ⟨4, (fc, fi), (tc, ti), cc, da, dl, dcp, zs⟩) H2.out.2.2.1.bx
      simp only at x0 x1 x2 x3 x4 x5 x6
      go_wp2_with (go_at_call 31; refine (doubleR_any (s.came + 1) fc fi cc w2 H2.out.2.2.2.1 (by omega) H2.out.2.2.2.2).mono ?_; intro e w3 hd; obtain ⟨la', lc', rfl, hR4, hk4, hla4⟩ : ∃ la' lc', e = .returned (.int .i64 0) ∧ RfM w3 r (rfAdd ys (y.at (s.came + 1))) ss la' lc' sa sc w0.heap.size ∧ Kept (RfB r la sa) w2 w3 ∧ ∀ j, At la' j → At la j ∨ w2.heap.size ≤ j := (by rcases hd with ⟨h1, _⟩ | ⟨i', y', la', lc', h1, h2, h3, h4, h5, h6⟩; rw [HP.out.1] at h1; cases h1; rw [HP.out.1] at h1; cases h1; rw [HP.out.2.1] at h2; cases h2; exact ⟨la', lc', h3, h4, h5, h6⟩); have H4 : Hid (RfM w3 r (rfAdd ys (y.at (s.came + 1))) ss la' lc' sa sc w0.heap.size ∧ Kept (RfB r la sa) w2 w3 ∧ ∀ j, At la' j → At la j ∨ w2.heap.size ≤ j) := ⟨hR4, hk4, hla4⟩; clear hR4 hk4 hla4 hd)
      go_ret
      exact (db_st HH.out.1 HB1.out.2.1 H2.out.2.1 H2.out.1 HN.out.2.2.1 HN.out.2.2.2 HN.out.2.1 H4.out.1 H4.out.2.1 H4.out.2.2 HP.out.2.2.2).from (Kept.refl No w) (fun _ e => e) HH.out.1.low HH.out.1.kept (by omega)
  by_cases k5 : xk = 5
  · subst k5
    go_wp2_with (go_at_call 10; refine (wunder_any w1 HW1.out (by omega)).mono ?_; rintro e w2 ⟨rfl, hk2⟩; have H2 : Hid (Kept No w1 w2) := hk2; clear hk2)
    go_ret
    exact HS.out _ H2.out
  by_cases k6 : xk = 6
  · subst k6
    clear v0 v1 x1 x2 x3 x4 x5 x6
    go_upto_region 16 with fail
    refine t16 _ bW bX n r (cnP s.L ((fc, fi), (tc, ti))) 0 6 fi ti cc fc tc (.slice da dl dcp) w1 _ rfl rfl rfl HB1.out.1.bw HB1.out.1.bx (fun W hk => pair3 W (HN.out.1.no (HB1.out.2.1.then hk)) (fc, fi) (tc, ti) fc tc fi ti rfl rfl) (fun W hk => ?_) ?_
    · refine (pairR_any fc tc fi ti W (HN.out.2.1.no (HB1.out.2.1.then hk)) (by omega)).mono ?_
      rintro e w' ⟨rfl, hk'⟩
      rw [HH.out.1.eq]
      exact ⟨rfl, hk'⟩
    · intro wo hko
      have H2 : Hid (Kept No w1 wo) := hko
      clear hko
      simp only [Wa.pA, Wa.pB, Wa.p1, Wa.p2, Wa.p3]
      go_wp2
      go_ret
      exact HS.out _ H2.out
  by_cases k7 : xk = 7
  · subst k7
    go_upto_region 19 with (go_at_call 19; refine (clear_any w1 (HN.out.1.no HB1.out.2.1)).mono ?_; rintro e w2 ⟨rfl, hk2, hN2⟩; have H2 : Hid (Kept (W5 w1 I) w1 w2 ∧ NetM w2 n ⟨s.sent, [], s.came⟩ I ∧ Sp w0 w w1 n r ⟨7, (fc, fi), (tc, ti), cc, da, dl, dcp, zs⟩ bW bX w2 ∧ RfM w2 r ys ss la lc sa sc w0.heap.size) := ⟨hk2, hN2, HB1.out.1.off hk2 (fun e => by have := (HN.out.2.2.1 _ e.1).2; have := HB1.out.2.2.1; omega) (fun e => by have := (HN.out.2.2.1 _ e.1).2; have := HB1.out.2.2.2.1; omega), (HN.out.2.1.no HB1.out.2.1).kept hk2 (fun k e f => (HN.out.2.2.2 k e).2 f.1)⟩; clear hk2 hN2)
    clear v0 v1 x0 x1 x2 x3 x4 x5 x6
    have v1 : w2.cell? ⟨bW, 1, none⟩ = some (.pointer (some ⟨r, 0, none⟩)) := H2.out.2.2.1.bw.cell 1
    have r0 : w2.cell? ⟨r, 0, none⟩ = some (.slice la ys.length lc) := H2.out.2.2.2.cells.1
    have f0 := H2.out.2.2.2.box.frozen 0
    go_wp2
    go_ret
    refine (clr_st HH.out.1 HB1.out.2.1 H2.out.2.1 H2.out.1 HN.out.2.2.1 HN.out.2.2.2 HN.out.2.1 ?_ ((Kept.refl (Only r) w2).setCell (p := ⟨r, 0, none⟩) (fun _ => rfl) _)).from (Kept.refl No w) (fun _ e => e) HH.out.1.low HH.out.1.kept (by omega)
    have hb := H2.out.2.2.2.box.set 0 (.slice none 0 0)
    simpa using hb
  by_cases k8 : xk = 8
  · subst k8
    obtain ⟨R, hR, hR70⟩ : ∃ R : Nat, rndN cc 70 = (R : Int) ∧ R < 70 := by
      have := rnd_bd cc 70 (by omega)
      exact ⟨(rndN cc 70).toNat, by omega, by omega⟩
    have HRd : Hid (rndN cc 70 = (R : Int)) := hR
    clear hR
    have HCall : Hid (∀ W, Calls Try.prog 33 #[.int .i64 cc, .int .i64 70] W (fun e w' => e = .returned (.int .i64 (R : Int)) ∧ w' = W)) := fun W => by
      refine (round_any cc 70 (by omega) (by omega) W).mono ?_
      rintro e w' ⟨rfl, rfl⟩
      exact ⟨by rw [← HRd.out]; rfl, rfl⟩
    go_wp2
    clear v0 v1 x0 x1 x2 x3 x4 x5 x6
    go_loopw [9] (fun iv wr => ∃ (k : Nat) (s' : Ns) (ys' : List Tp) (ss' : List Ad), k ≤ R ∧ iv = .int .i64 (k : Int) ∧ Hid (Wd w0 wr n r s' ys' ss' (fun j => (X j ∧ j < w.heap.size) ∨ w1.heap.size ≤ j) ∧ Kept (W5 w1 (fun j => X j ∧ j < w.heap.size)) w1 wr ∧ s'.came ≤ s.came + k ∧ ss'.length ≤ ss.length + k ∧ Sp w0 w w1 n r ⟨8, (fc, fi), (tc, ti), cc, da, dl, dcp, zs⟩ bW bX wr)) (fun iv _ => R - (intOf iv).toNat)
    case atStart =>
      refine ⟨0, s, ys, ss, by omega, rfl, (HH.out.1.cut.no HB1.out.2.1).kept' (Kept.refl No _) (fun k e _ => ⟨fun f => f, .inl e⟩) (fun _ _ e => e) (fun k e => ?_), Kept.refl _ _, by omega, by omega, HB1.out.1⟩
      rcases e with e | e
      · exact HH.out.1.low k e.1
      · exact Nat.le_trans (HH.out.1.kept.then HB1.out.2.1).size e
    case round =>
      obtain ⟨k, s', ys', ss', hk, rfl, HI⟩ := hrel
      have x5 : wr.cell? ⟨bX, 5, none⟩ = some (.int .i64 cc) := HI.out.2.2.2.2.bx.cell 5
      have hcm : s'.came < 1000000000 := by have := HI.out.2.2.1; omega
      have hsm : ss'.length < 1000000000 := by have := HI.out.2.2.2.1; omega
      by_cases hlt : k < R
      · have hlt' : (k : Int) < (R : Int) := by omega
        have v0 : wr.cell? ⟨bW, 0, none⟩ = some (.pointer (some ⟨n, 0, none⟩)) := HI.out.2.2.2.2.bw.cell 0
        have v1 : wr.cell? ⟨bW, 1, none⟩ = some (.pointer (some ⟨r, 0, none⟩)) := HI.out.2.2.2.2.bw.cell 1
        obtain ⟨x0, x1, x2, x3, x4, x5', x6⟩ := Box.stAt (x := ⟨8, (fc, fi), (tc, ti), cc, da, dl, dcp, zs⟩) HI.out.2.2.2.2.bx
        simp only at x0 x1 x2 x3 x4 x5' x6
        clear x5'
        go_wp2_with (first
          | (go_at_call 33; refine (HCall.out _).mono ?_; rintro e w' ⟨rfl, rfl⟩)
          | (go_at_call 28; refine (wsend_any ⟨8, (fc, fi), (tc, ti), cc, da, dl, dcp, zs⟩ _ HI.out.1 HH.out.2 hcm hsm).mono ?_; intro e w2 hs; have he := hs.1; subst he; have H2 : Hid (StO w0 _ n r s' ss' (fun j => (X j ∧ j < w.heap.size) ∨ w1.heap.size ≤ j) 1 (.returned (.bool true)) w2) := hs; clear hs))
        go_roundw
        case rel =>
          obtain ⟨_, s2, ys2, ss2, h1, h2, h3, h4⟩ := H2.out
          have hsz := HI.out.2.1.size
          refine ⟨k + 1, s2, ys2, ss2, by omega, by go_num, h1.kept' (Kept.refl No _) (fun j e _ => ⟨fun f => f, e.elim id (fun f => .inr (Nat.le_trans hsz f))⟩) (fun _ _ e => e) (fun j e => ?_), W5.trans HI.out.2.1 h2 (fun _ e => e) (fun i hi e => e.elim id (fun f => by omega)), by have := HI.out.2.2.1; omega, by have := HI.out.2.2.2.1; omega, HI.out.2.2.2.2.off h2 (fun e => ?_) (fun e => ?_)⟩
          · rcases e with e | e
            · exact HH.out.1.low j e.1
            · exact Nat.le_trans (HH.out.1.kept.then HB1.out.2.1).size e
          · have hb := HB1.out.2.2
            rcases e.1 with e | e
            · have := e.2; omega
            · omega
          · have hb := HB1.out.2.2
            rcases e.1 with e | e
            · have := e.2; omega
            · omega
        case measure => simp [intOf]; omega
      · have hlt' : ¬ (k : Int) < (R : Int) := by omega
        go_wp2_with (go_at_call 33; refine (HCall.out _).mono ?_; rintro e w' ⟨rfl, rfl⟩)
        go_ret
        have s1 := HB1.out.2.1.size
        refine ⟨rfl, s', ys', ss', HI.out.1.kept' (Kept.refl No _) (fun j e _ => ⟨fun f => f, e.elim (fun f => .inl f.1) (fun f => .inr (by omega))⟩) (fun _ _ e => e) (fun j e => ?_), W5.trans (I := No) HB1.out.2.1.of_no HI.out.2.1 (fun _ e => e.elim) (fun _ _ e => e.1), by have := HI.out.2.2.1; omega, by have := HI.out.2.2.2.1; omega⟩
        rcases e with e | e
        · exact HH.out.1.low j e
        · exact Nat.le_trans HH.out.1.kept.size e
  by_cases k9 : xk = 9
  · subst k9
    have HRf : Hid (RfM w1 r ys ss la lc sa sc w0.heap.size) := HN.out.2.1.no HB1.out.2.1
    have r0 : w1.cell? ⟨r, 0, none⟩ = some (.slice la ys.length lc) := HRf.out.cells.1
    obtain ⟨m, hme⟩ : ∃ m, ys.length = m := ⟨_, rfl⟩
    have HM : Hid (ys.length = m) := hme
    rw [hme] at hyl r0
    clear hme
    by_cases hz : m = 0
    · subst hz
      go_wp2
      go_ret
      exact HS.out _ (Kept.refl No _)
    · obtain ⟨R, hR, hRm⟩ : ∃ R : Nat, rndN cc (m : Int) = (R : Int) ∧ R < m := by
        have := rnd_bd cc (m : Int) (by omega)
        exact ⟨(rndN cc (m : Int)).toNat, by omega, by omega⟩
      obtain ⟨y, hy⟩ : ∃ y, ys[R]? = some y := ⟨_, List.getElem?_eq_getElem (by rw [HM.out]; exact hRm)⟩
      obtain ⟨pg, CS, ela, hbg, hpart⟩ := own_box HRf.out.row hy
      subst ela
      have HG : Hid (Box w1 pg 44 CS.toArray ∧ Wa.Part CS (R * 6) (pkL y) ∧ rndN cc (m : Int) = (R : Int)) := ⟨hbg, hpart, hR⟩
      clear hbg hpart hR hy
      have hgt : (m : Int) > 0 := by omega
      go_upto_region 28 with fail
      clear v0 x0 x1 x2 x3 x4 x5 x6 r0
      refine t28 _ bW bX n r pg m lc R CS y 9 fi ti cc fc tc (.slice da dl dcp) (.slice sa ss.length sc) w1 _ rfl rfl rfl HB1.out.1.bw HB1.out.1.bx (by have := HRf.out.box; rw [HM.out] at this; exact this) HG.out.1 hRm HG.out.2.1 (fun W => ?_) ?_
      · refine (round_any cc m (by omega) (by omega) W).mono ?_
        rintro e w' ⟨rfl, rfl⟩
        exact ⟨by rw [HG.out.2.2], rfl⟩
      · intro w2 G hBG hGl hk2
        have H2 : Hid (Box w2 G 44 (pkL y).toArray ∧ Kept No w1 w2 ∧ Sp w0 w w1 n r ⟨9, (fc, fi), (tc, ti), cc, da, dl, dcp, zs⟩ bW bX w2) := ⟨hBG, hk2, HB1.out.1.no hk2⟩
        clear hBG hGl hk2 v1
        simp only [Wa.pA, Wa.pB, Wa.p1, Wa.p2, Wa.p3]
        have v0 : w2.cell? ⟨bW, 0, none⟩ = some (.pointer (some ⟨n, 0, none⟩)) := H2.out.2.2.bw.cell 0
        have v1 : w2.cell? ⟨bW, 1, none⟩ = some (.pointer (some ⟨r, 0, none⟩)) := H2.out.2.2.bw.cell 1
        have g0 : w2.cell? ⟨G, 0, none⟩ = some (.bool y.q.nm.1.1) := H2.out.1.cell 0
        have g1 : w2.cell? ⟨G, 1, none⟩ = some (.int .i64 y.q.nm.1.2) := H2.out.1.cell 1
        have g2 : w2.cell? ⟨G, 2, none⟩ = some (.int .i64 y.q.nm.2) := H2.out.1.cell 2
        go_wp2_with (go_at_call 29; refine (wdeliver_any y.q.nm.1.1 y.q.nm.1.2 y.q.nm.2 w2 (HW1.out.no H2.out.2.1) (by omega)).mono ?_; intro e w3 hs; have he := hs.1; subst he; have H3 : Hid (StO w0 w2 n r s ss X 0 (.returned (.bool true)) w3) := hs; clear hs)
        go_ret
        exact H3.out.from (HB1.out.2.1.then H2.out.2.1) (fun _ e => e) HH.out.1.low HH.out.1.kept (by omega)
  go_wp2
  go_ret
  exact HS.out _ (Kept.refl No _)
end Go.Proofs.Ytphiokehcgbldaa
