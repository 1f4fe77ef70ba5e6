import Derived.Test.YtphiokehcgbldaaQf
namespace Go.Proofs.Ytphiokehcgbldaa
open Go.RowKit Go.Shelf
set_option linter.unusedVariables false
set_option linter.unusedSimpArgs false

/-- Taken off: both nets behind it. -/
theorem Wd.off {X : Nat → Prop} {w0 w w2 w' : World} {n r : Nat} {s s' : Ns} {ys ys' : List Tp} {ss : List Ad} {I I' : Nat → Prop} {la la' sa : Option Addr} {lc lc' sc : Nat} (h : Wd w0 w n r s ys ss X)
    (hN : NetM w2 n s' I') (hR : RfM w2 r ys' ss la' lc' sa sc w0.heap.size) (hkX : Kept (W5 w X) w w2) (hI : ∀ k, I' k → X k ∨ w.heap.size ≤ k) (hB : ∀ k, RfB r la' sa k → (X k ∨ w.heap.size ≤ k) ∧ ¬ I' k) (heq : ys'.map Tp.q = s'.L) (hsub : ∀ y ∈ ys', ∃ z ∈ ys, y.a = z.a ∧ y.q.zs = z.q.zs) (hsn : s'.sent = s.sent) :
    Wd w0 w2 n r s' ys' ss (fun k => X k ∨ w.heap.size ≤ k) := by
  refine ⟨⟨I', la', lc', sa, sc, hN, hR, hI, hB⟩, heq, fun f => by rw [hsn]; exact h.snt f, fun y hy => ?_, h.kept.trans hkX (fun _ e => e) (fun i hi e => by have := h.low i e.1; omega), fun k e => ?_⟩
  · obtain ⟨z, hz, e1, e2⟩ := hsub y hy
    rw [e1, e2]; exact h.dat z hz
  · rcases e with e | e
    · exact h.low k e
    · exact Nat.le_trans h.kept.size e
theorem erase_sub {ys : List Tp} {i : Nat} : ∀ y ∈ ys.eraseIdx i, ∃ z ∈ ys, y.a = z.a ∧ y.q.zs = z.q.zs := fun y hy => ⟨y, List.mem_of_mem_eraseIdx hy, rfl, rfl⟩
theorem plc_iff {s : Ns} {ys : List Tp} (h : ys.map Tp.q = s.L) (k : Nm) : (plc k ys = none ∧ s.L.find? (isN k) = none) ∨ ∃ i y, plc k ys = some i ∧ ys[i]? = some y ∧ y.q.nm = k ∧ s.L.find? (isN k) = some y.q ∧ rmN k s.L = (ys.eraseIdx i).map Tp.q ∧ y ∈ ys := by
  cases hp : plc k ys with
  | none => left; refine ⟨rfl, ?_⟩; rw [← h]; exact plc_miss k ys hp
  | some i =>
    right
    obtain ⟨y, h1, h2, h3, h4⟩ := plc_find k ys i hp
    rw [h] at h3 h4
    exact ⟨i, y, rfl, h1, h2, h3, h4, List.mem_of_getElem? h1⟩

set_option maxRecDepth 100000 in
set_option maxHeartbeats 8000000 in
theorem wdeliver_any {X : Nat → Prop} {w0 : World} {n r : Nat} {s : Ns} {ys : List Tp} {ss : List Ad} (fc : Bool) (fi c : Int) (w : World) (h : Wd w0 w n r s ys ss X) (hc : s.came < 1000000000) :
    Calls Try.prog 29 #[.agg #[.pointer (some ⟨n, 0, none⟩), .pointer (some ⟨r, 0, none⟩)], .agg #[.bool fc, .int .i64 fi], .int .i64 c] w (StO w0 w n r s ss X 0) := by
  obtain ⟨I, la, lc, sa, sc, hN, hR, hIX, hBX⟩ := h.cut.net
  have HH : Hid (Wd w0 w n r s ys ss X) := h
  have HN : Hid (NetM w n s I ∧ RfM w r ys ss la lc sa sc w0.heap.size ∧ (∀ k, I k → X k ∧ k < w.heap.size) ∧ ∀ k, RfB r la sa k → (X k ∧ k < w.heap.size) ∧ ¬ I k) := ⟨hN, hR, hIX, hBX⟩
  have hyl : ys.length ≤ 1000000000 := by have := h.len; omega
  clear h hN hR hIX hBX
  go_enter Try.func29, Try.ntmps29
  go_upto_region 1 with fail
  have h2 := two w 31 34 #[.pointer (some ⟨n, 0, none⟩), .pointer (some ⟨r, 0, none⟩)] #[.bool fc, .int .i64 fi]
  obtain ⟨bW, hbW⟩ : ∃ b, b = w.heap.size := ⟨_, rfl⟩
  obtain ⟨bX, hbX⟩ : ∃ b, b = w.heap.size + 1 := ⟨_, rfl⟩
  rw [← hbX, ← hbW] at h2
  rw [← hbX, ← hbW]
  generalize (w.alloc (.cells #[.pointer (some ⟨n, 0, none⟩), .pointer (some ⟨r, 0, none⟩)] 31)).alloc (.cells #[.bool fc, .int .i64 fi] 34) = w1 at h2 ⊢
  have HB1 : Hid (Box w1 bW 31 #[.pointer (some ⟨n, 0, none⟩), .pointer (some ⟨r, 0, none⟩)] ∧ Box w1 bX 34 #[.bool fc, .int .i64 fi] ∧ Kept No w w1 ∧ bW = w.heap.size ∧ bX = w.heap.size + 1) := ⟨h2.1, h2.2.1, h2.2.2, hbW, hbX⟩
  clear h2 hbW hbX
  have v0 : w1.cell? ⟨bW, 0, none⟩ = some (.pointer (some ⟨n, 0, none⟩)) := HB1.out.1.cell 0
  have a0 : w1.cell? ⟨bX, 0, none⟩ = some (.bool fc) := HB1.out.2.1.cell 0
  have a1 : w1.cell? ⟨bX, 1, none⟩ = some (.int .i64 fi) := HB1.out.2.1.cell 1
  rcases plc_iff HH.out.eq ((fc, fi), c) with ⟨hp, hf⟩ | ⟨i, y, hp, hy, hyn, hf, hrm, hym⟩
  · have HP : Hid (plc ((fc, fi), c) ys = none ∧ s.L.find? (isN ((fc, fi), c)) = none) := ⟨hp, hf⟩
    clear hp hf
    go_upto_region 2 with (go_at_call 15; refine (deliver_no fc fi c w1 (HN.out.1.no HB1.out.2.2.1) HH.out.zs HP.out.2).mono ?_; rintro e w2 ⟨rfl, hk2⟩; have H2 : Hid (Kept No w w2 ∧ Kept No w1 w2) := ⟨HB1.out.2.2.1.then hk2, hk2⟩; clear hk2)
    obtain ⟨w3, hw3⟩ : ∃ w3, w3 = w2.alloc (.cells #[.bool false, .int .i64 0, .int .i64 0, .bool false, .int .i64 0, .slice none 0 0] 44) := ⟨_, rfl⟩
    obtain ⟨bP, hbP⟩ : ∃ b, b = w2.heap.size := ⟨_, rfl⟩
    rw [← hw3, ← hbP]
    have H3 : Hid (Box w3 bP 44 #[.bool false, .int .i64 0, .int .i64 0, .bool false, .int .i64 0, .slice none 0 0] ∧ Kept No w1 w3 ∧ Kept No w w3) := by
      rw [hw3, hbP]; exact ⟨Box.new _ _ _, H2.out.2.alloc _, H2.out.1.alloc _⟩
    clear hw3 hbP v0 a0 a1
    have v1 : w3.cell? ⟨bW, 1, none⟩ = some (.pointer (some ⟨r, 0, none⟩)) := (HB1.out.1.kept H3.out.2.1 (fun e => e)).cell 1
    have a0 : w3.cell? ⟨bX, 0, none⟩ = some (.bool fc) := (HB1.out.2.1.kept H3.out.2.1 (fun e => e)).cell 0
    have a1 : w3.cell? ⟨bX, 1, none⟩ = some (.int .i64 fi) := (HB1.out.2.1.kept H3.out.2.1 (fun e => e)).cell 1
    go_upto_region 3 with (go_at_call 30; refine (deliverR_any fc fi c w3 (HN.out.2.1.no H3.out.2.2) (by omega) (HH.out.kept.then H3.out.2.2).size).mono ?_; intro e w4 hd; obtain ⟨rfl, hk4⟩ : e = .returned (.tuple #[.agg #[.bool false, .int .i64 0, .int .i64 0, .bool false, .int .i64 0, .slice none 0 0], .int .i64 150]) ∧ Kept No w3 w4 := (by rcases hd with ⟨_, h1, h2⟩ | ⟨i, y, _, _, h1, _⟩; exact ⟨h1, h2⟩; rw [HP.out.1] at h1; cases h1); have H4 : Hid (Kept No w3 w4) := hk4; clear hk4 hd)
    obtain ⟨w5, hw5⟩ : ∃ w5, w5 = w4.alloc (.cells #[.bool false, .int .i64 0, .int .i64 0, .bool false, .int .i64 0, .slice none 0 0] 44) := ⟨_, rfl⟩
    obtain ⟨bQ, hbQ⟩ : ∃ b, b = w4.heap.size := ⟨_, rfl⟩
    rw [← hw5, ← hbQ]
    have H5 : Hid (Box w5 bQ 44 #[.bool false, .int .i64 0, .int .i64 0, .bool false, .int .i64 0, .slice none 0 0] ∧ Box w5 bP 44 #[.bool false, .int .i64 0, .int .i64 0, .bool false, .int .i64 0, .slice none 0 0] ∧ Kept No w w5) := by
      rw [hw5, hbQ]; exact ⟨Box.new _ _ _, (H3.out.1.kept H4.out (fun e => e)).alloc _, (H3.out.2.2.then H4.out).alloc _⟩
    clear hw5 hbQ v1 a0 a1
    have p0 : w5.cell? ⟨bP, 0, none⟩ = some (.bool false) := H5.out.2.1.cell 0
    have p1 : w5.cell? ⟨bP, 1, none⟩ = some (.int .i64 0) := H5.out.2.1.cell 1
    have p2' : w5.cell? ⟨bP, 2, none⟩ = some (.int .i64 0) := H5.out.2.1.cell 2
    have p3' : w5.cell? ⟨bP, 3, none⟩ = some (.bool false) := H5.out.2.1.cell 3
    have p4 : w5.cell? ⟨bP, 4, none⟩ = some (.int .i64 0) := H5.out.2.1.cell 4
    have p5 : w5.cell? ⟨bP, 5, none⟩ = some (.slice none 0 0) := H5.out.2.1.cell 5
    have r0 : w5.cell? ⟨bQ, 0, none⟩ = some (.bool false) := H5.out.1.cell 0
    have r1 : w5.cell? ⟨bQ, 1, none⟩ = some (.int .i64 0) := H5.out.1.cell 1
    have r2 : w5.cell? ⟨bQ, 2, none⟩ = some (.int .i64 0) := H5.out.1.cell 2
    have r3 : w5.cell? ⟨bQ, 3, none⟩ = some (.bool false) := H5.out.1.cell 3
    have r4 : w5.cell? ⟨bQ, 4, none⟩ = some (.int .i64 0) := H5.out.1.cell 4
    have r5 : w5.cell? ⟨bQ, 5, none⟩ = some (.slice none 0 0) := H5.out.1.cell 5
    go_wp2_with (go_at_call 22; refine (same_pk (false, 0) (false, 0) (false, 0) (false, 0) 0 0 none none 0 0 [] [] w5 (by simp) (by simp) (Nums.nil _ _ _) (Nums.nil _ _ _)).mono ?_; rintro e w6 ⟨rfl, hk6⟩; have H6 : Hid (Kept No w5 w6) := hk6; clear hk6)
    go_ret
    have hk6 := H5.out.2.2.then H6.out
    refine ⟨by simp [eqB], s, ys, ss, (HH.out.no hk6).kept' (Kept.refl No _) (fun k e _ => ⟨fun f => f, .inl e⟩) (fun _ _ e => e) (fun k e => ?_), hk6.of_no, Nat.le_refl _, Nat.le_refl _⟩
    rcases e with e | e
    · exact HH.out.low k e
    · exact Nat.le_trans HH.out.kept.size e
  · obtain ⟨⟨⟨⟨yc, yi⟩, yn⟩, ⟨ytc, yti⟩, yda, ydc, yz, ypl⟩, ya, ycc⟩ := y
    simp only at hyn
    cases hyn
    have HP : Hid (plc ((fc, fi), c) ys = some i ∧ ys[i]? = some ⟨⟨((fc, fi), c), (ytc, yti), yda, ydc, yz, ypl⟩, ya, ycc⟩ ∧ s.L.find? (isN ((fc, fi), c)) = some ⟨((fc, fi), c), (ytc, yti), yda, ydc, yz, ypl⟩ ∧ rmN ((fc, fi), c) s.L = (ys.eraseIdx i).map Tp.q) := ⟨hp, hy, hf, hrm⟩
    have HD : Hid (Bytes w0 ya yz ∧ yz.length ≤ 140737488351232) := HH.out.dat _ hym
    clear hp hf hy hrm hym
    go_upto_region 2 with (go_at_call 15; refine (deliver_yes fc fi c w1 (HN.out.1.no HB1.out.2.2.1) HH.out.zs HP.out.2.2.1).mono ?_; rintro e w2 ⟨ra, rc, rfl, hO2, hk2, hN2⟩; have H2 : Hid (OwnB w2 w1.heap.size ra rc yz ∧ Kept (W5 w1 I) w1 w2 ∧ NetM w2 n ⟨s.sent, rmN ((fc, fi), c) s.L, s.came⟩ (fun j => (I j ∨ w1.heap.size ≤ j) ∧ ¬ At ra j)) := ⟨hO2, hk2, hN2⟩; clear hO2 hk2 hN2)
    obtain ⟨w3, hw3⟩ : ∃ w3, w3 = w2.alloc (.cells #[.bool fc, .int .i64 fi, .int .i64 c, .bool ytc, .int .i64 yti, .slice ra yz.length rc] 44) := ⟨_, rfl⟩
    obtain ⟨bP, hbP⟩ : ∃ b, b = w2.heap.size := ⟨_, rfl⟩
    rw [← hw3, ← hbP]
    have hoff : ∀ j, w.heap.size ≤ j → ¬ W5 w1 I j := fun j hj e => by have := (HN.out.2.2.1 j e.1).2; omega
    have hk23 : Kept No w2 w3 := by rw [hw3]; exact (Kept.refl No w2).alloc _
    have hkw : Kept (W5 w X) w w3 := (W5.trans (I := No) HB1.out.2.2.1.of_no H2.out.2.1 (fun _ e => e.elim) (fun i _ e => (HN.out.2.2.1 i e).1)).then hk23.of_no
    have H3 : Hid (Box w3 bP 44 #[.bool fc, .int .i64 fi, .int .i64 c, .bool ytc, .int .i64 yti, .slice ra yz.length rc] ∧ Box w3 bW 31 #[.pointer (some ⟨n, 0, none⟩), .pointer (some ⟨r, 0, none⟩)] ∧ Box w3 bX 34 #[.bool fc, .int .i64 fi] ∧ Kept (W5 w X) w w3 ∧ OwnB w3 w1.heap.size ra rc yz ∧ NetM w3 n ⟨s.sent, rmN ((fc, fi), c) s.L, s.came⟩ (fun j => (I j ∨ w1.heap.size ≤ j) ∧ j < w2.heap.size) ∧ RfM w3 r ys ss la lc sa sc w0.heap.size ∧ bP = w2.heap.size ∧ w1.heap.size ≤ w2.heap.size ∧ w2.heap.size ≤ w3.heap.size) := by
      refine ⟨by rw [hw3, hbP]; exact Box.new _ _ _, (HB1.out.1.kept H2.out.2.1 (hoff _ (by have := HB1.out.2.2.2; omega))).kept hk23 (fun e => e), (HB1.out.2.1.kept H2.out.2.1 (hoff _ (by have := HB1.out.2.2.2; omega))).kept hk23 (fun e => e), hkw, Own.no H2.out.1 hk23, (H2.out.2.2.cut.no hk23).kept (Kept.refl No _) (fun k e _ => ⟨fun f => f, e.1.1, e.2⟩), ((HN.out.2.1.no HB1.out.2.2.1).kept H2.out.2.1 (fun k e f => (HN.out.2.2.2 k e).2 f.1)).no hk23, hbP, H2.out.2.1.size, hk23.size⟩
    clear hw3 hbP v0 a0 a1 hoff hk23 hkw H2
    have HK3 : Hid (Kept No w0 w3) := HH.out.kept.trans H3.out.2.2.2.1 (fun _ e => e) (fun i hi e => by have := HH.out.low i e.1; omega)
    have v1 : w3.cell? ⟨bW, 1, none⟩ = some (.pointer (some ⟨r, 0, none⟩)) := H3.out.2.1.cell 1
    have a0 : w3.cell? ⟨bX, 0, none⟩ = some (.bool fc) := H3.out.2.2.1.cell 0
    have a1 : w3.cell? ⟨bX, 1, none⟩ = some (.int .i64 fi) := H3.out.2.2.1.cell 1
    go_upto_region 3 with (go_at_call 30; refine (deliverR_any fc fi c w3 H3.out.2.2.2.2.2.2.1 (by omega) HK3.out.size).mono ?_; intro e w4 hd; obtain ⟨la', lc', rfl, hR4, hk4, hla4⟩ : ∃ la' lc', e = .returned (.tuple #[.agg #[.bool fc, .int .i64 fi, .int .i64 c, .bool ytc, .int .i64 yti, .slice ya yz.length ycc], .int .i64 0]) ∧ RfM w4 r (ys.eraseIdx i) ss la' lc' sa sc w0.heap.size ∧ Kept (Only r) w3 w4 ∧ ∀ j, At la' j → w3.heap.size ≤ j := (by rcases hd with ⟨h1, _⟩ | ⟨i', y', la', lc', h1, h2, h3, h4, h5, h6⟩; rw [HP.out.1] at h1; cases h1; rw [HP.out.1] at h1; cases h1; rw [HP.out.2.1] at h2; cases h2; exact ⟨la', lc', h3, h4, h5, h6⟩); have H4 : Hid (RfM w4 r (ys.eraseIdx i) ss la' lc' sa sc w0.heap.size ∧ Kept (Only r) w3 w4 ∧ ∀ j, At la' j → w3.heap.size ≤ j) := ⟨hR4, hk4, hla4⟩; clear hR4 hk4 hla4 hd)
    obtain ⟨w5, hw5⟩ : ∃ w5, w5 = w4.alloc (.cells #[.bool fc, .int .i64 fi, .int .i64 c, .bool ytc, .int .i64 yti, .slice ya yz.length ycc] 44) := ⟨_, rfl⟩
    obtain ⟨bQ, hbQ⟩ : ∃ b, b = w4.heap.size := ⟨_, rfl⟩
    rw [← hw5, ← hbQ]
    have hk45 : Kept No w4 w5 := by rw [hw5]; exact (Kept.refl No w4).alloc _
    have hrl := HN.out.2.1.box.lt
    have hnr : ¬ I r := (HN.out.2.2.2 r (.inl rfl)).2
    have hXr : X r := (HN.out.2.2.2 r (.inl rfl)).1.1
    have hs1 := HB1.out.2.2.1.size
    have hbPv := H3.out.2.2.2.2.2.2.2
    have H5 : Hid (Box w5 bQ 44 #[.bool fc, .int .i64 fi, .int .i64 c, .bool ytc, .int .i64 yti, .slice ya yz.length ycc] ∧ Box w5 bP 44 #[.bool fc, .int .i64 fi, .int .i64 c, .bool ytc, .int .i64 yti, .slice ra yz.length rc] ∧ Kept (W5 w X) w w5 ∧ OwnB w5 w1.heap.size ra rc yz ∧ NetM w5 n ⟨s.sent, rmN ((fc, fi), c) s.L, s.came⟩ (fun j => (I j ∨ w1.heap.size ≤ j) ∧ j < w2.heap.size) ∧ RfM w5 r (ys.eraseIdx i) ss la' lc' sa sc w0.heap.size) := by
      refine ⟨by rw [hw5, hbQ]; exact Box.new _ _ _, (H3.out.1.kept H4.out.2.1 (fun e => by have e : bP = r := e; omega)).kept hk45 (fun e => e), (W5.trans (J := X) H3.out.2.2.2.1 (H4.out.2.1.mono (fun k _ e => by have e : k = r := e; rw [e]; exact H3.out.2.2.2.2.2.2.1.w5 (.inl rfl) hXr)) (fun _ e => e) (fun _ _ e => e)).then hk45.of_no, Own.no (Own.kept H3.out.2.2.2.2.1 H4.out.2.1 (fun k e f => by have f : k = r := f; have := Own.base H3.out.2.2.2.2.1 e; omega)) hk45, (H3.out.2.2.2.2.2.1.kept H4.out.2.1 (fun k e _ => ⟨fun f => ?_, e⟩)).no hk45, H4.out.1.no hk45⟩
      have f : k = r := f
      rw [f] at e
      rcases e.1 with e | e
      · exact hnr e
      · omega
    clear hw5 hbQ hk45 v1 a0 a1 hrl hnr hXr hs1 hbPv
    have HK5 : Hid (Kept No w0 w5) := HH.out.kept.trans H5.out.2.2.1 (fun _ e => e) (fun i hi e => by have := HH.out.low i e.1; omega)
    have p0 : w5.cell? ⟨bP, 0, none⟩ = some (.bool fc) := H5.out.2.1.cell 0
    have p1 : w5.cell? ⟨bP, 1, none⟩ = some (.int .i64 fi) := H5.out.2.1.cell 1
    have p2' : w5.cell? ⟨bP, 2, none⟩ = some (.int .i64 c) := H5.out.2.1.cell 2
    have p3' : w5.cell? ⟨bP, 3, none⟩ = some (.bool ytc) := H5.out.2.1.cell 3
    have p4 : w5.cell? ⟨bP, 4, none⟩ = some (.int .i64 yti) := H5.out.2.1.cell 4
    have p5 : w5.cell? ⟨bP, 5, none⟩ = some (.slice ra yz.length rc) := H5.out.2.1.cell 5
    have r0 : w5.cell? ⟨bQ, 0, none⟩ = some (.bool fc) := H5.out.1.cell 0
    have r1 : w5.cell? ⟨bQ, 1, none⟩ = some (.int .i64 fi) := H5.out.1.cell 1
    have r2 : w5.cell? ⟨bQ, 2, none⟩ = some (.int .i64 c) := H5.out.1.cell 2
    have r3 : w5.cell? ⟨bQ, 3, none⟩ = some (.bool ytc) := H5.out.1.cell 3
    have r4 : w5.cell? ⟨bQ, 4, none⟩ = some (.int .i64 yti) := H5.out.1.cell 4
    have r5 : w5.cell? ⟨bQ, 5, none⟩ = some (.slice ya yz.length ycc) := H5.out.1.cell 5
    go_wp2_with (go_at_call 22; refine (same_pk (fc, fi) (fc, fi) (ytc, yti) (ytc, yti) c c ra ya rc ycc yz yz w5 (by have := HD.out.2; omega) (by have := HD.out.2; omega) (OwnB.bytes H5.out.2.2.2.1) (HD.out.1.no HK5.out)).mono ?_; rintro e w6 ⟨rfl, hk6⟩; have H6 : Hid (Kept No w5 w6) := hk6; clear hk6)
    go_ret
    have hbv := H3.out.2.2.2.2.2.2.2
    have hs1 := HB1.out.2.2.1.size
    refine ⟨by simp [eqB_refl], ⟨s.sent, rmN ((fc, fi), c) s.L, s.came⟩, ys.eraseIdx i, ss, HH.out.off (I := I) (la := la) (lc := lc) (w' := w6) (H5.out.2.2.2.2.1.no H6.out) (H5.out.2.2.2.2.2.no H6.out) (H5.out.2.2.1.then H6.out.of_no) (fun k e => ?_) (fun k e => ?_) HP.out.2.2.2.symm erase_sub rfl, H5.out.2.2.1.then H6.out.of_no, Nat.le_refl _, Nat.le_refl _⟩
    · rcases e.1 with e | e
      · exact .inl (HN.out.2.2.1 k e).1
      · exact .inr (by omega)
    · rcases e with e | e | e
      · have h1 := HN.out.2.2.2 k (.inl e)
        exact ⟨.inl h1.1.1, fun f => by rcases f.1 with f | f; exact h1.2 f; have := h1.1.2; omega⟩
      · have := H4.out.2.2 k e
        exact ⟨.inr (by omega), fun f => by have := f.2; omega⟩
      · have h1 := HN.out.2.2.2 k (.inr (.inr e))
        exact ⟨.inl h1.1.1, fun f => by rcases f.1 with f | f; exact h1.2 f; have := h1.1.2; omega⟩
end Go.Proofs.Ytphiokehcgbldaa
