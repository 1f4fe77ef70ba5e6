import Derived.Test.YtppkjebiiheljaaRl
namespace Go.Proofs.Ytppkjebiiheljaa
open Go.RowKit
set_option linter.unusedVariables false
set_option linter.unusedSimpArgs false


theorem make512_run (w : World) : (Instr.makeSlice 22 (.int .i64 512) (.int .i64 512)).run Try.prog w = .ok (.slice (some ⟨w.heap.size, 0, none⟩) 512 512) (w.alloc (.cells (u8s zs) 5)) := by
  obtain ⟨i0, hi, hz0, hz1, hz2⟩ := info_parts Try.info5
  have h := run_make w 22 5 i0 (.int .u8 0) Try.und22 hi hz0 .i64 .i64 512 512 (by decide) (by decide) (by rw [hz2]; decide) (by decide)
  rw [hz1] at h
  have hm : madeCells (Value.int .u8 0).cells ((512 : Int).toNat * 1) = u8s zs := by
    have := made_u8 512
    unfold u8s zs
    rw [← this, Array.toArray_toList]
    rfl
  rw [hm] at h
  exact h
/-- Bytes that came in, of whatever length and room. -/
def Bys (w : World) (a : Option Addr) (m cap : Nat) (s : List Int) : Prop := Nums .u8 w a s ∧ s.length = m ∧ m ≤ 140737488351232 ∧ U8 s ∧ m ≤ cap ∧ cap ≤ 4611686018427387904

set_option maxRecDepth 100000 in
set_option maxHeartbeats 4000000 in
theorem newYesNo (N : Nat) (h1 : 1 ≤ N) (h2 : N ≤ 65536) (a : Option Addr) (m cap : Nat) (s : List Int) (w : World) (hI : Bys w a m cap s) (hm : ¬ (m % 512 = 0 ∧ 1 ≤ m / 512 ∧ m / 512 ≤ 65536)) :
    Calls Try.prog 3 #[.int .i64 N, .slice a m cap] w fun e w' => e = .returned (.bool true) ∧ Kept No w w' := by
  have HI : Hid (Bys w a m cap s) := hI
  have HM : Hid (¬ (m % 512 = 0 ∧ 1 ≤ m / 512 ∧ m / 512 ≤ 65536)) := hm
  clear hI hm
  have HN : Hid (1 ≤ N ∧ N ≤ 65536) := ⟨h1, h2⟩
  have e1 : (1 : Int) ≤ (N : Int) := by omega
  have e2 : (N : Int) ≤ 65536 := by omega
  obtain ⟨q, hq⟩ : ∃ q, q = roundOf m N := ⟨_, rfl⟩
  have HQ : Hid (q < N) := by rw [hq]; exact roundOf_lt _ _ h1
  have HRd : Hid (∀ w : World, Calls Try.prog 13 #[.int .i64 m, .int .i64 N] w fun e w' => e = .returned (.int .i64 q) ∧ w' = w) := by
    intro w; rw [hq]; exact round_any m N w h1 (by omega)
  obtain ⟨C, hC⟩ : ∃ C, C = u8s zs := ⟨_, rfl⟩
  have HC : Hid (C = u8s zs) := hC
  have hmk : ∀ w : World, (Instr.makeSlice 22 (.int .i64 512) (.int .i64 512)).run Try.prog w = .ok (.slice (some ⟨w.heap.size, 0, none⟩) 512 512) (w.alloc (.cells C 5)) := by
    intro w; rw [hC]; exact make512_run w
  clear h1 h2 hq hC
  go_enter Try.func3, Try.ntmps3
  go_wp2_with (first
    | (go_at_call 9
       refine Calls.mono (known_any w) ?_
       rintro e wK ⟨rfl, hkK⟩
       have HK : Hid (Kept No w wK) := hkK
       clear hkK)
    | (go_at_call 10
       obtain ⟨d, hd⟩ : ∃ d, d = wK.heap.size + 1 := ⟨_, rfl⟩
       obtain ⟨b, hb⟩ : ∃ b, b = wK.heap.size := ⟨_, rfl⟩
       have hNw := newYes_any N wK HN.out.1 HN.out.2
       rw [← hd, ← hb] at hNw
       refine Calls.mono hNw ?_
       rintro e w2 ⟨rfl, hd2, hk2⟩
       have HE2 : Hid (Dsk w2 d b (newD N) ∧ Kept No w w2 ∧ w.heap.size ≤ d ∧ w.heap.size ≤ b) := ⟨hd2, HK.out.then hk2, by have := HK.out.size; omega, by have := HK.out.size; omega⟩
       clear hd2 hk2 hNw hd hb HK)
    | (go_at_call 11
       refine Calls.mono (refNewYes_any N w2 HN.out.1 HN.out.2) ?_
       rintro e w3 ⟨r, gs, rfl, hr, hgs, hR, hk3⟩
       have HP : Hid (Pr w w3 d b r gs (newD N) (newD N)) := by
         have h1 := HE2.out.2.1.size
         exact ⟨HE2.out.1.no hk3, hR.mono (fun g _ e => by have e' : w2.heap.size ≤ g := e; omega), HE2.out.2.1.then hk3, ⟨HE2.out.2.2.1, HE2.out.2.2.2, by omega, by omega⟩⟩
       clear hr hgs hR hk3 HE2)
    | (go_at_call 13
       refine Calls.mono (HRd.out w3) ?_
       rintro e w' ⟨rfl, hw'⟩
       rw [hw']
       clear hw' w')
    | (go_at_call 12
       refine Calls.mono (readYes_any d b q (newD N) w3 HP.out.dx rfl HQ.out zs_len (Int.le_refl _) (by show (0 : Int) < _; omega)) ?_
       rintro e w4 ⟨rfl, hb4, hd4, hk4⟩
       obtain ⟨y, hy⟩ : ∃ y : DS, y = { newD N with rd := (newD N).rd + 1 } := ⟨_, rfl⟩
       rw [← hy] at hd4
       obtain ⟨gb, hgb⟩ : ∃ gb, gb = w3.heap.size := ⟨_, rfl⟩
       rw [← hgb] at hb4
       rw [← hgb]
       have HP4 : Hid (Pr w w4 d b r gs y (newD N)) := HP.out.left (hk4.mono (fun _ _ e => .inl e)) hd4
       have HB4 : Hid (Box w4 gb 72 (u8s zs)) := hb4
       have HY : Hid (y.N = N ∧ y.fl = false ∧ y.rd = 1 ∧ y.wr = 0) := by rw [hy]; exact ⟨rfl, rfl, rfl, rfl⟩
       have HW : Hid (w4.drew = w4.drew) := rfl
       clear hb4 hd4 hk4 hgb hy HP))
  obtain ⟨arm, lf, tn, vs, hR4⟩ := HP4.out.ry
  have c0 := hR4.cells.1
  have HPd : Hid (Pr w w4.drew d b r gs y (newD N)) := HP4.out.no ((Kept.refl No w4).drew)
  have HKd : Hid (Kept No w w4.drew) := HPd.out.kept
  have c0' : w4.cell? ⟨r, 0, none⟩ = some (.slice (some ⟨gs, 0, none⟩) N N) := c0
  have HBd : Hid (Box w4.drew gb 72 (u8s zs)) := HB4.out
  obtain ⟨w5, hw5⟩ : ∃ w5, w5 = w4.drew.alloc (.cells C 5) := ⟨_, rfl⟩
  have hk5 : Kept No w4.drew w5 := by rw [hw5]; exact (Kept.refl No w4.drew).alloc _
  have HP5 : Hid (Pr w w5 d b r gs y (newD N)) := HPd.out.no hk5
  have HB5 : Hid (Nums .u8 w5 (some ⟨gb, 0, none⟩) zs) := (HBd.out.all).no hk5
  have HC5 : Hid (Nums .u8 w5 (some ⟨w4.drew.heap.size, 0, none⟩) zs) := by
    have : Box w5 w4.drew.heap.size 5 (u8s zs) := by rw [hw5, HC.out]; exact Box.new _ _ _
    exact this.all
  have T14 : Hid (1 = 1) := rfl
  have HW5 : Hid (w4.drew.alloc (.cells C 5) = w5) := hw5.symm
  clear hR4 c0 hw5 hk5
  go_region_held3 (fun w' => w'.cell? ⟨r, 0, none⟩ = some (.slice (some ⟨gs, 0, none⟩) N N)) (go_keep) (first
    | (go_at_call 14
       have hguard := T14
       clear hguard
       have hS := same_any (some ⟨gb, 0, none⟩) (some ⟨w4.drew.heap.size, 0, none⟩) 512 512 512 512 zs zs w5 HB5.out HC5.out zs_u8 zs_u8 zs_len zs_len
       rw [← HW5.out] at hS
       refine Calls.mono hS ?_
       rintro e w' ⟨rfl, hw'⟩
       rw [hw', decide_eq_true rfl]
       clear hw' w' hS T14)
    | (go_at_call 15
       have hS := fallen_any d b y w5 HP5.out.dx
       rw [HY.out.2.1, ← HW5.out] at hS
       refine Calls.mono hS ?_
       rintro e w' ⟨rfl, hw'⟩
       rw [hw']
       clear hw' w' hS)
    | (go_at_call 16
       have hS := sectors_any d b y w5 HP5.out.dx
       rw [HY.out.1, ← HW5.out] at hS
       refine Calls.mono hS ?_
       rintro e w' ⟨rfl, hw'⟩
       rw [hw']
       clear hw' w' hS)
    | (go_at_call 17
       have hS := counts_any d b y w5 HP5.out.dx
       rw [HY.out.2.2.1, HY.out.2.2.2, ← HW5.out] at hS
       refine Calls.mono hS ?_
       rintro e wA ⟨rfl, hkA⟩
       rw [HW5.out] at hkA
       have HA : Hid (Kept No w wA) := HP5.out.kept.then hkA
       obtain ⟨arm', lf', tn', vs', hRA⟩ := HP5.out.ry.no hkA
       have cA : wA.cell? ⟨r, 0, none⟩ = some (.slice (some ⟨gs, 0, none⟩) N N) := hRA.cells.1
       clear hkA hS hRA))
  go_wp2_with (first
    | (go_at_call 18
       obtain ⟨gl, hgl⟩ : ∃ gl, gl = wA.heap.size := ⟨_, rfl⟩
       have hS := lend_any a m cap s wA (HI.out.1.no HA.out) HI.out.2.1 HI.out.2.2.1
       rw [← hgl] at hS
       refine Calls.mono hS ?_
       rintro e wL ⟨rfl, hbL, hkL⟩
       have HL : Hid (Box wL gl 5 (u8s (lentS s 67)) ∧ Kept No w wL ∧ Nums .u8 wL a s) := ⟨hbL, HA.out.then hkL, HI.out.1.no (HA.out.then hkL)⟩
       clear hbL hkL hgl hS HA)
    | (go_at_call 19
       refine Calls.mono (loadNo_any (some ⟨gl, 0, none⟩) m (m + 67) wL (by have := HI.out.2.2.1; omega) HM.out) ?_
       rintro e w' ⟨rfl, hw'⟩
       rw [hw']
       clear hw' w')
    | (go_at_call 20
       refine Calls.mono (refLoadNo_any a m cap wL (by have := HI.out.2.2.1; omega) HM.out) ?_
       rintro e w' ⟨rfl, hw'⟩
       rw [hw']
       clear hw' w')
    | (go_at_call 21
       refine Calls.mono (back_any gl a m cap s wL HL.out.1 HL.out.2.2 HI.out.2.1 HI.out.2.2.1 HI.out.2.2.2.1) ?_
       rintro e w' ⟨rfl, hw'⟩
       rw [hw']
       clear hw' w'))
  all_goals go_ret
  all_goals exact ⟨rfl, HL.out.2.1⟩

set_option maxRecDepth 100000 in
set_option maxHeartbeats 4000000 in
theorem newYesYes (N : Nat) (h1 : 1 ≤ N) (h2 : N ≤ 65536) (g off cap M m : Nat) (s : List Int) (w : World) (hI : Bys w (some ⟨g, off, none⟩) m cap s) (hm : m = M * 512) (hM1 : 1 ≤ M) (hM2 : M ≤ 65536) :
    Calls Try.prog 3 #[.int .i64 N, .slice (some ⟨g, off, none⟩) m cap] w fun e w' => e = .returned (.bool true) ∧ Kept No w w' := by
  have HI : Hid (Bys w (some ⟨g, off, none⟩) m cap s) := hI
  have HM : Hid (m = M * 512 ∧ 1 ≤ M ∧ M ≤ 65536 ∧ s.length = M * 512) := ⟨hm, hM1, hM2, hI.2.1.trans hm⟩
  obtain ⟨x, hx⟩ : ∃ x, x = loadD s := ⟨_, rfl⟩
  have HX : Hid (Ok x ∧ x.N = M ∧ flatN x.N x.c = s ∧ loadD s = x) := by
    have := loadD_ok (hI.2.1.trans hm) hM1 hM2 hI.2.2.2.1
    rw [← hx] at this
    exact ⟨this.1, this.2.1, this.2.2, hx.symm⟩
  clear hI hm hM1 hM2 hx
  have HN : Hid (1 ≤ N ∧ N ≤ 65536) := ⟨h1, h2⟩
  have e1 : (1 : Int) ≤ (N : Int) := by omega
  have e2 : (N : Int) ≤ 65536 := by omega
  obtain ⟨q, hq⟩ : ∃ q, q = roundOf m N := ⟨_, rfl⟩
  have HQ : Hid (q < N) := by rw [hq]; exact roundOf_lt _ _ h1
  have HRd : Hid (∀ w : World, Calls Try.prog 13 #[.int .i64 m, .int .i64 N] w fun e w' => e = .returned (.int .i64 q) ∧ w' = w) := by
    intro w; rw [hq]; exact round_any m N w h1 (by omega)
  obtain ⟨C, hC⟩ : ∃ C, C = u8s zs := ⟨_, rfl⟩
  have HC : Hid (C = u8s zs) := hC
  have hmk : ∀ w : World, (Instr.makeSlice 22 (.int .i64 512) (.int .i64 512)).run Try.prog w = .ok (.slice (some ⟨w.heap.size, 0, none⟩) 512 512) (w.alloc (.cells C 5)) := by
    intro w; rw [hC]; exact make512_run w
  clear h1 h2 hq hC
  go_enter Try.func3, Try.ntmps3
  go_wp2_with (first
    | (go_at_call 9
       refine Calls.mono (known_any w) ?_
       rintro e wK ⟨rfl, hkK⟩
       have HK : Hid (Kept No w wK) := hkK
       clear hkK)
    | (go_at_call 10
       obtain ⟨d, hd⟩ : ∃ d, d = wK.heap.size + 1 := ⟨_, rfl⟩
       obtain ⟨b, hb⟩ : ∃ b, b = wK.heap.size := ⟨_, rfl⟩
       have hNw := newYes_any N wK HN.out.1 HN.out.2
       rw [← hd, ← hb] at hNw
       refine Calls.mono hNw ?_
       rintro e w2 ⟨rfl, hd2, hk2⟩
       have HE2 : Hid (Dsk w2 d b (newD N) ∧ Kept No w w2 ∧ w.heap.size ≤ d ∧ w.heap.size ≤ b) := ⟨hd2, HK.out.then hk2, by have := HK.out.size; omega, by have := HK.out.size; omega⟩
       clear hd2 hk2 hNw hd hb HK)
    | (go_at_call 11
       refine Calls.mono (refNewYes_any N w2 HN.out.1 HN.out.2) ?_
       rintro e w3 ⟨r, gs, rfl, hr, hgs, hR, hk3⟩
       have HP : Hid (Pr w w3 d b r gs (newD N) (newD N)) := by
         have h1 := HE2.out.2.1.size
         exact ⟨HE2.out.1.no hk3, hR.mono (fun g _ e => by have e' : w2.heap.size ≤ g := e; omega), HE2.out.2.1.then hk3, ⟨HE2.out.2.2.1, HE2.out.2.2.2, by omega, by omega⟩⟩
       clear hr hgs hR hk3 HE2)
    | (go_at_call 13
       refine Calls.mono (HRd.out w3) ?_
       rintro e w' ⟨rfl, hw'⟩
       rw [hw']
       clear hw' w')
    | (go_at_call 12
       refine Calls.mono (readYes_any d b q (newD N) w3 HP.out.dx rfl HQ.out zs_len (Int.le_refl _) (by show (0 : Int) < _; omega)) ?_
       rintro e w4 ⟨rfl, hb4, hd4, hk4⟩
       obtain ⟨y, hy⟩ : ∃ y : DS, y = { newD N with rd := (newD N).rd + 1 } := ⟨_, rfl⟩
       rw [← hy] at hd4
       obtain ⟨gb, hgb⟩ : ∃ gb, gb = w3.heap.size := ⟨_, rfl⟩
       rw [← hgb] at hb4
       rw [← hgb]
       have HP4 : Hid (Pr w w4 d b r gs y (newD N)) := HP.out.left (hk4.mono (fun _ _ e => .inl e)) hd4
       have HB4 : Hid (Box w4 gb 72 (u8s zs)) := hb4
       have HY : Hid (y.N = N ∧ y.fl = false ∧ y.rd = 1 ∧ y.wr = 0) := by rw [hy]; exact ⟨rfl, rfl, rfl, rfl⟩
       have HW : Hid (w4.drew = w4.drew) := rfl
       clear hb4 hd4 hk4 hgb hy HP))
  obtain ⟨arm, lf, tn, vs, hR4⟩ := HP4.out.ry
  have c0 := hR4.cells.1
  have HPd : Hid (Pr w w4.drew d b r gs y (newD N)) := HP4.out.no ((Kept.refl No w4).drew)
  have HKd : Hid (Kept No w w4.drew) := HPd.out.kept
  have c0' : w4.cell? ⟨r, 0, none⟩ = some (.slice (some ⟨gs, 0, none⟩) N N) := c0
  have HBd : Hid (Box w4.drew gb 72 (u8s zs)) := HB4.out
  obtain ⟨w5, hw5⟩ : ∃ w5, w5 = w4.drew.alloc (.cells C 5) := ⟨_, rfl⟩
  have hk5 : Kept No w4.drew w5 := by rw [hw5]; exact (Kept.refl No w4.drew).alloc _
  have HP5 : Hid (Pr w w5 d b r gs y (newD N)) := HPd.out.no hk5
  have HB5 : Hid (Nums .u8 w5 (some ⟨gb, 0, none⟩) zs) := (HBd.out.all).no hk5
  have HC5 : Hid (Nums .u8 w5 (some ⟨w4.drew.heap.size, 0, none⟩) zs) := by
    have : Box w5 w4.drew.heap.size 5 (u8s zs) := by rw [hw5, HC.out]; exact Box.new _ _ _
    exact this.all
  have T14 : Hid (1 = 1) := rfl
  have HW5 : Hid (w4.drew.alloc (.cells C 5) = w5) := hw5.symm
  clear hR4 c0 hw5 hk5
  go_region_held3 (fun w' => w'.cell? ⟨r, 0, none⟩ = some (.slice (some ⟨gs, 0, none⟩) N N)) (go_keep) (first
    | (go_at_call 14
       have hguard := T14
       clear hguard
       have hS := same_any (some ⟨gb, 0, none⟩) (some ⟨w4.drew.heap.size, 0, none⟩) 512 512 512 512 zs zs w5 HB5.out HC5.out zs_u8 zs_u8 zs_len zs_len
       rw [← HW5.out] at hS
       refine Calls.mono hS ?_
       rintro e w' ⟨rfl, hw'⟩
       rw [hw', decide_eq_true rfl]
       clear hw' w' hS T14)
    | (go_at_call 15
       have hS := fallen_any d b y w5 HP5.out.dx
       rw [HY.out.2.1, ← HW5.out] at hS
       refine Calls.mono hS ?_
       rintro e w' ⟨rfl, hw'⟩
       rw [hw']
       clear hw' w' hS)
    | (go_at_call 16
       have hS := sectors_any d b y w5 HP5.out.dx
       rw [HY.out.1, ← HW5.out] at hS
       refine Calls.mono hS ?_
       rintro e w' ⟨rfl, hw'⟩
       rw [hw']
       clear hw' w' hS)
    | (go_at_call 17
       have hS := counts_any d b y w5 HP5.out.dx
       rw [HY.out.2.2.1, HY.out.2.2.2, ← HW5.out] at hS
       refine Calls.mono hS ?_
       rintro e wA ⟨rfl, hkA⟩
       rw [HW5.out] at hkA
       have HA : Hid (Kept No w wA) := HP5.out.kept.then hkA
       obtain ⟨arm', lf', tn', vs', hRA⟩ := HP5.out.ry.no hkA
       have cA : wA.cell? ⟨r, 0, none⟩ = some (.slice (some ⟨gs, 0, none⟩) N N) := hRA.cells.1
       clear hkA hS hRA))
  go_wp2_with (first
    | (go_at_call 18
       obtain ⟨gl, hgl⟩ : ∃ gl, gl = wA.heap.size := ⟨_, rfl⟩
       have hS := lend_any (some ⟨g, off, none⟩) m cap s wA (HI.out.1.no HA.out) HI.out.2.1 HI.out.2.2.1
       rw [← hgl] at hS
       refine Calls.mono hS ?_
       rintro e wL ⟨rfl, hbL, hkL⟩
       have HL : Hid (Box wL gl 5 (u8s (lentS s 67)) ∧ Kept No w wL ∧ Nums .u8 wL (some ⟨g, off, none⟩) s) := ⟨hbL, HA.out.then hkL, HI.out.1.no (HA.out.then hkL)⟩
       clear hbL hkL hgl hS HA)
    | (go_at_call 19
       obtain ⟨d2, hd2⟩ : ∃ d2, d2 = wL.heap.size + 1 := ⟨_, rfl⟩
       obtain ⟨b2, hb2⟩ : ∃ b2, b2 = wL.heap.size := ⟨_, rfl⟩
       have hS := loadYes_any gl 0 (m + 67) M m s wL (Box.lent HL.out.1) HM.out.2.2.2 HM.out.1 HM.out.2.1 HM.out.2.2.1 (by omega) (by have := HI.out.2.2.1; omega)
       rw [← hd2, ← hb2, HX.out.2.2.2] at hS
       refine Calls.mono hS ?_
       rintro e wM ⟨rfl, hdM, hkM⟩
       have HD : Hid (Dsk wM d2 b2 x) := hdM
       have HLM : Hid (Box wM gl 5 (u8s (lentS s 67)) ∧ Kept No w wM ∧ Nums .u8 wM (some ⟨g, off, none⟩) s) := ⟨HL.out.1.kept hkM (fun e => e), HL.out.2.1.then hkM, HL.out.2.2.no hkM⟩
       clear hd2 hb2 hS hdM hkM HL)
    | (go_at_call 20
       have hS := refLoadYes_any g off cap M m s wM HLM.out.2.2 HM.out.2.2.2 HM.out.1 HM.out.2.1 HM.out.2.2.1 HI.out.2.2.2.2.1 HI.out.2.2.2.2.2
       rw [HX.out.2.2.2] at hS
       refine Calls.mono hS ?_
       rintro e wR ⟨r2, gs2, rfl, hr2, hgs2, hR2, hkR⟩
       have HR2 : Hid (Dsk wR d2 b2 x ∧ RD wR r2 gs2 (fun g => wM.heap.size ≤ g) x) := ⟨HD.out.no hkR, hR2⟩
       have HLR : Hid (Box wR gl 5 (u8s (lentS s 67)) ∧ Kept No w wR ∧ Nums .u8 wR (some ⟨g, off, none⟩) s) := ⟨HLM.out.1.kept hkR (fun e => e), HLM.out.2.1.then hkR, HLM.out.2.2.no hkR⟩
       clear hS hr2 hgs2 hR2 hkR HLM HD)
    | (go_at_call 21
       refine Calls.mono (back_any gl (some ⟨g, off, none⟩) m cap s wR HLR.out.1 HLR.out.2.2 HI.out.2.1 HI.out.2.2.1 HI.out.2.2.2.1) ?_
       rintro e w' ⟨rfl, hw'⟩
       rw [hw']
       clear hw' w')
    | (go_at_call 22
       refine Calls.mono (held_any d2 b2 r2 gs2 _ x wR HR2.out.1 HR2.out.2) ?_
       rintro e wH ⟨rfl, hkH⟩
       have HH : Hid (Dsk wH d2 b2 x ∧ Kept No w wH ∧ Nums .u8 wH (some ⟨g, off, none⟩) s) := ⟨HR2.out.1.no hkH, HLR.out.2.1.then hkH, HLR.out.2.2.no hkH⟩
       clear hkH)
    | (go_at_call 23
       obtain ⟨gi, hgi⟩ : ∃ gi, gi = wH.heap.size := ⟨_, rfl⟩
       have hS := image_any d2 b2 x wH HH.out.1 HX.out.1.fine
       rw [HX.out.2.2.1, HX.out.2.1, ← HM.out.1, ← hgi] at hS
       refine Calls.mono hS ?_
       rintro e wI ⟨rfl, hbI, hkI⟩
       have HJ : Hid (Nums .u8 wI (some ⟨gi, 0, none⟩) s ∧ Kept No w wI ∧ Nums .u8 wI (some ⟨g, off, none⟩) s) := ⟨hbI.all, HH.out.2.1.then hkI, HH.out.2.2.no hkI⟩
       have TZ : Hid (1 = 1) := rfl
       clear hS hbI hkI hgi)
    | (go_at_call 14
       have hguard := TZ
       clear hguard
       refine Calls.mono (same_any (some ⟨gi, 0, none⟩) (some ⟨g, off, none⟩) m m m cap s s wI HJ.out.1 HJ.out.2.2 HI.out.2.2.2.1 HI.out.2.2.2.1 HI.out.2.1 HI.out.2.1) ?_
       rintro e w' ⟨rfl, hw'⟩
       rw [hw', decide_eq_true rfl]
       clear hw' w' TZ))
  all_goals go_ret
  all_goals exact ⟨rfl, HJ.out.2.1⟩

set_option maxRecDepth 100000 in
set_option maxHeartbeats 4000000 in
theorem newLoYes (n : Int) (h : n < 1) (g off cap M m : Nat) (s : List Int) (w : World) (hI : Bys w (some ⟨g, off, none⟩) m cap s) (hm : m = M * 512) (hM1 : 1 ≤ M) (hM2 : M ≤ 65536) :
    Calls Try.prog 3 #[.int .i64 n, .slice (some ⟨g, off, none⟩) m cap] w fun e w' => e = .returned (.bool true) ∧ Kept No w w' := by
  have HI : Hid (Bys w (some ⟨g, off, none⟩) m cap s) := hI
  have HM : Hid (m = M * 512 ∧ 1 ≤ M ∧ M ≤ 65536 ∧ s.length = M * 512) := ⟨hm, hM1, hM2, hI.2.1.trans hm⟩
  obtain ⟨x, hx⟩ : ∃ x, x = loadD s := ⟨_, rfl⟩
  have HX : Hid (Ok x ∧ x.N = M ∧ flatN x.N x.c = s ∧ loadD s = x) := by
    have := loadD_ok (hI.2.1.trans hm) hM1 hM2 hI.2.2.2.1
    rw [← hx] at this
    exact ⟨this.1, this.2.1, this.2.2, hx.symm⟩
  clear hI hm hM1 hM2 hx
  have h0 : ¬ (1 ≤ n ∧ n ≤ 65536) := by omega
  have h3 : ¬ (1 ≤ n) := by omega
  go_enter Try.func3, Try.ntmps3
  go_wp2_with (first
    | (go_at_call 9
       refine Calls.mono (known_any w) ?_
       rintro e wK ⟨rfl, hkK⟩
       have HK : Hid (Kept No w wK) := hkK
       clear hkK)
    | (go_at_call 10
       refine Calls.mono (newNo_any n wK (by omega)) ?_
       rintro e w' ⟨rfl, hw'⟩
       rw [hw']
       obtain ⟨wA, hwA⟩ : ∃ wA, wA = wK := ⟨_, rfl⟩
       rw [← hwA] at HK ⊢
       have HA : Hid (Kept No w wA) := HK.out
       clear hw' w' hwA HK wK)
    | (go_at_call 18
       obtain ⟨gl, hgl⟩ : ∃ gl, gl = wA.heap.size := ⟨_, rfl⟩
       have hS := lend_any (some ⟨g, off, none⟩) m cap s wA (HI.out.1.no HA.out) HI.out.2.1 HI.out.2.2.1
       rw [← hgl] at hS
       refine Calls.mono hS ?_
       rintro e wL ⟨rfl, hbL, hkL⟩
       have HL : Hid (Box wL gl 5 (u8s (lentS s 67)) ∧ Kept No w wL ∧ Nums .u8 wL (some ⟨g, off, none⟩) s) := ⟨hbL, HA.out.then hkL, HI.out.1.no (HA.out.then hkL)⟩
       clear hbL hkL hgl hS HA)
    | (go_at_call 19
       obtain ⟨d2, hd2⟩ : ∃ d2, d2 = wL.heap.size + 1 := ⟨_, rfl⟩
       obtain ⟨b2, hb2⟩ : ∃ b2, b2 = wL.heap.size := ⟨_, rfl⟩
       have hS := loadYes_any gl 0 (m + 67) M m s wL (Box.lent HL.out.1) HM.out.2.2.2 HM.out.1 HM.out.2.1 HM.out.2.2.1 (by omega) (by have := HI.out.2.2.1; omega)
       rw [← hd2, ← hb2, HX.out.2.2.2] at hS
       refine Calls.mono hS ?_
       rintro e wM ⟨rfl, hdM, hkM⟩
       have HD : Hid (Dsk wM d2 b2 x) := hdM
       have HLM : Hid (Box wM gl 5 (u8s (lentS s 67)) ∧ Kept No w wM ∧ Nums .u8 wM (some ⟨g, off, none⟩) s) := ⟨HL.out.1.kept hkM (fun e => e), HL.out.2.1.then hkM, HL.out.2.2.no hkM⟩
       clear hd2 hb2 hS hdM hkM HL)
    | (go_at_call 20
       have hS := refLoadYes_any g off cap M m s wM HLM.out.2.2 HM.out.2.2.2 HM.out.1 HM.out.2.1 HM.out.2.2.1 HI.out.2.2.2.2.1 HI.out.2.2.2.2.2
       rw [HX.out.2.2.2] at hS
       refine Calls.mono hS ?_
       rintro e wR ⟨r2, gs2, rfl, hr2, hgs2, hR2, hkR⟩
       have HR2 : Hid (Dsk wR d2 b2 x ∧ RD wR r2 gs2 (fun g => wM.heap.size ≤ g) x) := ⟨HD.out.no hkR, hR2⟩
       have HLR : Hid (Box wR gl 5 (u8s (lentS s 67)) ∧ Kept No w wR ∧ Nums .u8 wR (some ⟨g, off, none⟩) s) := ⟨HLM.out.1.kept hkR (fun e => e), HLM.out.2.1.then hkR, HLM.out.2.2.no hkR⟩
       clear hS hr2 hgs2 hR2 hkR HLM HD)
    | (go_at_call 21
       refine Calls.mono (back_any gl (some ⟨g, off, none⟩) m cap s wR HLR.out.1 HLR.out.2.2 HI.out.2.1 HI.out.2.2.1 HI.out.2.2.2.1) ?_
       rintro e w' ⟨rfl, hw'⟩
       rw [hw']
       clear hw' w')
    | (go_at_call 22
       refine Calls.mono (held_any d2 b2 r2 gs2 _ x wR HR2.out.1 HR2.out.2) ?_
       rintro e wH ⟨rfl, hkH⟩
       have HH : Hid (Dsk wH d2 b2 x ∧ Kept No w wH ∧ Nums .u8 wH (some ⟨g, off, none⟩) s) := ⟨HR2.out.1.no hkH, HLR.out.2.1.then hkH, HLR.out.2.2.no hkH⟩
       clear hkH)
    | (go_at_call 23
       obtain ⟨gi, hgi⟩ : ∃ gi, gi = wH.heap.size := ⟨_, rfl⟩
       have hS := image_any d2 b2 x wH HH.out.1 HX.out.1.fine
       rw [HX.out.2.2.1, HX.out.2.1, ← HM.out.1, ← hgi] at hS
       refine Calls.mono hS ?_
       rintro e wI ⟨rfl, hbI, hkI⟩
       have HJ : Hid (Nums .u8 wI (some ⟨gi, 0, none⟩) s ∧ Kept No w wI ∧ Nums .u8 wI (some ⟨g, off, none⟩) s) := ⟨hbI.all, HH.out.2.1.then hkI, HH.out.2.2.no hkI⟩
       have TZ : Hid (1 = 1) := rfl
       clear hS hbI hkI hgi)
    | (go_at_call 14
       have hguard := TZ
       clear hguard
       refine Calls.mono (same_any (some ⟨gi, 0, none⟩) (some ⟨g, off, none⟩) m m m cap s s wI HJ.out.1 HJ.out.2.2 HI.out.2.2.2.1 HI.out.2.2.2.1 HI.out.2.1 HI.out.2.1) ?_
       rintro e w' ⟨rfl, hw'⟩
       rw [hw', decide_eq_true rfl]
       clear hw' w' TZ))
  all_goals go_ret
  all_goals exact ⟨rfl, HJ.out.2.1⟩

set_option maxRecDepth 100000 in
set_option maxHeartbeats 4000000 in
theorem newLoNo (n : Int) (h : n < 1) (a : Option Addr) (m cap : Nat) (s : List Int) (w : World) (hI : Bys w a m cap s) (hm : ¬ (m % 512 = 0 ∧ 1 ≤ m / 512 ∧ m / 512 ≤ 65536)) :
    Calls Try.prog 3 #[.int .i64 n, .slice a m cap] w fun e w' => e = .returned (.bool true) ∧ Kept No w w' := by
  have HI : Hid (Bys w a m cap s) := hI
  have HM : Hid (¬ (m % 512 = 0 ∧ 1 ≤ m / 512 ∧ m / 512 ≤ 65536)) := hm
  clear hI hm
  have h0 : ¬ (1 ≤ n ∧ n ≤ 65536) := by omega
  have h3 : ¬ (1 ≤ n) := by omega
  go_enter Try.func3, Try.ntmps3
  go_wp2_with (first
    | (go_at_call 9
       refine Calls.mono (known_any w) ?_
       rintro e wK ⟨rfl, hkK⟩
       have HK : Hid (Kept No w wK) := hkK
       clear hkK)
    | (go_at_call 10
       refine Calls.mono (newNo_any n wK (by omega)) ?_
       rintro e w' ⟨rfl, hw'⟩
       rw [hw']
       obtain ⟨wA, hwA⟩ : ∃ wA, wA = wK := ⟨_, rfl⟩
       rw [← hwA] at HK ⊢
       have HA : Hid (Kept No w wA) := HK.out
       clear hw' w' hwA HK wK)
    | (go_at_call 18
       obtain ⟨gl, hgl⟩ : ∃ gl, gl = wA.heap.size := ⟨_, rfl⟩
       have hS := lend_any a m cap s wA (HI.out.1.no HA.out) HI.out.2.1 HI.out.2.2.1
       rw [← hgl] at hS
       refine Calls.mono hS ?_
       rintro e wL ⟨rfl, hbL, hkL⟩
       have HL : Hid (Box wL gl 5 (u8s (lentS s 67)) ∧ Kept No w wL ∧ Nums .u8 wL a s) := ⟨hbL, HA.out.then hkL, HI.out.1.no (HA.out.then hkL)⟩
       clear hbL hkL hgl hS HA)
    | (go_at_call 19
       refine Calls.mono (loadNo_any (some ⟨gl, 0, none⟩) m (m + 67) wL (by have := HI.out.2.2.1; omega) HM.out) ?_
       rintro e w' ⟨rfl, hw'⟩
       rw [hw']
       clear hw' w')
    | (go_at_call 20
       refine Calls.mono (refLoadNo_any a m cap wL (by have := HI.out.2.2.1; omega) HM.out) ?_
       rintro e w' ⟨rfl, hw'⟩
       rw [hw']
       clear hw' w')
    | (go_at_call 21
       refine Calls.mono (back_any gl a m cap s wL HL.out.1 HL.out.2.2 HI.out.2.1 HI.out.2.2.1 HI.out.2.2.2.1) ?_
       rintro e w' ⟨rfl, hw'⟩
       rw [hw']
       clear hw' w'))
  all_goals go_ret
  all_goals exact ⟨rfl, HL.out.2.1⟩

set_option maxRecDepth 100000 in
set_option maxHeartbeats 4000000 in
theorem newHiYes (n : Int) (h : 65536 < n) (g off cap M m : Nat) (s : List Int) (w : World) (hI : Bys w (some ⟨g, off, none⟩) m cap s) (hm : m = M * 512) (hM1 : 1 ≤ M) (hM2 : M ≤ 65536) :
    Calls Try.prog 3 #[.int .i64 n, .slice (some ⟨g, off, none⟩) m cap] w fun e w' => e = .returned (.bool true) ∧ Kept No w w' := by
  have HI : Hid (Bys w (some ⟨g, off, none⟩) m cap s) := hI
  have HM : Hid (m = M * 512 ∧ 1 ≤ M ∧ M ≤ 65536 ∧ s.length = M * 512) := ⟨hm, hM1, hM2, hI.2.1.trans hm⟩
  obtain ⟨x, hx⟩ : ∃ x, x = loadD s := ⟨_, rfl⟩
  have HX : Hid (Ok x ∧ x.N = M ∧ flatN x.N x.c = s ∧ loadD s = x) := by
    have := loadD_ok (hI.2.1.trans hm) hM1 hM2 hI.2.2.2.1
    rw [← hx] at this
    exact ⟨this.1, this.2.1, this.2.2, hx.symm⟩
  clear hI hm hM1 hM2 hx
  have h0 : ¬ (1 ≤ n ∧ n ≤ 65536) := by omega
  have h3 : 1 ≤ n := by omega
  have h4 : ¬ (n ≤ 65536) := by omega
  go_enter Try.func3, Try.ntmps3
  go_wp2_with (first
    | (go_at_call 9
       refine Calls.mono (known_any w) ?_
       rintro e wK ⟨rfl, hkK⟩
       have HK : Hid (Kept No w wK) := hkK
       clear hkK)
    | (go_at_call 10
       refine Calls.mono (newNo_any n wK (by omega)) ?_
       rintro e w' ⟨rfl, hw'⟩
       rw [hw']
       obtain ⟨wA, hwA⟩ : ∃ wA, wA = wK := ⟨_, rfl⟩
       rw [← hwA] at HK ⊢
       have HA : Hid (Kept No w wA) := HK.out
       clear hw' w' hwA HK wK)
    | (go_at_call 18
       obtain ⟨gl, hgl⟩ : ∃ gl, gl = wA.heap.size := ⟨_, rfl⟩
       have hS := lend_any (some ⟨g, off, none⟩) m cap s wA (HI.out.1.no HA.out) HI.out.2.1 HI.out.2.2.1
       rw [← hgl] at hS
       refine Calls.mono hS ?_
       rintro e wL ⟨rfl, hbL, hkL⟩
       have HL : Hid (Box wL gl 5 (u8s (lentS s 67)) ∧ Kept No w wL ∧ Nums .u8 wL (some ⟨g, off, none⟩) s) := ⟨hbL, HA.out.then hkL, HI.out.1.no (HA.out.then hkL)⟩
       clear hbL hkL hgl hS HA)
    | (go_at_call 19
       obtain ⟨d2, hd2⟩ : ∃ d2, d2 = wL.heap.size + 1 := ⟨_, rfl⟩
       obtain ⟨b2, hb2⟩ : ∃ b2, b2 = wL.heap.size := ⟨_, rfl⟩
       have hS := loadYes_any gl 0 (m + 67) M m s wL (Box.lent HL.out.1) HM.out.2.2.2 HM.out.1 HM.out.2.1 HM.out.2.2.1 (by omega) (by have := HI.out.2.2.1; omega)
       rw [← hd2, ← hb2, HX.out.2.2.2] at hS
       refine Calls.mono hS ?_
       rintro e wM ⟨rfl, hdM, hkM⟩
       have HD : Hid (Dsk wM d2 b2 x) := hdM
       have HLM : Hid (Box wM gl 5 (u8s (lentS s 67)) ∧ Kept No w wM ∧ Nums .u8 wM (some ⟨g, off, none⟩) s) := ⟨HL.out.1.kept hkM (fun e => e), HL.out.2.1.then hkM, HL.out.2.2.no hkM⟩
       clear hd2 hb2 hS hdM hkM HL)
    | (go_at_call 20
       have hS := refLoadYes_any g off cap M m s wM HLM.out.2.2 HM.out.2.2.2 HM.out.1 HM.out.2.1 HM.out.2.2.1 HI.out.2.2.2.2.1 HI.out.2.2.2.2.2
       rw [HX.out.2.2.2] at hS
       refine Calls.mono hS ?_
       rintro e wR ⟨r2, gs2, rfl, hr2, hgs2, hR2, hkR⟩
       have HR2 : Hid (Dsk wR d2 b2 x ∧ RD wR r2 gs2 (fun g => wM.heap.size ≤ g) x) := ⟨HD.out.no hkR, hR2⟩
       have HLR : Hid (Box wR gl 5 (u8s (lentS s 67)) ∧ Kept No w wR ∧ Nums .u8 wR (some ⟨g, off, none⟩) s) := ⟨HLM.out.1.kept hkR (fun e => e), HLM.out.2.1.then hkR, HLM.out.2.2.no hkR⟩
       clear hS hr2 hgs2 hR2 hkR HLM HD)
    | (go_at_call 21
       refine Calls.mono (back_any gl (some ⟨g, off, none⟩) m cap s wR HLR.out.1 HLR.out.2.2 HI.out.2.1 HI.out.2.2.1 HI.out.2.2.2.1) ?_
       rintro e w' ⟨rfl, hw'⟩
       rw [hw']
       clear hw' w')
    | (go_at_call 22
       refine Calls.mono (held_any d2 b2 r2 gs2 _ x wR HR2.out.1 HR2.out.2) ?_
       rintro e wH ⟨rfl, hkH⟩
       have HH : Hid (Dsk wH d2 b2 x ∧ Kept No w wH ∧ Nums .u8 wH (some ⟨g, off, none⟩) s) := ⟨HR2.out.1.no hkH, HLR.out.2.1.then hkH, HLR.out.2.2.no hkH⟩
       clear hkH)
    | (go_at_call 23
       obtain ⟨gi, hgi⟩ : ∃ gi, gi = wH.heap.size := ⟨_, rfl⟩
       have hS := image_any d2 b2 x wH HH.out.1 HX.out.1.fine
       rw [HX.out.2.2.1, HX.out.2.1, ← HM.out.1, ← hgi] at hS
       refine Calls.mono hS ?_
       rintro e wI ⟨rfl, hbI, hkI⟩
       have HJ : Hid (Nums .u8 wI (some ⟨gi, 0, none⟩) s ∧ Kept No w wI ∧ Nums .u8 wI (some ⟨g, off, none⟩) s) := ⟨hbI.all, HH.out.2.1.then hkI, HH.out.2.2.no hkI⟩
       have TZ : Hid (1 = 1) := rfl
       clear hS hbI hkI hgi)
    | (go_at_call 14
       have hguard := TZ
       clear hguard
       refine Calls.mono (same_any (some ⟨gi, 0, none⟩) (some ⟨g, off, none⟩) m m m cap s s wI HJ.out.1 HJ.out.2.2 HI.out.2.2.2.1 HI.out.2.2.2.1 HI.out.2.1 HI.out.2.1) ?_
       rintro e w' ⟨rfl, hw'⟩
       rw [hw', decide_eq_true rfl]
       clear hw' w' TZ))
  all_goals go_ret
  all_goals exact ⟨rfl, HJ.out.2.1⟩

set_option maxRecDepth 100000 in
set_option maxHeartbeats 4000000 in
theorem newHiNo (n : Int) (h : 65536 < n) (a : Option Addr) (m cap : Nat) (s : List Int) (w : World) (hI : Bys w a m cap s) (hm : ¬ (m % 512 = 0 ∧ 1 ≤ m / 512 ∧ m / 512 ≤ 65536)) :
    Calls Try.prog 3 #[.int .i64 n, .slice a m cap] w fun e w' => e = .returned (.bool true) ∧ Kept No w w' := by
  have HI : Hid (Bys w a m cap s) := hI
  have HM : Hid (¬ (m % 512 = 0 ∧ 1 ≤ m / 512 ∧ m / 512 ≤ 65536)) := hm
  clear hI hm
  have h0 : ¬ (1 ≤ n ∧ n ≤ 65536) := by omega
  have h3 : 1 ≤ n := by omega
  have h4 : ¬ (n ≤ 65536) := by omega
  go_enter Try.func3, Try.ntmps3
  go_wp2_with (first
    | (go_at_call 9
       refine Calls.mono (known_any w) ?_
       rintro e wK ⟨rfl, hkK⟩
       have HK : Hid (Kept No w wK) := hkK
       clear hkK)
    | (go_at_call 10
       refine Calls.mono (newNo_any n wK (by omega)) ?_
       rintro e w' ⟨rfl, hw'⟩
       rw [hw']
       obtain ⟨wA, hwA⟩ : ∃ wA, wA = wK := ⟨_, rfl⟩
       rw [← hwA] at HK ⊢
       have HA : Hid (Kept No w wA) := HK.out
       clear hw' w' hwA HK wK)
    | (go_at_call 18
       obtain ⟨gl, hgl⟩ : ∃ gl, gl = wA.heap.size := ⟨_, rfl⟩
       have hS := lend_any a m cap s wA (HI.out.1.no HA.out) HI.out.2.1 HI.out.2.2.1
       rw [← hgl] at hS
       refine Calls.mono hS ?_
       rintro e wL ⟨rfl, hbL, hkL⟩
       have HL : Hid (Box wL gl 5 (u8s (lentS s 67)) ∧ Kept No w wL ∧ Nums .u8 wL a s) := ⟨hbL, HA.out.then hkL, HI.out.1.no (HA.out.then hkL)⟩
       clear hbL hkL hgl hS HA)
    | (go_at_call 19
       refine Calls.mono (loadNo_any (some ⟨gl, 0, none⟩) m (m + 67) wL (by have := HI.out.2.2.1; omega) HM.out) ?_
       rintro e w' ⟨rfl, hw'⟩
       rw [hw']
       clear hw' w')
    | (go_at_call 20
       refine Calls.mono (refLoadNo_any a m cap wL (by have := HI.out.2.2.1; omega) HM.out) ?_
       rintro e w' ⟨rfl, hw'⟩
       rw [hw']
       clear hw' w')
    | (go_at_call 21
       refine Calls.mono (back_any gl a m cap s wL HL.out.1 HL.out.2.2 HI.out.2.1 HI.out.2.2.1 HI.out.2.2.2.1) ?_
       rintro e w' ⟨rfl, hw'⟩
       rw [hw']
       clear hw' w'))
  all_goals go_ret
  all_goals exact ⟨rfl, HL.out.2.1⟩

end Go.Proofs.Ytppkjebiiheljaa
