import Derived.Test.YtppkjebiiheljabAp
namespace Go.Proofs.Ytppkjebiiheljab
open Go.RowKit
set_option linter.unusedVariables false
set_option linter.unusedSimpArgs false

/-- An operation that is wanted goes on as one without a guard. -/
theorem wpList_wanted {P : Program} {ops : Array Oper} {Q : Exit → Act → World → Prop} {o : Oper} {rest : List Oper} {a : Act} {w : World} (hw : Region.wanted o (yielded ops a.tmps) = true)
    (h : wpList P ops Q ({ o with guard := none } :: rest) a w) : wpList P ops Q (o :: rest) a w := by
  have hw' : Region.wanted { o with guard := none } (yielded ops a.tmps) = true := by simp [Region.wanted]
  unfold wpList at h ⊢
  rw [if_pos hw'] at h
  rw [if_pos hw]
  exact h

theorem flatN_u8 {f : Nat → List Int} (h : ∀ m, U8 (f m)) : ∀ n, U8 (flatN n f)
  | 0 => fun i => by simp [flatN]
  | n + 1 => by rw [flatN]; exact (flatN_u8 h n).append (h n)
theorem wrD_wr {x : DS} {n : Int} {bs : List Int} (hr : refE x n = 0) (hb : bs.length = 512) : (wrD x n bs).wr = x.wr + 1 ∧ (wrD x n bs).rd = x.rd := by
  unfold wrD
  rw [if_neg (by simp [hr]), if_neg (by simp [hb])]
  exact ⟨rfl, rfl⟩
theorem armD_wr {x : DS} (n t : Int) : (armD x n t).wr = x.wr ∧ (armD x n t).rd = x.rd := by
  unfold armD; split <;> exact ⟨rfl, rfl⟩

set_option maxRecDepth 100000 in
set_option maxHeartbeats 1000000 in
theorem stillWalk (a0 : Option Addr) (l0 c0 : Nat) (data : List Int) (n short : Int) (w : World) (hb0 : Nums .u8 w a0 data) (hl0 : data.length = l0) (hm0 : l0 ≤ 4611686018427387904) (h80 : U8 data) :
    Calls Try.prog 3 #[.slice a0 l0 c0, .int .i64 n, .int .i64 short] w fun e w' => e = .returned (.bool true) ∧ Kept No w w' := by
  have HA : Hid (Nums .u8 w a0 data ∧ data.length = l0 ∧ l0 ≤ 4611686018427387904) := ⟨hb0, hl0, hm0⟩
  obtain ⟨A, hA⟩ : ∃ A, A = fullS data 7 := ⟨_, rfl⟩
  have A5 : Hid (A.length = 512 ∧ U8 A) := ⟨by rw [hA]; exact fullS_len _ _, by rw [hA]; exact fullS_u8 h80 (by omega)⟩
  have HAe : Hid (A = fullS data 7) := hA
  obtain ⟨r, hr⟩ : ∃ r, r = roundOf n 3 := ⟨_, rfl⟩
  obtain ⟨s, hs⟩ : ∃ s, s = roundOf short 512 := ⟨_, rfl⟩
  have HR : Hid (r < 3 ∧ s < 512) := ⟨by rw [hr]; exact roundOf_lt _ _ (by omega), by rw [hs]; exact roundOf_lt _ _ (by omega)⟩
  have R1 : ∀ w : World, Calls Try.prog 8 #[.int .i64 n, .int .i64 3] w fun e w' => e = .returned (.int .i64 r) ∧ w' = w := by intro w; rw [hr]; exact round_any n 3 w (by omega) (by omega)
  have R2 : ∀ w : World, Calls Try.prog 8 #[.int .i64 short, .int .i64 512] w fun e w' => e = .returned (.int .i64 s) ∧ w' = w := by intro w; rw [hs]; exact round_any short 512 w (by omega) (by omega)
  have HR1 : Hid _ := R1
  have HR2 : Hid _ := R2
  -- the states
  have S1 := (St.new (N := 3) (by omega) (by omega)).write HR.out.1 rfl A5.out.1 A5.out.2 (by omega)
  obtain ⟨x1, hx1⟩ : ∃ x1, x1 = wrD (newD 3) r A := ⟨_, rfl⟩
  have hw1 := wrD_wr (bs := A) ((St.new (N := 3) (by omega) (by omega)).ref HR.out.1) A5.out.1
  rw [← hx1] at S1 hw1
  have S2 := S1.2.arm 1 0 (by omega)
  obtain ⟨x2, hx2⟩ : ∃ x2, x2 = armD x1 1 0 := ⟨_, rfl⟩
  have hw2 := armD_wr (x := x1) 1 0
  rw [← hx2] at S2 hw2
  have S3 := S2.write (n := 0) (bs := A) (by omega) rfl A5.out.1 A5.out.2 (by omega)
  obtain ⟨x3, hx3⟩ : ∃ x3, x3 = wrD x2 (0 : Nat) A := ⟨_, rfl⟩
  have hw3 := wrD_wr (bs := A) (S2.ref (n := 0) (by omega)) A5.out.1
  rw [← hx3] at S3 hw3
  have S4 := St.tear (t := 0) S3.2 (n := 1) (bs := A) (by omega) A5.out.1 A5.out.2 (by omega)
  obtain ⟨x4, hx4⟩ : ∃ x4, x4 = wrD x3 (1 : Nat) A := ⟨_, rfl⟩
  have hw4 := wrD_wr (bs := A) (S3.2.ref (n := 1) (by omega)) A5.out.1
  rw [← hx4] at S4 hw4
  have n0 : (newD 3).wr = 0 ∧ (newD 3).rd = 0 := ⟨rfl, rfl⟩
  have HC : Hid (x2.wr = 1 ∧ x2.rd = 0 ∧ x4.wr = 3 ∧ x4.rd = 0) := by
    rw [n0.1, n0.2] at hw1
    rw [hw1.1, hw1.2] at hw2
    rw [hw2.1, hw2.2] at hw3
    rw [hw3.1, hw3.2] at hw4
    exact ⟨hw2.1, hw2.2, hw4.1, hw4.2⟩
  have HX1 : Hid (x1 = wrD (newD 3) r A) := hx1
  have HX2 : Hid (x2 = armD x1 1 0) := hx2
  have HX3 : Hid (x3 = wrD x2 0 A) := hx3
  have HX4 : Hid (x4 = wrD x3 1 A) := hx4
  have E1 : Hid (wrE (newD 3) r 512 = 0) := S1.1
  have E3 : Hid (wrE x2 0 512 = 0) := S3.1
  have E4 : Hid (wrE x3 1 512 = 5) := S4.1
  have F3 : Hid (refE x2 3 = 31 ∧ refE x2 (-1) = 31 ∧ refE x2 0 = 0) := ⟨S2.refR (by omega), S2.refR (by omega), S2.ref (n := 0) (by omega)⟩
  have HO1 : Hid (Ok x1) := S1.2.ok
  have HO2 : Hid (Ok x2) := S2.ok
  have HO3 : Hid (Ok x3) := S3.2.ok
  have HO4 : Hid (Ok x4) := S4.2.ok
  have HN2 : Hid (x2.N = 3 ∧ x2.fl = false ∧ x4.fl = true) := ⟨S2.N, S2.fl, S4.2.fl⟩
  clear S1 S2 S3 S4 hw1 hw2 hw3 hw4 n0 hx1 hx2 hx3 hx4 R1 R2 hr hs hA hb0 hl0 hm0 h80
  have hs5 : (s : Int) < 512 := by have := HR.out; omega
  have hsn : s ≤ 512 := by have := HR.out; omega
  go_enter Try.func3, Try.ntmps3
  go_wp2_with (first
    | (go_at_call 4
       refine Calls.mono (known_any w) ?_
       rintro e w1 ⟨rfl, hk1⟩
       have HK1 : Hid (Kept No w w1) := hk1
       clear hk1)
    | (go_at_call 5
       obtain ⟨d, hd⟩ : ∃ d, d = w1.heap.size + 1 := ⟨_, rfl⟩
       obtain ⟨b, hb⟩ : ∃ b, b = w1.heap.size := ⟨_, rfl⟩
       have HN := newYes_any 3 w1 (by omega) (by omega)
       rw [← hd, ← hb] at HN
       refine Calls.mono HN ?_
       rintro e w2 ⟨rfl, hd2, hk2⟩
       have HD2 : Hid (Dsk w2 d b (newD 3)) := hd2
       have HK2 : Hid (Kept No w w2) := HK1.out.then hk2
       have HL : Hid (w.heap.size ≤ d ∧ w.heap.size ≤ b) := by have := HK1.out.size; exact ⟨by omega, by omega⟩
       clear hd2 hk2 HN hd hb HK1)
    | (go_at_call 6
       obtain ⟨gA, hgA⟩ : ∃ gA, gA = w2.heap.size := ⟨_, rfl⟩
       have HF := full_any a0 l0 c0 data 7 w2 (HA.out.1.no HK2.out) HA.out.2.1 HA.out.2.2
       rw [← hgA, ← HAe.out] at HF
       refine Calls.mono HF ?_
       rintro e w3 ⟨rfl, hb3, hk3⟩
       have HE3 : Hid (Env w w3 d b gA gA A A (newD 3)) := ⟨HD2.out.no hk3, hb3, hb3, HK2.out.then hk3, HL.out.1, HL.out.2⟩
       clear hb3 hk3 HF hgA HD2 HK2)
    | (go_at_call 8
       have hguard := HE3.out
       clear hguard
       refine Calls.mono (HR1.out w3) ?_
       rintro e w' ⟨rfl, hw'⟩
       rw [hw']
       clear hw' w')
    | (go_at_call 7
       have hguard := HE3.out
       clear hguard
       refine Calls.mono (write_all d b r (some ⟨gA, 0, none⟩) 512 512 A (newD 3) w3 HE3.out.dsk (Ok.new (by decide) (by decide)) HE3.out.bA.all A5.out.1 (Nat.le_refl _) (by decide)) ?_
       rintro e w4 ⟨rfl, hd4, hk4⟩
       rw [E1.out]
       rw [← HX1.out] at hd4
       have HE4 : Hid (Env w w4 d b gA gA A A x1) := HE3.out.next hk4 hd4
       clear hd4 hk4 HE3)
    | (go_at_call 9
       refine Calls.mono (arm_all d b x1 1 0 w4 HE4.out.dsk) ?_
       rintro e w5 ⟨rfl, hd5, hk5⟩
       rw [← HX2.out] at hd5
       have HE5 : Hid (Env w w5 d b gA gA A A x2) := HE4.out.next hk5.db hd5
       clear hd5 hk5 HE4)
    | (go_at_call 10
       have hguard := HE5.out
       clear hguard
       obtain ⟨gI, hgI⟩ : ∃ gI, gI = w5.heap.size := ⟨_, rfl⟩
       have hI := image_any d b x2 w5 HE5.out.dsk HO2.out.fine
       rw [← hgI] at hI
       refine Calls.mono hI ?_
       rintro e w6 ⟨rfl, hb6, hk6⟩
       have HE6 : Hid (Env w w6 d b gA gA A A x2) := HE5.out.no hk6
       have HI6 : Hid (Box w6 gI 5 (u8s (flatN x2.N x2.c))) := hb6
       have Tk1 : Hid (1 = 1) := rfl
       clear hI hgI hb6 hk6 HE5)
    | (go_at_call 7
       have hguard := Tk1
       clear hguard
       refine Calls.mono (writeNo_any d b 3 _ x2 w6 HE6.out.dsk (by rw [F3.out.1]; decide)) ?_
       rintro e w' ⟨rfl, hw'⟩
       rw [hw', F3.out.1]
       have Tk2 : Hid (1 = 1) := rfl
       clear hw' w' Tk1)
    | (go_at_call 7
       have hguard := Tk2
       clear hguard
       refine Calls.mono (writeNo_any d b (-1) _ x2 w6 HE6.out.dsk (by rw [F3.out.2.1]; decide)) ?_
       rintro e w' ⟨rfl, hw'⟩
       rw [hw', F3.out.2.1]
       have Tk3 : Hid (1 = 1) := rfl
       clear hw' w' Tk2)
    | (go_at_call 8
       have hguard := Tk3
       clear hguard
       refine Calls.mono (HR2.out w6) ?_
       rintro e w' ⟨rfl, hw'⟩
       rw [hw']
       clear hw' w')
    | (go_at_call 7
       have hguard := Tk3
       clear hguard
       refine Calls.mono (writeLen_any d b 0 _ s 512 x2 w6 HE6.out.dsk F3.out.2.2 (by have := HR.out.2; omega)) ?_
       rintro e w' ⟨rfl, hw'⟩
       rw [hw']
       have Tk4 : Hid (1 = 1) := rfl
       have HO7 : Hid (OwnB (w6.alloc (.cells #[] 5)) w6.heap.size (some ⟨w6.heap.size, 0, none⟩) 0 0 []) := OwnB.empty w6 _ (Nat.le_refl _)
       have HA7 : Hid (Nums .u8 (w6.alloc (.cells #[] 5)) (some ⟨gA, 0, none⟩) A) := HE6.out.bA.all.no ((Kept.refl No w6).alloc _)
       have hbb : Hid (w6.heap.size ≤ (w6.alloc (.cells #[] 5)).heap.size) := ((Kept.refl No w6).alloc (.cells #[] 5)).size
       clear hw' w' Tk3)
    | (refine wpList_wanted rfl ?_
       refine wp_appF rfl (.tmp 58) (.tmp 59) rfl w6.heap.size 0 0 (some ⟨w6.heap.size, 0, none⟩) [] rfl HO7.out ⟨gA, 0, none⟩ 512 512 A rfl A5.out.1 HA7.out (by decide) hbb.out 512 rfl ?_
       intro a8 c8 w8 HO8 HK8
       have hk8 : Kept No w6 w8 := ((Kept.refl No w6).alloc _).trans HK8.out (fun _ e => e) (fun i hi e => by obtain ⟨ad, e, rfl⟩ := e; cases e; exact absurd hi (Nat.lt_irrefl _))
       have HK8' : Hid (Kept No w6 w8) := hk8
       have HO9 : Hid (OwnB (w8.alloc (.cells #[.int .u8 1] 5)) w6.heap.size a8 c8 512 ([] ++ A)) := HO8.out.no ((Kept.refl No w8).alloc _)
       have HA9 : Hid (Nums .u8 (w8.alloc (.cells #[.int .u8 1] 5)) (some ⟨w8.heap.size, 0, none⟩) [1]) := (Box.new w8 5 #[.int .u8 1]).all (zs := [1])
       have hbc : Hid (w6.heap.size ≤ (w8.alloc (.cells #[.int .u8 1] 5)).heap.size) := (hk8.alloc (.cells #[.int .u8 1] 5)).size
       clear HK8 hk8 HO7 HA7 hbb)
    | (refine wpList_wanted rfl ?_
       refine wp_appF rfl (.tmp 60) (.tmp 61) rfl w6.heap.size 512 c8 a8 ([] ++ A) rfl HO9.out ⟨w8.heap.size, 0, none⟩ 1 1 [1] rfl rfl HA9.out (by decide) hbc.out 513 rfl ?_
       intro a10 c10 w10 HO10 HK10
       have hk10 : Kept No w6 w10 := (HK8'.out.alloc _).trans HK10.out (fun _ e => e) (fun i hi e => absurd (HO9.out.1.base e) (by omega))
       have HE10 : Hid (Env w w10 d b gA gA A A x2) := HE6.out.no hk10
       have HI10 : Hid (Box w10 gI 5 (u8s (flatN x2.N x2.c))) := HI6.out.kept hk10 (fun e => e)
       clear HK10 hk10 HO9 HA9 hbc HK8' HE6 HI6)
    | (go_at_call 7
       have hguard := Tk4
       clear hguard
       refine Calls.mono (writeLen_any d b 0 _ 513 c10 x2 w10 HE10.out.dsk F3.out.2.2 (by decide)) ?_
       rintro e w' ⟨rfl, hw'⟩
       rw [hw']
       have Tk5 : Hid (1 = 1) := rfl
       clear hw' w' Tk4)
    | (go_at_call 11
       refine Calls.mono (readNo_any d b 3 x2 w10 HE10.out.dsk (by rw [F3.out.1]; decide)) ?_
       rintro e w' ⟨rfl, hw'⟩
       rw [hw', F3.out.1]
       clear hw' w')
    | (go_at_call 12
       refine Calls.mono (sectors_any d b x2 w10 HE10.out.dsk) ?_
       rintro e w' ⟨rfl, hw'⟩
       rw [hw', HN2.out.1]
       clear hw' w')
    | (go_at_call 13
       have hguard := Tk5
       clear hguard
       refine Calls.mono (fallen_any d b x2 w10 HE10.out.dsk) ?_
       rintro e w' ⟨rfl, hw'⟩
       rw [hw', HN2.out.2.1]
       clear hw' w')
    | (go_at_call 14
       have hguard := Tk5
       clear hguard
       refine Calls.mono (counts_any d b x2 w10 HE10.out.dsk) ?_
       rintro e w11 ⟨rfl, hk11⟩
       rw [HC.out.1, HC.out.2.1]
       have HE11 : Hid (Env w w11 d b gA gA A A x2) := HE10.out.no hk11
       have HI11 : Hid (Box w11 gI 5 (u8s (flatN x2.N x2.c))) := HI10.out.kept hk11 (fun e => e)
       have Tk6 : Hid (1 = 1) := rfl
       clear hk11 Tk5)
    | (go_at_call 10
       have hguard := Tk6
       clear hguard
       obtain ⟨gJ, hgJ⟩ : ∃ gJ, gJ = w11.heap.size := ⟨_, rfl⟩
       have hI := image_any d b x2 w11 HE11.out.dsk HO2.out.fine
       rw [← hgJ] at hI
       refine Calls.mono hI ?_
       rintro e w12 ⟨rfl, hb12, hk12⟩
       rw [HN2.out.1]
       have HE12 : Hid (Env w w12 d b gA gA A A x2) := HE11.out.no hk12
       have HI12 : Hid (Box w12 gI 5 (u8s (flatN x2.N x2.c))) := HI11.out.kept hk12 (fun e => e)
       have HJ12 : Hid (Box w12 gJ 5 (u8s (flatN x2.N x2.c))) := hb12
       clear hI hgJ hb12 hk12 Tk6 HE11 HI11)
    | (go_at_call 15
       have hl : (flatN x2.N x2.c).length = 1536 := by rw [flatN_len _ HO2.out.fine.len, HN2.out.1]
       refine Calls.mono (same_any (some ⟨gI, 0, none⟩) (some ⟨gJ, 0, none⟩) 1536 1536 1536 1536 (flatN x2.N x2.c) (flatN x2.N x2.c) w12 HI12.out.all HJ12.out.all (flatN_u8 HO2.out.u8 _) (flatN_u8 HO2.out.u8 _) hl hl) ?_
       rintro e w' ⟨rfl, hw'⟩
       rw [hw', decide_eq_true (rfl : flatN x2.N x2.c = flatN x2.N x2.c)]
       have Tk7 : Hid (1 = 1) := rfl
       clear hw' w' hl)
    | (go_at_call 7
       have hguard := Tk7
       clear hguard
       refine Calls.mono (write_all d b 0 (some ⟨gA, 0, none⟩) 512 512 A x2 w12 HE12.out.dsk HO2.out HE12.out.bA.all A5.out.1 (Nat.le_refl _) (by decide)) ?_
       rintro e w13 ⟨rfl, hd13, hk13⟩
       rw [E3.out]
       rw [← HX3.out] at hd13
       have HE13 : Hid (Env w w13 d b gA gA A A x3) := HE12.out.next hk13 hd13
       have Tk8 : Hid (1 = 1) := rfl
       clear hd13 hk13 HE12 Tk7)
    | (go_at_call 7
       have hguard := Tk8
       clear hguard
       refine Calls.mono (write_all d b 1 (some ⟨gA, 0, none⟩) 512 512 A x3 w13 HE13.out.dsk HO3.out HE13.out.bA.all A5.out.1 (Nat.le_refl _) (by decide)) ?_
       rintro e w14 ⟨rfl, hd14, hk14⟩
       rw [E4.out]
       rw [← HX4.out] at hd14
       have HE14 : Hid (Env w w14 d b gA gA A A x4) := HE13.out.next hk14 hd14
       have Tk9 : Hid (1 = 1) := rfl
       clear hd14 hk14 HE13 Tk8)
    | (go_at_call 13
       have hguard := Tk9
       clear hguard
       refine Calls.mono (fallen_any d b x4 w14 HE14.out.dsk) ?_
       rintro e w' ⟨rfl, hw'⟩
       rw [hw', HN2.out.2.2]
       clear hw' w')
    | (go_at_call 14
       have hguard := Tk9
       clear hguard
       refine Calls.mono (counts_any d b x4 w14 HE14.out.dsk) ?_
       rintro e w15 ⟨rfl, hk15⟩
       rw [HC.out.2.2.1, HC.out.2.2.2]
       have HE15 : Hid (Kept No w w15) := HE14.out.kept.then hk15
       clear hk15 Tk9))
  all_goals go_ret
  exact ⟨rfl, HE15.out⟩

end Go.Proofs.Ytppkjebiiheljab
