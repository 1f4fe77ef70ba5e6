import Derived.Test.YtppkjebiiheljaaPr
namespace Go.Proofs.Ytppkjebiiheljaa
open Go.RowKit
set_option linter.unusedVariables false
set_option linter.unusedSimpArgs false

set_option maxRecDepth 100000 in
theorem bigNo (a0 : Option Addr) (l0 c0 : Nat) (n : Int) (w : World) (h : n < 1 ∨ 65536 < n) :
    Calls Try.prog 5 #[.int .i64 n, .slice a0 l0 c0] w fun e w' => e = .returned (.bool true) ∧ Kept No w w' := by
  have T1 : Hid (1 = 1) := rfl
  rcases h with h | h
  · go_enter Try.func5, Try.ntmps5
    go_wp2_with (first
      | (go_at_call 9
         have hguard := T1
         clear hguard
         refine Calls.mono (known_any w) ?_
         rintro e w1 ⟨rfl, hk1⟩
         have HK1 : Hid (Kept No w w1) := hk1
         have T2 : Hid (1 = 1) := rfl
         clear hk1 T1)
      | (go_at_call 9
         have hguard := T2
         clear hguard
         refine Calls.mono (known_any w1) ?_
         rintro e w2 ⟨rfl, hk2⟩
         have HK2 : Hid (Kept No w w2) := HK1.out.then hk2
         clear hk2 T2))
    all_goals go_ret
    all_goals exact ⟨rfl, HK2.out⟩
  · have h' : ¬ (n < 1) := by omega
    go_enter Try.func5, Try.ntmps5
    go_wp2_with (first
      | (go_at_call 9
         have hguard := T1
         clear hguard
         refine Calls.mono (known_any w) ?_
         rintro e w1 ⟨rfl, hk1⟩
         have HK1 : Hid (Kept No w w1) := hk1
         have T2 : Hid (1 = 1) := rfl
         clear hk1 T1)
      | (go_at_call 9
         have hguard := T2
         clear hguard
         refine Calls.mono (known_any w1) ?_
         rintro e w2 ⟨rfl, hk2⟩
         have HK2 : Hid (Kept No w w2) := HK1.out.then hk2
         clear hk2 T2))
    all_goals go_ret
    all_goals exact ⟨rfl, HK2.out⟩

set_option maxRecDepth 100000 in
set_option maxHeartbeats 4000000 in
theorem bigYes (a0 : Option Addr) (l0 c0 N : Nat) (xs : List Stp) (w : World) (hs0 : Stps w a0 xs) (hl0 : xs.length = l0) (hm0 : l0 ≤ 140737488351232) (ho0 : ∀ x ∈ xs, StpOk w x) (h1 : 1 ≤ N) (h2 : N ≤ 65536) :
    Calls Try.prog 5 #[.int .i64 N, .slice a0 l0 c0] w fun e w' => e = .returned (.bool true) ∧ Kept No w w' := by
  have HX : Hid (Stps w a0 xs ∧ (∀ x ∈ xs, StpOk w x) ∧ xs.length = l0 ∧ l0 ≤ 140737488351232) := ⟨hs0, ho0, hl0, hm0⟩
  have HN : Hid (1 ≤ N ∧ N ≤ 65536) := ⟨h1, h2⟩
  have e1 : ¬ ((N : Int) < 1) := by omega
  have e2 : ¬ ((N : Int) > 65536) := by omega
  clear hs0 hl0 hm0 ho0 h1 h2
  go_enter Try.func5, Try.ntmps5
  go_wp2_with (first
    | (go_at_call 9
       refine Calls.mono (known_any w) ?_
       rintro e w1 ⟨rfl, hk1⟩
       have HK1 : Hid (Kept No w w1) := hk1
       clear hk1)
    | (go_at_call 10
       obtain ⟨d, hd⟩ : ∃ d, d = w1.heap.size + 1 := ⟨_, rfl⟩
       obtain ⟨b, hb⟩ : ∃ b, b = w1.heap.size := ⟨_, rfl⟩
       have hNw := newYes_any N w1 HN.out.1 HN.out.2
       rw [← hd, ← hb] at hNw
       refine Calls.mono hNw ?_
       rintro e w2 ⟨rfl, hd2, hk2⟩
       have HE2 : Hid (Dsk w2 d b (newD N) ∧ Kept No w w2 ∧ w.heap.size ≤ d ∧ w.heap.size ≤ b) := ⟨hd2, HK1.out.then hk2, by have := HK1.out.size; omega, by have := HK1.out.size; omega⟩
       clear hd2 hk2 hNw hd hb HK1)
    | (go_at_call 11
       refine Calls.mono (refNewYes_any N w2 HN.out.1 HN.out.2) ?_
       rintro e w3 ⟨r, gs, rfl, hr, hgs, hR, hk3⟩
       have HP : Hid (Pr w w3 d b r gs (newD N) (newD N)) := by
         have h1 := HE2.out.2.1.size
         exact ⟨HE2.out.1.no hk3, hR.mono (fun g _ e => by have e' : w2.heap.size ≤ g := e; omega), HE2.out.2.1.then hk3, ⟨HE2.out.2.2.1, HE2.out.2.2.2, by omega, by omega⟩⟩
       clear hr hgs hR hk3 HE2))
  go_loopw [9] (fun i wr => ∃ k : Nat, i = .int .i64 k ∧ ∃ x, Hid (k ≤ l0 ∧ k ≤ 64 ∧ Pr w wr d b r gs x x ∧ Sa x N (3 * k))) (fun i _ => 64 - (intOf i).toNat)
  case atStart => exact ⟨0, rfl, newD N, Nat.zero_le _, Nat.zero_le _, HP.out, ⟨Ok.new HN.out.1 HN.out.2, rfl, rfl, rfl, Int.le_refl _, Int.le_refl _⟩⟩
  case round =>
    clear HP
    obtain ⟨k, rfl, x, HR⟩ := hrel
    have hfin : ∀ (hx : True), True := fun _ => trivial
    by_cases hk : (k : Int) < (l0 : Int)
    · by_cases hk6 : (k : Int) < 64
      · have hk' : k < xs.length := by have := HX.out.2.2.1; omega
        obtain ⟨it, hit⟩ : ∃ it, xs[k]? = some it := ⟨xs[k], List.getElem?_eq_getElem hk'⟩
        obtain ⟨sb, off, ha0, q0, q1, q2, q3⟩ := (HX.out.1.no HR.out.2.2.1.kept) k it hit
        have HO : Hid (StpOk w it) := HX.out.2.1 it (List.mem_of_getElem? hit)
        have HIT : Hid (xs[k]? = some it) := hit
        subst ha0
        obtain ⟨n, hn⟩ : ∃ n, n = roundOf it.n N := ⟨_, rfl⟩
        have HNn : Hid (n < N) := by rw [hn]; exact roundOf_lt _ _ HN.out.1
        have hRd : ∀ w : World, Calls Try.prog 13 #[.int .i64 it.n, .int .i64 N] w fun e w' => e = .returned (.int .i64 n) ∧ w' = w := by
          intro w; rw [hn]; exact round_any it.n N w HN.out.1 (by have := HN.out.2; omega)
        have HRd : Hid _ := hRd
        obtain ⟨B, hB⟩ : ∃ B, B = fullS it.bs 0 := ⟨_, rfl⟩
        have HB : Hid (B.length = 512 ∧ U8 B ∧ fullS it.bs 0 = B) := ⟨by rw [hB]; exact fullS_len _ _, by rw [hB]; exact fullS_u8 HO.out.u8 (by omega), hB.symm⟩
        have hS1 := HR.out.2.2.2.write n HNn.out HB.out.1 HB.out.2.1 (by have := HR.out.2.1; omega)
        obtain ⟨x1, hx1⟩ : ∃ x1, x1 = wrD x n B := ⟨_, rfl⟩
        rw [← hx1] at hS1
        have hS2 := hS1.read n (by have := HR.out.2.1; omega)
        obtain ⟨x2, hx2⟩ : ∃ x2, x2 = rdD x1 n := ⟨_, rfl⟩
        rw [← hx2] at hS2
        have hS3 := hS2.read it.m (by have := HR.out.2.1; omega)
        obtain ⟨x3, hx3⟩ : ∃ x3, x3 = rdD x2 it.m := ⟨_, rfl⟩
        rw [← hx3] at hS3
        have HS : Hid (Sa x1 N (3 * k + 1) ∧ Sa x2 N (3 * k + 1 + 1) ∧ Sa x3 N (3 * (k + 1))) := ⟨hS1, hS2, by rw [show 3 * (k + 1) = 3 * k + 1 + 1 + 1 by omega]; exact hS3⟩
        have HXe : Hid (x1 = wrD x n B ∧ x2 = rdD x1 n ∧ x3 = rdD x2 it.m) := ⟨hx1, hx2, hx3⟩
        have hlb : (l0 : Int) ≤ 140737488351232 := by have := HX.out.2.2.2; omega
        clear hk' hit hn hRd hB hS1 hS2 hS3 hx1 hx2 hx3 hfin
        go_wp2_with (first
          | (go_at_call 13
             refine Calls.mono (HRd.out wr) ?_
             rintro e w' ⟨rfl, hw'⟩
             rw [hw']
             clear hw' w')
          | (refine wp_make512 rfl rfl ?_
             intro w3 HB3 hk3
             obtain ⟨gb, hgb⟩ : ∃ gb, gb = wr.heap.size := ⟨_, rfl⟩
             rw [← hgb] at HB3
             rw [← hgb]
             have HP3 : Hid (Pr w w3 d b r gs x x) := HR.out.2.2.1.no hk3
             have HG : Hid (wr.heap.size ≤ gb) := by show wr.heap.size ≤ gb; omega
             have HK3 : Hid (Kept No wr w3) := hk3
             obtain ⟨_, _, e3, p0, p1, p2, p3⟩ := (HX.out.1.no HP3.out.kept) k it HIT.out
             cases e3
             have HSrc : Hid (Nums .u8 w3 it.a it.bs) := HO.out.nums.no HP3.out.kept
             clear hk3 hgb p0 p1 p2 q0 q1 q2 q3)
          | (refine wp_copyFull rfl (.tmp 61) (.tmp 66) rfl gb rfl it.a it.l it.c it.bs rfl HB3.out HSrc.out HO.out.len ?_
             intro w4 v4 HB4 hk4
             rw [HB.out.2.2] at HB4
             have hk14 : Kept No wr w4 := HK3.out.trans hk4 (fun _ e => e) (fun i hi e => by have : i = gb := e; have := HG.out; omega)
             have HP4 : Hid (Pr w w4 d b r gs x x) := HR.out.2.2.1.no hk14
             have T1 : Hid (1 = 1) := rfl
             clear hk4 hk14 HB3 HSrc HK3 HP3 p3)
          | (go_at_call 25
             refine Calls.mono (write_all d b n (some ⟨gb, 0, none⟩) 512 512 B x w4 HP4.out.dx HR.out.2.2.2.ok HB4.out.all HB.out.1 (Nat.le_refl _) (by decide)) ?_
             rintro e w5 ⟨rfl, hd5, hk5⟩
             rw [← HXe.out.1] at hd5
             have HP5 : Hid (Pr w w5 d b r gs x1 x) := HP4.out.left hk5 hd5
             have HB5 : Hid (Box w5 gb 5 (u8s B)) := HB4.out.kept hk5 (dsk_box HP4.out.dx HB4.out (by decide))
             clear hd5 hk5 HB4)
          | (go_at_call 26
             refine Calls.mono (refWriteOk_any r gs n (some ⟨gb, 0, none⟩) 512 B (fun g => w.heap.size ≤ g) x w5 HP5.out.ry HR.out.2.2.2.ok HR.out.2.2.2.fl (by rw [HR.out.2.2.2.N]; exact HNn.out) HB5.out.all HB.out.1 (by rw [HR.out.2.2.2.pw]; rfl)) ?_
             rintro e w6 ⟨rfl, hr6, hk6⟩
             rw [HB.out.1]
             rw [← HXe.out.1] at hr6
             have HP6 : Hid (Pr w w6 d b r gs x1 x1) := HP5.out.right hk6 hr6
             have T2 : Hid (1 = 1) := rfl
             clear hr6 hk6 HB5 HP5 HP4)
          | (go_at_call 12
             have hguard := T2
             clear hguard
             refine Calls.mono (read_all d b n x1 w6 HP6.out.dx HS.out.1.ok) ?_
             rintro e w7 ⟨a7, m7, bs7, rfl, hn7, hl7, hbs7, hat7, hd7, hk7⟩
             rw [← HXe.out.2.1] at hd7
             have HP7 : Hid (Pr w w7 d b r gs x2 x1) := HP6.out.left hk7.db hd7
             have HV7 : Hid (Nums .u8 w7 a7 bs7 ∧ bs7.length = m7 ∧ bs7 = (if refE x1 n = 0 then x1.c (n : Int).toNat else []) ∧ ∀ g off, a7 = some ⟨g, off, none⟩ → ¬ RG r gs g) := ⟨hn7, hl7, hbs7, fun g off e => (HP6.out.gap hat7 e).2⟩
             have T3 : Hid (1 = 1) := rfl
             clear T2 hn7 hl7 hbs7 hat7 hd7 hk7)
          | (go_at_call 27
             have hguard := T3
             clear hguard
             refine Calls.mono (refRead_any r gs n (fun g => w.heap.size ≤ g) x1 w7 HP7.out.ry HS.out.1.ok) ?_
             rintro e w8 ⟨a8, m8, bs8, rfl, hn8, hl8, hbs8, hat8, hr8, hk8⟩
             rw [← HXe.out.2.1] at hr8
             have HP8 : Hid (Pr w w8 d b r gs x2 x2) := HP7.out.right1 hk8 hr8
             have HV8 : Hid (Nums .u8 w8 a7 bs7 ∧ bs7.length = m7 ∧ Nums .u8 w8 a8 bs8 ∧ bs8.length = m8 ∧ bs7 = bs8 ∧ U8 bs7) := by
               refine ⟨HV7.out.1.kept hk8 (fun g off e eo => HV7.out.2.2.2 g off e (.inl eo)), HV7.out.2.1, hn8, hl8, HV7.out.2.2.1.trans hbs8.symm, ?_⟩
               rw [HV7.out.2.2.1]
               split
               · exact HS.out.1.ok.u8 _
               · exact fun i => by simp
             have T4 : Hid (1 = 1) := rfl
             clear T3 hn8 hl8 hbs8 hat8 hr8 hk8 HV7 HP7 HP6)
          | (go_at_call 14
             have hguard := T4
             clear hguard
             refine Calls.mono (same_any a7 a8 m7 m8 m7 m8 bs7 bs8 w8 HV8.out.1 HV8.out.2.2.1 HV8.out.2.2.2.2.2 (HV8.out.2.2.2.2.1 ▸ HV8.out.2.2.2.2.2) HV8.out.2.1 HV8.out.2.2.2.1) ?_
             rintro e w' ⟨rfl, hw'⟩
             rw [hw', decide_eq_true HV8.out.2.2.2.2.1]
             obtain ⟨_, _, e8, p0, p1, p2, p3⟩ := (HX.out.1.no HP8.out.kept) k it HIT.out
             cases e8
             have T5 : Hid (1 = 1) := rfl
             clear hw' w' T4 p0 p1 p3)
          | (go_at_call 12
             have hguard := T5
             clear hguard
             refine Calls.mono (read_all d b it.m x2 w8 HP8.out.dx HS.out.2.1.ok) ?_
             rintro e w9 ⟨a9, m9, bs9, rfl, hn9, hl9, hbs9, hat9, hd9, hk9⟩
             rw [← HXe.out.2.2] at hd9
             have HP9 : Hid (Pr w w9 d b r gs x3 x2) := HP8.out.left hk9.db hd9
             have HV9 : Hid (Nums .u8 w9 a9 bs9 ∧ bs9.length = m9 ∧ bs9 = (if refE x2 it.m = 0 then x2.c it.m.toNat else []) ∧ ∀ g off, a9 = some ⟨g, off, none⟩ → ¬ RG r gs g) := ⟨hn9, hl9, hbs9, fun g off e => (HP8.out.gap hat9 e).2⟩
             obtain ⟨_, _, e9, o0, o1, o2, o3⟩ := (HX.out.1.no HP9.out.kept) k it HIT.out
             cases e9
             have T6 : Hid (1 = 1) := rfl
             clear T5 hn9 hl9 hbs9 hat9 hd9 hk9 o0 o1 o3 p2)
          | (go_at_call 27
             have hguard := T6
             clear hguard
             refine Calls.mono (refRead_any r gs it.m (fun g => w.heap.size ≤ g) x2 w9 HP9.out.ry HS.out.2.1.ok) ?_
             rintro e w10 ⟨a10, m10, bs10, rfl, hn10, hl10, hbs10, hat10, hr10, hk10⟩
             rw [← HXe.out.2.2] at hr10
             have HP10 : Hid (Pr w w10 d b r gs x3 x3) := HP9.out.right1 hk10 hr10
             have HV10 : Hid (Nums .u8 w10 a9 bs9 ∧ bs9.length = m9 ∧ Nums .u8 w10 a10 bs10 ∧ bs10.length = m10 ∧ bs9 = bs10 ∧ U8 bs9) := by
               refine ⟨HV9.out.1.kept hk10 (fun g off e eo => HV9.out.2.2.2 g off e (.inl eo)), HV9.out.2.1, hn10, hl10, HV9.out.2.2.1.trans hbs10.symm, ?_⟩
               rw [HV9.out.2.2.1]
               split
               · exact HS.out.2.1.ok.u8 _
               · exact fun i => by simp
             have T7 : Hid (1 = 1) := rfl
             clear T6 hn10 hl10 hbs10 hat10 hr10 hk10 HV9 HP9 HP8 o2)
          | (go_at_call 14
             have hguard := T7
             clear hguard
             refine Calls.mono (same_any a9 a10 m9 m10 m9 m10 bs9 bs10 w10 HV10.out.1 HV10.out.2.2.1 HV10.out.2.2.2.2.2 (HV10.out.2.2.2.2.1 ▸ HV10.out.2.2.2.2.2) HV10.out.2.1 HV10.out.2.2.2.1) ?_
             rintro e w' ⟨rfl, hw'⟩
             rw [hw', decide_eq_true HV10.out.2.2.2.2.1]
             clear hw' w' T7))
        go_roundw
        case rel => exact ⟨k + 1, by go_num, x3, by omega, by omega, HP10.out, HS.out.2.2⟩
        case measure => simp [intOf]; omega
      · have hk7 : ¬ ((k : Int) < 64) := hk6
        go_wp2_with (go_at_call 22
                     refine Calls.mono (held_any d b r gs _ x wr HR.out.2.2.1.dx HR.out.2.2.1.ry) ?_
                     rintro e w4 ⟨rfl, hk4⟩
                     have HK4 : Hid (Kept No w w4) := HR.out.2.2.1.kept.then hk4
                     clear hk4)
        all_goals go_ret
        all_goals exact ⟨rfl, HK4.out⟩
    · go_wp2_with (go_at_call 22
                   refine Calls.mono (held_any d b r gs _ x wr HR.out.2.2.1.dx HR.out.2.2.1.ry) ?_
                   rintro e w4 ⟨rfl, hk4⟩
                   have HK4 : Hid (Kept No w w4) := HR.out.2.2.1.kept.then hk4
                   clear hk4)
      all_goals go_ret
      all_goals exact ⟨rfl, HK4.out⟩


end Go.Proofs.Ytppkjebiiheljaa
