import Derived.Test.YtppkjebiiheljaaAp
import Derived.Deep.Cut
namespace Go.Proofs.Ytppkjebiiheljaa
open Go.RowKit
set_option linter.unusedVariables false
set_option linter.unusedSimpArgs false

/-- The first i sectors are A. -/
def upTo (A : List Int) (i : Nat) : Nat → List Int := fun m => if m < i then A else zs
theorem upTo_0 (A : List Int) : upTo A 0 = fun _ => zs := by funext m; simp [upTo]
theorem upTo_step (A : List Int) (i : Nat) : updC (upTo A i) i A = upTo A (i + 1) := by
  funext m
  unfold updC upTo
  by_cases e : m = i
  · subst e; simp
  · rw [if_neg e]
    by_cases h : m < i
    · rw [if_pos h, if_pos (by omega)]
    · rw [if_neg h, if_neg (by omega)]
theorem updC_same {c : Nat → List Int} {n : Nat} {s : List Int} (h : c n = s) : updC c n s = c := by
  funext m
  unfold updC
  split
  · rename_i e; rw [e, h]
  · rfl

theorem cap512 : 512 ≤ 4611686018427387904 := by omega
theorem spentP_pos {l t : Int} (h : 0 < l) : spentP (some (l, t)) = some (l - 1, t) := if_pos h

set_option maxRecDepth 100000 in
set_option maxHeartbeats 4000000 in
theorem tornWalk (a0 a1 : Option Addr) (l0 l1 c0 c1 : Nat) (old data : List Int) (writes to at_ : Int) (w : World) (hb0 : Nums .u8 w a0 old) (hb1 : Nums .u8 w a1 data) (hl0 : old.length = l0) (hl1 : data.length = l1) (hm0 : l0 ≤ 4611686018427387904) (hm1 : l1 ≤ 4611686018427387904) (h80 : U8 old) (h81 : U8 data) :
    Calls Try.prog 6 #[.slice a0 l0 c0, .slice a1 l1 c1, .int .i64 writes, .int .i64 to, .int .i64 at_] w fun e w' => e = .returned (.bool true) ∧ Kept No w w' := by
  have HA : Hid (Nums .u8 w a0 old ∧ old.length = l0 ∧ l0 ≤ 4611686018427387904) := ⟨hb0, hl0, hm0⟩
  have HB : Hid (Nums .u8 w a1 data ∧ data.length = l1 ∧ l1 ≤ 4611686018427387904) := ⟨hb1, hl1, hm1⟩
  obtain ⟨A, hA⟩ : ∃ A, A = fullS old 3 := ⟨_, rfl⟩
  obtain ⟨B, hB⟩ : ∃ B, B = fullS data 5 := ⟨_, rfl⟩
  have A5 : Hid (A.length = 512 ∧ U8 A) := ⟨by rw [hA]; exact fullS_len _ _, by rw [hA]; exact fullS_u8 h80 (by omega)⟩
  have B5 : Hid (B.length = 512 ∧ U8 B) := ⟨by rw [hB]; exact fullS_len _ _, by rw [hB]; exact fullS_u8 h81 (by omega)⟩
  have HAe : Hid (A = fullS old 3) := hA
  have HBe : Hid (B = fullS data 5) := hB
  clear hb0 hb1 hl0 hl1 hm0 hm1 h80 h81 hA hB
  go_enter Try.func6, Try.ntmps6
  go_wp2_with (first
    | (go_at_call 9
       refine Calls.mono (known_any w) ?_
       rintro e w1 ⟨rfl, hk1⟩
       have HK1 : Hid (Kept No w w1) := hk1
       clear hk1)
    | (go_at_call 10
       obtain ⟨d, hd⟩ : ∃ d, d = w1.heap.size + 1 := ⟨_, rfl⟩
       obtain ⟨b, hb⟩ : ∃ b, b = w1.heap.size := ⟨_, rfl⟩
       have HN := newYes_any 4 w1 (by omega) (by omega)
       rw [← hd, ← hb] at HN
       refine Calls.mono HN ?_
       rintro e w2 ⟨rfl, hd2, hk2⟩
       have HD2 : Hid (Dsk w2 d b (newD 4)) := hd2
       have HK2 : Hid (Kept No w w2) := HK1.out.then hk2
       have HL : Hid (w.heap.size ≤ d ∧ w.heap.size ≤ b) := by have := HK1.out.size; exact ⟨by omega, by omega⟩
       clear hd2 hk2 HN hd hb HK1)
    | (go_at_call 28
       obtain ⟨gA, hgA⟩ : ∃ gA, gA = w2.heap.size := ⟨_, rfl⟩
       have HF := full_any a0 l0 c0 old 3 w2 (HA.out.1.no HK2.out) HA.out.2.1 HA.out.2.2
       rw [← hgA, ← HAe.out] at HF
       refine Calls.mono HF ?_
       rintro e w3 ⟨rfl, hb3, hk3⟩
       have HD3 : Hid (Dsk w3 d b (newD 4)) := HD2.out.no hk3
       have HB3 : Hid (Box w3 gA 5 (u8s A)) := hb3
       have HK3 : Hid (Kept No w w3) := HK2.out.then hk3
       clear hb3 hk3 HF hgA HD2 HK2 HA)
    | (go_at_call 28
       obtain ⟨gB, hgB⟩ : ∃ gB, gB = w3.heap.size := ⟨_, rfl⟩
       have HF := full_any a1 l1 c1 data 5 w3 (HB.out.1.no HK3.out) HB.out.2.1 HB.out.2.2
       rw [← hgB, ← HBe.out] at HF
       refine Calls.mono HF ?_
       rintro e w4 ⟨rfl, hb4, hk4⟩
       have HE : Hid (Env w w4 d b gA gB A B (newD 4)) := ⟨HD3.out.no hk4, HB3.out.kept hk4 (fun e => e), hb4, HK3.out.then hk4, HL.out.1, HL.out.2⟩
       clear hb4 hk4 HF hgB HD3 HK3 HB3 HB))
  go_loopw [15] (fun i wr => ∃ k : Nat, i = .int .i64 k ∧ ∃ x, Hid (k ≤ 4 ∧ Env w wr d b gA gB A B x ∧ St x 4 (upTo A k) none false k)) (fun i _ => 4 - (intOf i).toNat)
  case atStart => exact ⟨0, rfl, newD 4, by omega, HE.out, by rw [upTo_0]; exact St.new (by omega) (by omega)⟩
  case round =>
    obtain ⟨k, rfl, x, HR⟩ := hrel
    by_cases hk : (k : Int) < 4
    · have hk' : k < 4 := by omega
      have hW := HR.out.2.2.write hk' rfl A5.out.1 A5.out.2 (by omega)
      have HW : Hid (St (wrD x k A) 4 (upTo A (k + 1)) none false (k + 1)) := by have := hW.2; rw [upTo_step] at this; exact this
      have hE := hW.1
      clear hk' hW
      go_wp2_with (go_at_call 25
                   refine Calls.mono (write_all d b k (some ⟨gA, 0, none⟩) 512 512 A x _ HR.out.2.1.dsk HR.out.2.2.ok HR.out.2.1.bA.all A5.out.1 (Nat.le_refl _) cap512) ?_
                   rintro e w6 ⟨rfl, hd6, hk6⟩
                   rw [hE]
                   have HE6 : Hid (Env w w6 d b gA gB A B (wrD x k A)) := HR.out.2.1.next hk6 hd6
                   clear hd6 hk6 hE)
      go_roundw
      case rel => exact ⟨k + 1, by go_num, wrD x k A, by omega, HE6.out, HW.out⟩
      case measure => simp [intOf]; omega
    · have hk' : k = 4 := by have := HR.out.1; omega
      subst hk'
      clear hk HE
      obtain ⟨n, hn⟩ : ∃ n, n = roundOf at_ 4 := ⟨_, rfl⟩
      obtain ⟨lf, hlf⟩ : ∃ lf, lf = roundOf writes 5 := ⟨_, rfl⟩
      have HN : Hid (n < 4 ∧ lf < 5) := ⟨by rw [hn]; exact roundOf_lt _ _ (by omega), by rw [hlf]; exact roundOf_lt _ _ (by omega)⟩
      have R1 : Calls Try.prog 13 #[.int .i64 at_, .int .i64 4] wr fun e w' => e = .returned (.int .i64 n) ∧ w' = wr := by rw [hn]; exact round_any at_ 4 wr (by omega) (by omega)
      have R2 : Calls Try.prog 13 #[.int .i64 writes, .int .i64 5] wr fun e w' => e = .returned (.int .i64 lf) ∧ w' = wr := by rw [hlf]; exact round_any writes 5 wr (by omega) (by omega)
      have HR1 : Hid _ := R1
      have HR2 : Hid _ := R2
      clear R1 R2 hn hlf
      go_wp2_with (first
        | (go_at_call 13
           refine Calls.mono HR1.out ?_
           rintro e w' ⟨rfl, hw'⟩
           rw [hw']
           clear hw' w' HR1)
        | (go_at_call 13
           refine Calls.mono HR2.out ?_
           rintro e w' ⟨rfl, hw'⟩
           rw [hw']
           clear hw' w' HR2)
        | (go_at_call 29
           refine Calls.mono (arm_all d b x lf to wr HR.out.2.1.dsk) ?_
           rintro e w7 ⟨rfl, hd7, hk7⟩
           have HE7 : Hid (Env w w7 d b gA gB A B (armD x lf to)) := HR.out.2.1.next hk7.db hd7
           have HS7 : Hid (St (armD x lf to) 4 (upTo A 4) (some (((lf - 0 : Nat) : Int), torn to)) false 4) := by
             have := HR.out.2.2.arm lf to (by have := HN.out; omega)
             rw [show max ((lf : Int)) 0 = ((lf - 0 : Nat) : Int) by omega] at this
             exact this
           clear hd7 hk7 HR))
      go_loopw [18] (fun i wr => ∃ j : Nat, i = .int .i64 j ∧ ∃ x, Hid (j ≤ lf ∧ Env w wr d b gA gB A B x ∧ St x 4 (upTo A 4) (some (((lf - j : Nat) : Int), torn to)) false (4 + j))) (fun i _ => lf - (intOf i).toNat)
      case atStart => exact ⟨0, rfl, armD x lf to, by omega, HE7.out, HS7.out⟩
      case round =>
        clear HE7 HS7
        obtain ⟨j, rfl, y, HR⟩ := hrel
        by_cases hj : (j : Int) < (lf : Int)
        · have hj' : j < lf := by omega
          have hW := HR.out.2.2.write HN.out.1 (decide_eq_true (by omega)) A5.out.1 A5.out.2 (by have := HN.out; omega)
          have HW : Hid (St (wrD y n A) 4 (upTo A 4) (some (((lf - (j + 1) : Nat) : Int), torn to)) false (4 + (j + 1))) := by
            have := hW.2
            rw [updC_same (show upTo A 4 n = A from if_pos HN.out.1)] at this
            rw [spentP_pos (by omega), show ((lf - j : Nat) : Int) - 1 = ((lf - (j + 1) : Nat) : Int) by omega] at this
            exact this
          have hE := hW.1
          have hF := HW.out.fl
          have hl5 : (lf : Int) < 5 := by have := HN.out; omega
          clear hj' hW
          go_wp2_with (first
            | (go_at_call 25
               refine Calls.mono (write_all d b n (some ⟨gA, 0, none⟩) 512 512 A y _ HR.out.2.1.dsk HR.out.2.2.ok HR.out.2.1.bA.all A5.out.1 (Nat.le_refl _) cap512) ?_
               rintro e w6 ⟨rfl, hd6, hk6⟩
               rw [hE]
               have HE6 : Hid (Env w w6 d b gA gB A B (wrD y n A)) := HR.out.2.1.next hk6 hd6
               clear hd6 hk6 hE)
            | (go_at_call 15
               refine Calls.mono (fallen_any d b (wrD y n A) w6 HE6.out.dsk) ?_
               rintro e w' ⟨rfl, hw'⟩
               rw [hw', hF]
               clear hw' w'))
          go_roundw
          case rel => exact ⟨j + 1, by go_num, wrD y n A, by omega, HE6.out, HW.out⟩
          case measure => simp [intOf]; omega
        · have hj' : j = lf := by have := HR.out.1; omega
          subst hj'
          rw [Nat.sub_self] at HR
          clear hj
          obtain ⟨T, hT⟩ : ∃ T : Nat, (T : Int) = torn to := ⟨(torn to).toNat, by unfold torn; omega⟩
          have HT : Hid ((T : Int) = torn to ∧ T ≤ 512) := ⟨hT, by have h5 : torn to ≤ 512 := (by unfold torn; omega); omega⟩
          clear hT
          have HE1 : Hid (Env w wr d b gA gB A B y ∧ St y 4 (upTo A 4) (some (0, torn to)) false 10) := by
            refine ⟨HR.out.2.1, ?_⟩
            have hs := HR.out.2.2
            exact ⟨hs.N, hs.c, hs.pw, hs.fl, by have := hs.rd; have := HN.out; omega, by have := hs.wr; have := HN.out; omega, by omega, hs.ok⟩
          clear HR
          go_upto_if 75 with fail
          go_cut [19] from 26 (fun s wc => s = .int .i64 (max to 0) ∧ Hid (Env w wc d b gA gB A B y ∧ St y 4 (upTo A 4) (some (0, torn to)) false 10))
          case first =>
            go_wp2
            all_goals go_meet
            all_goals exact ⟨by first | (congr 1; omega) | (rw [Int.max_eq_left (by omega)]) | (rw [Int.max_eq_right (by omega)]), HE1⟩
          case rest =>
            clear HE1
            obtain ⟨rfl, HE2⟩ := hcut
            go_upto_if 77 with fail
            go_cut [19] from 26 (fun s wc => s = .int .i64 T ∧ Hid (Env w wc d b gA gB A B y ∧ St y 4 (upTo A 4) (some (0, torn to)) false 10))
            case first =>
              have hT1 := HT.out.1
              unfold torn at hT1
              go_wp2
              all_goals go_meet
              all_goals exact ⟨by congr 1; omega, HE2⟩
            case rest =>
              clear HE2
              obtain ⟨rfl, HE3⟩ := hcut
              have hTr := HE3.out.2.tear HN.out.1 B5.out.1 B5.out.2 (by omega)
              rw [show (torn to).toNat = T by have := HT.out.1; omega, show upTo A 4 n = A from if_pos HN.out.1] at hTr
              have HS4 : Hid (St (wrD y n B) 4 (updC (upTo A 4) n (tornS A B T)) none true 11) := hTr.2
              have hE4 := hTr.1
              have hF4 := hTr.2.fl
              have hr5 := hTr.2.refF n
              have hne5 : refE (wrD y n B) n ≠ 0 := by rw [hr5]; decide
              obtain ⟨hw5, hx5⟩ := hTr.2.refused (n := n) hne5 512 B
              rw [hr5] at hw5
              have hA5 := hTr.2.armF 0 512
              have hS5 := hTr.2.start
              have HS5 : Hid (St (startD (wrD y n B)) 4 (updC (upTo A 4) n (tornS A B T)) none false 11) := hS5
              obtain ⟨r2, hr2⟩ : ∃ r2, r2 = roundOf ((n : Int) + 1) 4 := ⟨_, rfl⟩
              have HR2 : Hid (r2 < 4 ∧ r2 ≠ n) := by
                rw [hr2]
                refine ⟨roundOf_lt _ _ (by omega), ?_⟩
                have hn4 := HN.out.1
                match n, hn4 with
                | 0, _ => decide
                | 1, _ => decide
                | 2, _ => decide
                | 3, _ => decide
              have hRd : ∀ w : World, Calls Try.prog 13 #[.int .i64 ((n : Int) + 1), .int .i64 4] w fun e w' => e = .returned (.int .i64 r2) ∧ w' = w := by
                intro w; rw [hr2]; exact round_any ((n : Int) + 1) 4 w (by omega) (by omega)
              have HRd : Hid _ := hRd
              have hW6 := hS5.write HR2.out.1 rfl A5.out.1 A5.out.2 (by omega)
              rw [updC_same (show updC (upTo A 4) n (tornS A B T) r2 = A by unfold updC; rw [if_neg HR2.out.2]; exact if_pos HR2.out.1)] at hW6
              have HS6 : Hid (St (wrD (startD (wrD y n B)) r2 A) 4 (updC (upTo A 4) n (tornS A B T)) none false 12) := hW6.2
              have hE6 := hW6.1
              have hF5 := hS5.fl
              clear hTr hS5 hW6 hRd hr2
              have hn4 : (n : Int) < 4 := by have := HN.out.1; omega
              go_wp2_with (first
                | (go_at_call 25
                   have hguard := HE3.out.1
                   clear hguard
                   refine Calls.mono (write_all d b n (some ⟨gB, 0, none⟩) 512 512 B y wc HE3.out.1.dsk HE3.out.2.ok HE3.out.1.bB.all B5.out.1 (Nat.le_refl _) cap512) ?_
                   rintro e w8 ⟨rfl, hd8, hk8⟩
                   rw [hE4]
                   have HE8 : Hid (Env w w8 d b gA gB A B (wrD y n B)) := HE3.out.1.next hk8 hd8
                   clear hd8 hk8 hE4 HE3)
                | (go_at_call 15
                   have hguard := hF4
                   clear hguard
                   refine Calls.mono (fallen_any d b (wrD y n B) w8 HE8.out.dsk) ?_
                   rintro e w' ⟨rfl, hw'⟩
                   rw [hw', hF4]
                   clear hw' w' hF4)
                | (go_at_call 25
                   have hguard := HE8.out
                   clear hguard
                   refine Calls.mono (write_all d b n (some ⟨gB, 0, none⟩) 512 512 B (wrD y n B) w8 HE8.out.dsk HS4.out.ok HE8.out.bB.all B5.out.1 (Nat.le_refl _) cap512) ?_
                   rintro e w9 ⟨rfl, hd9, hk9⟩
                   rw [hw5]
                   rw [hx5] at hd9
                   have HE9 : Hid (Env w w9 d b gA gB A B (wrD y n B)) := HE8.out.next hk9 hd9
                   clear hd9 hk9 hw5 hx5 HE8)
                | (go_at_call 12
                   refine Calls.mono (readNo_any d b n (wrD y n B) w9 HE9.out.dsk hne5) ?_
                   rintro e w' ⟨rfl, hw'⟩
                   rw [hw', hr5]
                   clear hw' w')
                | (go_at_call 29
                   refine Calls.mono (arm_all d b (wrD y n B) 0 512 w9 HE9.out.dsk) ?_
                   rintro e w10 ⟨rfl, hd10, hk10⟩
                   rw [hA5] at hd10
                   have HE10 : Hid (Env w w10 d b gA gB A B (wrD y n B)) := HE9.out.next hk10.db hd10
                   clear hd10 hk10 HE9)
                | (go_at_call 30
                   refine Calls.mono (start_any d b (wrD y n B) w10 HE10.out.dsk) ?_
                   rintro e w11 ⟨rfl, hd11, hk11⟩
                   have HE11 : Hid (Env w w11 d b gA gB A B (startD (wrD y n B))) := HE10.out.next hk11.db hd11
                   clear hd11 hk11 HE10)
                | (go_at_call 15
                   refine Calls.mono (fallen_any d b (startD (wrD y n B)) w11 HE11.out.dsk) ?_
                   rintro e w' ⟨rfl, hw'⟩
                   rw [hw', hF5]
                   clear hw' w' hF5)
                | (go_at_call 13
                   refine Calls.mono (HRd.out w11) ?_
                   rintro e w' ⟨rfl, hw'⟩
                   rw [hw']
                   clear hw' w')
                | (go_at_call 25
                   refine Calls.mono (write_all d b r2 (some ⟨gA, 0, none⟩) 512 512 A (startD (wrD y n B)) w11 HE11.out.dsk HS5.out.ok HE11.out.bA.all A5.out.1 (Nat.le_refl _) cap512) ?_
                   rintro e w12 ⟨rfl, hd12, hk12⟩
                   rw [hE6]
                   have HE12 : Hid (Env w w12 d b gA gB A B (wrD (startD (wrD y n B)) r2 A)) := HE11.out.next hk12 hd12
                   clear hd12 hk12 hE6 HE11))
              obtain ⟨F, hF⟩ : ∃ F, F = updC (upTo A 4) n (tornS A B T) := ⟨_, rfl⟩
              rw [← hF] at HS6
              have HF : Hid (F = updC (upTo A 4) n (tornS A B T)) := hF
              obtain ⟨x0, hx0⟩ : ∃ x0, x0 = wrD (startD (wrD y n B)) r2 A := ⟨_, rfl⟩
              rw [← hx0] at HS6 HE12
              clear hF hx0 HS4 HS5 hne5 hr5 hA5
              go_loopw [22] (fun i wr => ∃ j : Nat, i = .int .i64 j ∧ ∃ x, Hid (j ≤ 4 ∧ Env w wr d b gA gB A B x ∧ St x 4 F none false (12 + j))) (fun i _ => 4 - (intOf i).toNat)
              case atStart => exact ⟨0, rfl, x0, by omega, HE12.out, HS6.out⟩
              case round =>
                clear HE12 HS6
                obtain ⟨j, rfl, x, HR⟩ := hrel
                by_cases hj : (j : Int) < 4
                · have hj' : j < 4 := by omega
                  have hr0 := HR.out.2.2.ref hj'
                  have HS7 : Hid (St (rdD x j) 4 F none false (12 + (j + 1))) := HR.out.2.2.read j (by omega)
                  clear hj'
                  by_cases hjn : j = n
                  · subst hjn
                    have hTi : (T : Int) ≤ 512 := by have := HT.out.2; omega
                    have hTn : T ≤ 512 := HT.out.2
                    go_wp2_with (first
                      | (go_at_call 12
                         refine Calls.mono (read_all d b j x _ HR.out.2.1.dsk HR.out.2.2.ok) ?_
                         rintro e w13 ⟨a13, m13, bs13, rfl, hn13, hl13, hbs13, hat13, hd13, hk13⟩
                         rw [hr0]
                         rw [if_pos hr0, HR.out.2.2.c] at hbs13
                         have HE13 : Hid (Env w w13 d b gA gB A B (rdD x j)) := HR.out.2.1.next hk13.db hd13
                         have HN13 : Hid (Nums .u8 w13 a13 bs13 ∧ bs13.length = m13 ∧ bs13 = F j) := ⟨hn13, hl13, hbs13⟩
                         obtain ⟨b15, hb15⟩ : ∃ b15, b15 = w13.heap.size := ⟨_, rfl⟩
                         have HB15 : Hid (b15 = w13.heap.size) := hb15
                         have HO14 : Hid (OwnB (w13.alloc (.cells #[] 5)) b15 (some ⟨w13.heap.size, 0, none⟩) 0 0 []) := OwnB.empty w13 b15 (by omega)
                         have HA14 : Hid (Nums .u8 (w13.alloc (.cells #[] 5)) (some ⟨gA, 0, none⟩) A) := HE13.out.bA.all.no ((Kept.refl No w13).alloc _)
                         have hbb : Hid (b15 ≤ (w13.alloc (.cells #[] 5)).heap.size) := by show b15 ≤ (w13.alloc (.cells #[] 5)).heap.size; simp; omega
                         clear hn13 hl13 hbs13 hat13 hd13 hk13 hb15)
                      | (refine wp_appF rfl (.tmp 133) (.tmp 134) rfl b15 0 0 (some ⟨w13.heap.size, 0, none⟩) [] rfl HO14.out ⟨gA, 0, none⟩ 512 512 A rfl A5.out.1 HA14.out (by decide) hbb.out 512 rfl ?_
                         intro a15 c15 w15 HO15 HK15
                         have hk15 : Kept No w13 w15 := ((Kept.refl No w13).alloc _).trans HK15.out (fun _ e => e) (fun i hi e => by obtain ⟨ad, e, rfl⟩ := e; cases e; exact absurd hi (Nat.lt_irrefl _))
                         have HE15 : Hid (Env w w15 d b gA gB A B (rdD x j)) := HE13.out.no hk15
                         have HN15 : Hid (Nums .u8 w15 a13 bs13) := HN13.out.1.no hk15
                         have HB16 : Hid (b15 ≤ w15.heap.size) := by have := hk15.size; have := HB15.out; show b15 ≤ w15.heap.size; omega
                         clear hk15 HK15 HO14 HA14))
                    obtain ⟨w16, hw16⟩ : ∃ w16, w16 = (w15.alloc (.cells #[] 5)).drew := ⟨_, rfl⟩
                    have HK16 : Hid (Kept No w15 w16) := by rw [hw16]; exact ((Kept.refl No w15).alloc _).drew
                    have HO16 : Hid (OwnB w16 w15.heap.size (some ⟨w15.heap.size, 0, none⟩) 0 0 []) := by rw [hw16]; exact (OwnB.empty w15 w15.heap.size (Nat.le_refl _)).no ((Kept.refl No _).drew)
                    have HE16 : Hid (Env w w16 d b gA gB A B (rdD x j)) := HE15.out.no HK16.out
                    have HB17 : Hid (w15.heap.size ≤ w16.heap.size) := HK16.out.size
                    have HBT : Hid (Nums .u8 w16 (some ⟨gB, 0, none⟩) (B.take T) ∧ (B.take T).length = T) := ⟨HE16.out.bB.numsTo T, by rw [List.length_take, B5.out.1]; exact Nat.min_eq_left HT.out.2⟩
                    have HAT : Hid ((A.drop T).length = 512 - T) := by show (A.drop T).length = 512 - T; rw [List.length_drop, A5.out.1]
                    have HFj : Hid (F j = B.take T ++ A.drop T) := by
                      show F j = B.take T ++ A.drop T
                      rw [HF.out]; unfold updC; rw [if_pos rfl]; rfl
                    have hbd1 : Hid (0 + T ≤ 1000000000 ∧ T + (512 - T) ≤ 1000000000 ∧ T + (512 - T) = 512) := by have := HT.out.2; exact ⟨by omega, by omega, by omega⟩
                    by_cases hT5 : T = 512
                    · subst hT5
                      go_region_law (first
                        | (have hguard := HO16.out
                           clear hguard
                           rw [← hw16]
                           refine step_appF rfl (.tmp 139) (.tmp 142) rfl w15.heap.size 0 0 (some ⟨w15.heap.size, 0, none⟩) [] (by simp [Act.eval, Act.put]) HO16.out ⟨gB, 0, none⟩ 512 512 (B.take 512) (by simp [Act.eval, Act.put]) HBT.out.2 HBT.out.1 hbd1.out.1 HB17.out 512 (Nat.zero_add 512) ?_
                           intro a17 c17 w17 HO17 HK17
                           have hk17 : Kept No w15 w17 := HK16.out.trans HK17.out (fun _ e => e) (fun i hi e => by obtain ⟨ad, e, rfl⟩ := e; cases e; exact absurd hi (Nat.lt_irrefl _))
                           have HK17' : Hid (Kept No w15 w17) := hk17
                           have HE17 : Hid (Env w w17 d b gA gB A B (rdD x j)) := HE15.out.no hk17
                           have HB18 : Hid (w15.heap.size ≤ w17.heap.size) := hk17.size
                           have HA17 : Hid (Nums .u8 w17 (some ⟨gA, 0, none⟩) (A.drop 512)) := (by have := HE17.out.bA.numsAt 512; intro i hi; rw [List.length_drop, A5.out.1] at hi; omega)
                           clear HO16 hk17 HK17)
                        | (refine step_appF rfl (.tmp 143) (.tmp 146) rfl w15.heap.size 512 c17 a17 ([] ++ B.take 512) (by simp [Act.eval, Act.put]) HO17.out ⟨gA, 0, none⟩ (0) (0) (A.drop 512) (by simp [Act.eval, Act.put]) HAT.out HA17.out hbd1.out.2.1 HB18.out 512 hbd1.out.2.2 ?_
                           intro a18 c18 w18 HO18 HK18
                           have hk18 : Kept No w15 w18 := HK17'.out.trans HK18.out (fun _ e => e) (fun i hi e => absurd (HO17.out.1.base e) (by omega))
                           have HE18 : Hid (Env w w18 d b gA gB A B (rdD x j)) := HE15.out.no hk18
                           have HN18 : Hid (Nums .u8 w18 a13 bs13) := HN15.out.no hk18
                           clear hk18 HK18))
                      go_wp2_with (
                                   go_at_call 14
                                   have hbs : bs13 = [] ++ B.take 512 ++ A.drop 512 := HN13.out.2.2.trans HFj.out
                                   have h8 : U8 ([] ++ B.take 512 ++ A.drop 512) := (B5.out.2.take 512).append (A5.out.2.drop 512)
                                   refine Calls.mono (same_any a13 a18 m13 512 m13 c18 bs13 ([] ++ B.take 512 ++ A.drop 512) w18 HN18.out HO18.out.nums (hbs ▸ h8) h8 HN13.out.2.1 HO18.out.2) ?_
                                   rintro e w' ⟨rfl, hw'⟩
                                   rw [hw', decide_eq_true hbs]
                                   clear hw' w' hbs h8)
                      go_roundw
                      case rel =>
                        (repeat apply Exists.intro)
                        refine ⟨⟨j + 1, ?_, rdD x j, (by omega : j + 1 ≤ 4), HE18.out, HS7.out⟩, rfl⟩
                        go_num
                      case measure => simp [intOf]; omega
                    · have hT6 : ¬ (512 = T) := by omega
                      go_region_law (first
                        | (have hguard := HO16.out
                           clear hguard
                           rw [← hw16]
                           refine step_appF rfl (.tmp 139) (.tmp 142) rfl w15.heap.size 0 0 (some ⟨w15.heap.size, 0, none⟩) [] (by simp [Act.eval, Act.put]) HO16.out ⟨gB, 0, none⟩ T 512 (B.take T) (by simp [Act.eval, Act.put]) HBT.out.2 HBT.out.1 hbd1.out.1 HB17.out T (Nat.zero_add T) ?_
                           intro a17 c17 w17 HO17 HK17
                           have hk17 : Kept No w15 w17 := HK16.out.trans HK17.out (fun _ e => e) (fun i hi e => by obtain ⟨ad, e, rfl⟩ := e; cases e; exact absurd hi (Nat.lt_irrefl _))
                           have HK17' : Hid (Kept No w15 w17) := hk17
                           have HE17 : Hid (Env w w17 d b gA gB A B (rdD x j)) := HE15.out.no hk17
                           have HB18 : Hid (w15.heap.size ≤ w17.heap.size) := hk17.size
                           have HA17 : Hid (Nums .u8 w17 (some ⟨gA, T, none⟩) (A.drop T)) := HE17.out.bA.numsAt T
                           clear HO16 hk17 HK17)
                        | (refine step_appF rfl (.tmp 143) (.tmp 146) rfl w15.heap.size T c17 a17 ([] ++ B.take T) (by simp [Act.eval, Act.put]) HO17.out ⟨gA, T, none⟩ (512 - T) (512 - T) (A.drop T) (by simp [Act.eval, Act.put]) HAT.out HA17.out hbd1.out.2.1 HB18.out 512 hbd1.out.2.2 ?_
                           intro a18 c18 w18 HO18 HK18
                           have hk18 : Kept No w15 w18 := HK17'.out.trans HK18.out (fun _ e => e) (fun i hi e => absurd (HO17.out.1.base e) (by omega))
                           have HE18 : Hid (Env w w18 d b gA gB A B (rdD x j)) := HE15.out.no hk18
                           have HN18 : Hid (Nums .u8 w18 a13 bs13) := HN15.out.no hk18
                           clear hk18 HK18))
                      go_wp2_with (
                                   go_at_call 14
                                   have hbs : bs13 = [] ++ B.take T ++ A.drop T := HN13.out.2.2.trans HFj.out
                                   have h8 : U8 ([] ++ B.take T ++ A.drop T) := (B5.out.2.take T).append (A5.out.2.drop T)
                                   refine Calls.mono (same_any a13 a18 m13 512 m13 c18 bs13 ([] ++ B.take T ++ A.drop T) w18 HN18.out HO18.out.nums (hbs ▸ h8) h8 HN13.out.2.1 HO18.out.2) ?_
                                   rintro e w' ⟨rfl, hw'⟩
                                   rw [hw', decide_eq_true hbs]
                                   clear hw' w' hbs h8)
                      go_roundw
                      case rel => exact ⟨j + 1, by go_num, rdD x j, by omega, HE18.out, HS7.out⟩
                      case measure => simp [intOf]; omega
                  · have hjn' : ((j : Int) == (n : Int)) = false := by simp; omega
                    have HFj : Hid (F j = A) := by
                      show F j = A
                      rw [HF.out]; unfold updC; rw [if_neg hjn]; exact if_pos (by omega)
                    clear hjn
                    go_wp2_with (first
                      | (go_at_call 12
                         refine Calls.mono (read_all d b j x _ HR.out.2.1.dsk HR.out.2.2.ok) ?_
                         rintro e w13 ⟨a13, m13, bs13, rfl, hn13, hl13, hbs13, hat13, hd13, hk13⟩
                         rw [hr0]
                         rw [if_pos hr0, HR.out.2.2.c] at hbs13
                         have HE13 : Hid (Env w w13 d b gA gB A B (rdD x j)) := HR.out.2.1.next hk13.db hd13
                         have HN13 : Hid (Nums .u8 w13 a13 bs13 ∧ bs13.length = m13 ∧ bs13 = F j) := ⟨hn13, hl13, hbs13⟩
                         obtain ⟨b15, hb15⟩ : ∃ b15, b15 = w13.heap.size := ⟨_, rfl⟩
                         have HB15 : Hid (b15 = w13.heap.size) := hb15
                         have HO14 : Hid (OwnB (w13.alloc (.cells #[] 5)) b15 (some ⟨w13.heap.size, 0, none⟩) 0 0 []) := OwnB.empty w13 b15 (by omega)
                         have HA14 : Hid (Nums .u8 (w13.alloc (.cells #[] 5)) (some ⟨gA, 0, none⟩) A) := HE13.out.bA.all.no ((Kept.refl No w13).alloc _)
                         have hbb : Hid (b15 ≤ (w13.alloc (.cells #[] 5)).heap.size) := by show b15 ≤ (w13.alloc (.cells #[] 5)).heap.size; simp; omega
                         clear hn13 hl13 hbs13 hat13 hd13 hk13 hb15)
                      | (refine wp_appF rfl (.tmp 133) (.tmp 134) rfl b15 0 0 (some ⟨w13.heap.size, 0, none⟩) [] rfl HO14.out ⟨gA, 0, none⟩ 512 512 A rfl A5.out.1 HA14.out (by decide) hbb.out 512 rfl ?_
                         intro a15 c15 w15 HO15 HK15
                         have hk15 : Kept No w13 w15 := ((Kept.refl No w13).alloc _).trans HK15.out (fun _ e => e) (fun i hi e => by obtain ⟨ad, e, rfl⟩ := e; cases e; exact absurd hi (Nat.lt_irrefl _))
                         have HE15 : Hid (Env w w15 d b gA gB A B (rdD x j)) := HE13.out.no hk15
                         have HN15 : Hid (Nums .u8 w15 a13 bs13) := HN13.out.1.no hk15
                         have HB16 : Hid (b15 ≤ w15.heap.size) := by have := hk15.size; have := HB15.out; show b15 ≤ w15.heap.size; omega
                         clear hk15 HK15 HO14 HA14)
                      | (go_at_call 14
                         have hbs : bs13 = A := HN13.out.2.2.trans HFj.out
                         refine Calls.mono (same_any a13 a15 m13 512 m13 c15 bs13 A w15 HN15.out HO15.out.nums (hbs ▸ A5.out.2) A5.out.2 HN13.out.2.1 A5.out.1) ?_
                         rintro e w' ⟨rfl, hw'⟩
                         rw [hw', decide_eq_true hbs]
                         clear hw' w' hbs))
                    go_roundw
                    case rel => exact ⟨j + 1, by go_num, rdD x j, by omega, HE15.out, HS7.out⟩
                    case measure => simp [intOf]; omega
                · go_wp2
                  go_ret
                  exact ⟨rfl, HR.out.2.1.kept⟩

end Go.Proofs.Ytppkjebiiheljaa
