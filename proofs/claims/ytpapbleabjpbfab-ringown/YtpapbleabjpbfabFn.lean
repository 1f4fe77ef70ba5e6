import Derived.Test.YtpapbleabjpbfabFm
namespace Go.Proofs.Ytpapbleabjpbfab
open Go.RowKit
set_option linter.unusedVariables false
set_option linter.unusedSimpArgs false


open Go.Sort in
set_option maxRecDepth 1000000 in
set_option maxHeartbeats 25600000 in
theorem pdq_any (g cap n : Nat) (sp : List Value) (w0 : World) (hm : n ≤ 4096) :
    ∀ (N a b limit : Nat) (d : Array (Int × Int)) (w : World), b - a < N → d.size = n → SW w0 g sp d w → a ≤ b → b ≤ n → limit ≤ 100 → Sort.Below ltP a b d →
    Calls Try.prog 67 #[.slice (some ⟨g, 0, none⟩) n cap, .int .i64 a, .int .i64 b, .int .i64 limit, cmpV] w fun e w' => e = .returned (.tuple #[]) ∧ SW w0 g sp (pdq ltP d a b limit true true) w' := by
  have hmix : Try.prog.follows .mixedOrders = true := by kernel_rfl
  intro N
  induction N with
  | zero => intro _ _ _ _ _ h; exact absurd h (Nat.not_lt_zero _)
  | succ N ih =>
    intro a b limit d w hN hs S hab hb hlimit hBel0
    go_enter Try.func67, Try.ntmps67
    go_wp2
    go_loopg [1, 2, 3, 10, 11] (b - a) (fun kx s1 s2 s3 s8 s9 wr => ∃ (a1 b1 lim : Nat) (wb wp : Bool) (dk : Array (Int × Int)), s1 = .int .i64 a1 ∧ s2 = .int .i64 b1 ∧ s3 = .int .i64 lim ∧ s8 = .bool wb ∧ s9 = .bool wp ∧
      a1 ≤ b1 ∧ b1 ≤ n ∧ b1 - a1 ≤ kx ∧ kx ≤ b - a ∧ lim ≤ limit ∧ dk.size = n ∧ Sort.Below ltP a1 b1 dk ∧ SW w0 g sp dk wr ∧ pdq ltP dk a1 b1 lim wb wp = pdq ltP d a b limit true true)
    case atStart => exact ⟨a, b, limit, true, true, d, rfl, rfl, rfl, rfl, rfl, hab, hb, Nat.le_refl _, Nat.le_refl _, Nat.le_refl _, hs, hBel0, S, rfl⟩
    case round =>
      obtain ⟨a1, b1, lim, wb, wp, dk, rfl, rfl, rfl, rfl, rfl, hab1, hb1, hkx, hkN, hlim, hds, hBel, hAt, heq⟩ := hrel
      have A : Hid (pdq ltP dk a1 b1 lim wb wp = pdq ltP d a b limit true true) := heq
      clear heq S hBel0
      by_cases h12 : b1 - a1 ≤ 12
      · have h12z : (b1 : Int) - (a1 : Int) ≤ 12 := by omega
        have HC : Hid _ := ins_w (cap := cap) (n := n) hAt hds hab1 hb1 hm
        go_wp2_with fail
        refine Calls.mono HC.out ?_
        rintro e w1 ⟨rfl, hw1⟩
        go_wp2
        (try simp only [Exit.inBlock, Exit.then]); refine bodyPost_ret (results_none rfl _ _ _) rfl ?_
        refine ⟨rfl, ?_⟩
        rw [← A.out, pdq_small h12]
        exact hw1
      · have h12z : ¬ ((b1 : Int) - (a1 : Int) ≤ 12) := by omega
        by_cases hl0 : lim = 0
        · subst hl0
          have HC : Hid _ := heap_w (cap := cap) (n := n) hAt hds (show a1 + 2 ≤ b1 by omega) hb1 hm
          go_wp2_with fail
          refine Calls.mono HC.out ?_
          rintro e w1 ⟨rfl, hw1⟩
          go_wp2
          (try simp only [Exit.inBlock, Exit.then]); refine bodyPost_ret (results_none rfl _ _ _) rfl ?_
          refine ⟨rfl, ?_⟩
          rw [← A.out, pdq_heap h12 rfl]
          exact hw1
        · have hl0z : ¬ ((lim : Int) = 0) := by omega
          obtain ⟨s1, B1, hc1, s2, B2, hpv, s3, B3⟩ := rd_facts (lt := ltP) (limit := lim) (wb := wb) (wp := wp) swoP partialInsertionSort_holds reverseRange_holds (show a1 < b1 by omega) (show b1 ≤ dk.size by omega) hBel
          have F1 : Hid (wb = false → (rd ltP dk a1 b1 lim wb wp).d1 = breakPatterns dk a1 b1 ∧ (rd ltP dk a1 b1 lim wb wp).lim = lim - 1) := by rintro rfl; exact rd_false
          have F2 : Hid (wb = true → (rd ltP dk a1 b1 lim wb wp).d1 = dk ∧ (rd ltP dk a1 b1 lim wb wp).lim = lim) := by rintro rfl; exact rd_true
          have F3 : Hid ((rd ltP dk a1 b1 lim wb wp).c = choosePivot ltP (rd ltP dk a1 b1 lim wb wp).d1 a1 b1) := rd_c
          have F4 : Hid (_ → _) := rd_dec (lt := ltP) (d := dk) (a := a1) (b := b1) (limit := lim) (wb := wb) (wp := wp)
          have F5 : Hid (_ → _) := rd_not (lt := ltP) (d := dk) (a := a1) (b := b1) (limit := lim) (wb := wb) (wp := wp)
          have F6 : Hid (_ → _) := rd_pi_yes (lt := ltP) (d := dk) (a := a1) (b := b1) (limit := lim) (wb := wb) (wp := wp)
          have F7 : Hid (_ → _) := rd_pi_no (lt := ltP) (d := dk) (a := a1) (b := b1) (limit := lim) (wb := wb) (wp := wp)
          have F8 := rd_lim_le (lt := ltP) (d := dk) (a := a1) (b := b1) (limit := lim) (wb := wb) (wp := wp)
          have F9 : Hid (_ → _) := pdq_done (lt := ltP) (d := dk) (a := a1) (b := b1) (limit := lim) (wb := wb) (wp := wp) h12 hl0
          have FA : Hid (_ → _) := pdq_eq (lt := ltP) (d := dk) (a := a1) (b := b1) (limit := lim) (wb := wb) (wp := wp) h12 hl0
          have FB : Hid (_ → _) := pdq_left (lt := ltP) (d := dk) (a := a1) (b := b1) (limit := lim) (wb := wb) (wp := wp) h12 hl0
          have FC : Hid (_ → _) := pdq_right (lt := ltP) (d := dk) (a := a1) (b := b1) (limit := lim) (wb := wb) (wp := wp) h12 hl0
          generalize rd ltP dk a1 b1 lim wb wp = r at s1 B1 hc1 s2 B2 hpv s3 B3 F1 F2 F3 F4 F5 F6 F7 F8 F9 FA FB FC
          go_upto_if 39 with fail
          go_cut [3] from 21 (fun s3 wc => s3 = .int .i64 r.lim ∧ SW w0 g sp r.d1 wc)
          case first =>
            cases wb
            · have G1 : Hid _ := F1.out rfl
              clear F1 F2
              have HC : Hid _ := break_w (cap := cap) (n := n) hAt hds (show a1 + 8 ≤ b1 by omega) hb1 hm
              go_wp2_with fail
              refine Calls.mono HC.out ?_
              rintro e w1 ⟨rfl, hw1⟩
              go_wp2
              go_meet
              case rel =>
                refine ⟨?_, by rw [G1.out.1]; exact hw1⟩
                rw [G1.out.2]
                congr 1
                omega
            · have G2 : Hid _ := F2.out rfl
              clear F1 F2
              go_wp2_with fail
              go_meet
              case rel => exact ⟨by rw [G2.out.2], by rw [G2.out.1]; exact hAt⟩
          case rest =>
            obtain ⟨rfl, hAt1⟩ := hcut
            clear hAt
            have HC : Hid (Calls Try.prog 72 #[.slice (some ⟨g, 0, none⟩) n cap, .int .i64 a1, .int .i64 b1, cmpV] wc fun e w' => e = .returned (.tuple #[.int .i64 r.c.1, .int .i64 (hintCode r.c.2)]) ∧ SW w0 g sp r.d1 w') :=
              F3.out ▸ pivot_w (cap := cap) (n := n) hAt1 (s1.trans hds) (show a1 + 13 ≤ b1 by omega) hb1 hm
            go_wp2_with fail
            refine Calls.mono HC.out ?_
            rintro e w2 ⟨rfl, hAt2⟩
            go_upto_if 56 with fail
            clear HC hAt1
            go_cut [13, 14] from 21 (fun s11 s12 wc => s11 = .int .i64 r.pivot ∧ s12 = .int .i64 (hintCode r.hint) ∧ SW w0 g sp r.d2 wc)
            case first =>
              by_cases hh : r.c.2 = .decreasing
              · have hcode : hintCode r.c.2 = 2 := by rw [hh]; rfl
                obtain ⟨e2, epv, eht⟩ := F4.out hh
                have HC : Hid _ := reverse_w (cap := cap) (n := n) hAt2 (s1.trans hds) (show a1 < b1 by omega) hb1 hm
                go_wp2_with fail
                refine Calls.mono HC.out ?_
                rintro e w3 ⟨rfl, hw3⟩
                go_wp2
                go_meet
                case rel =>
                  refine ⟨?_, by rw [eht]; rfl, by rw [e2]; exact hw3⟩
                  rw [epv]
                  congr 1
                  omega
              · have hcode : ¬ (hintCode r.c.2 = 2) := fun h => hh (hintCode_two h)
                obtain ⟨e2, epv, eht⟩ := F5.out hh
                go_wp2_with fail
                go_meet
                case rel => exact ⟨by rw [epv], by rw [eht], by rw [e2]; exact hAt2⟩
            case rest =>
              obtain ⟨rfl, rfl, hAt3⟩ := hcut
              go_upto_region 15 with fail
              go_cut [14, 75] from 21 (fun s12 s68 wx => s12 = .int .i64 (hintCode r.hint) ∧ s68 = .bool (wb && wp && decide (r.hint = .increasing)) ∧ wx = wc)
              case first =>
                cases wb <;> cases wp <;> cases hh3 : r.hint <;>
                  (have hcode3 := congrArg hintCode hh3
                   simp only [hintCode] at hcode3
                   go_wp2_with fail
                   go_meet
                   exact ⟨by simp [hh3, hintCode], by simp [hh3, hintCode], rfl⟩)
              case rest =>
                obtain ⟨rfl, rfl, rfl⟩ := hcut
                go_upto_if 75 with fail
                go_cut [] from 21 (fun wx => r.pi.2 = false ∧ SW w0 g sp r.pi.1 wx)
                case first =>
                  cases h68 : (wb && wp && decide (r.hint = .increasing))
                  · have epi := F7.out h68
                    go_wp2_with fail
                    go_meet
                    case rel => exact ⟨by rw [epi], by rw [epi]; exact hAt3⟩
                  · have epi := F6.out h68
                    have hc19 := partial_w (cap := cap) (n := n) hAt3 (s2.trans hds) (show a1 < b1 by omega) hb1 hm
                    rw [← epi] at hc19
                    have HC : Hid _ := hc19
                    clear hc19
                    go_wp2_with fail
                    refine Calls.mono HC.out ?_
                    rintro e w4 ⟨rfl, hw4⟩
                    go_wp2
                    all_goals first
                      | (have hp2 : r.pi.2 = false := by assumption
                         go_meet
                         exact ⟨hp2, hw4⟩)
                      | (have hp2 : r.pi.2 = false := by rw [epi]; assumption
                         go_meet
                         exact ⟨hp2, hw4⟩)
                      | (have hp2 : r.pi.2 = true := by first | assumption | (rw [epi]; assumption)
                         (try simp only [Exit.inBlock, Exit.then]); refine bodyPost_ret (results_none rfl _ _ _) rfl ?_
                         refine ⟨rfl, ?_⟩
                         rw [← A.out, F9.out hp2]
                         exact hw4)
                case rest =>
                  obtain ⟨hp2, hAt5⟩ := hcut
                  have S5 : Hid (SW w0 g sp r.pi.1 wc) := hAt5
                  have hpv1 := hpv.1
                  have hpv2 := hpv.2
                  clear hAt5 hAt3
                  rcases Nat.eq_zero_or_pos a1 with ha0 | ha0
                  · have ha0z : decide ((a1 : Int) > 0) = false := decide_eq_false (by omega)
                    have HT7 : Hid ((decide (a1 > 0) && !ltP r.pi.1[a1 - 1]! r.pi.1[r.pivot]!) = false) := by show _ = _; simp [ha0]
                    have hn0 : ¬ (0 < a1) := by omega
                    have hn0d : decide (0 < a1) = false := decide_eq_false hn0
                    have hn0z : decide ((0 : Int) < (a1 : Int)) = false := decide_eq_false (by omega)
                    clear ha0
                    go_wp2_with fail
                    go_quiet (fail)
                    have S6 : Hid (SW w0 g sp r.pi.1 (wc.drewN nq)) := S5.out.on (S5.out.1.kept (Kept.no_drewN _ _) (fun e => e)) (Kept.no_drewN _ _).of_no
                    clear S5
                    generalize wc.drewN nq = w6 at S6
                    have h87 := HT7.out
                    clear HT7
                    obtain ⟨mid, ap, d4, hx⟩ : ∃ mid ap d4, partition ltP r.pi.1 a1 b1 r.pivot = (mid, ap, d4) := ⟨_, _, _, rfl⟩
                    obtain ⟨r1, r2, r3, r4, r5, r6, r7⟩ := round_part swoP (partition_holds ltP) hpv.1 hpv.2 (show b1 ≤ r.pi.1.size by omega) B3 hx
                    have hc22 := part_w (cap := cap) (n := n) S6.out (s3.trans hds) hpv.1 hpv.2 (by omega) hm
                    rw [hx] at hc22
                    have HC22 : Hid _ := hc22
                    have X : Hid (partition ltP r.pi.1 a1 b1 r.pivot = (mid, ap, d4)) := hx
                    clear hx hc22
                    go_wp2_with fail
                    refine Calls.mono HC22.out ?_
                    rintro e w7 ⟨rfl, hAt7⟩
                    go_upto_if 125 with fail
                    clear HC22 S6
                    have hx := X.out
                    have hs4 : d4.size = n := r3.trans (s3.trans hds)
                    by_cases h4 : mid - a1 < b1 - mid
                    · have h4z : (mid : Int) - (a1 : Int) < (b1 : Int) - (mid : Int) := by omega
                      have hih := ih a1 mid r.lim d4 w7 (by omega) hs4 hAt7 (by omega) (by omega) (Nat.le_trans (Nat.le_trans F8 hlim) hlimit) r4
                      obtain ⟨pL, sL⟩ := pdq_sorts ltP swoP d4 a1 mid r.lim true true (by omega) (by omega) r4
                      have HIH : Hid _ := hih
                      clear hih
                      go_wp2_with fail
                      refine Calls.mono HIH.out ?_
                      rintro e w8 ⟨rfl, hw8⟩
                      go_wp2
                      go_roundg (b1 - (mid + 1))
                      case measure => omega
                      case rel =>
                        refine ⟨mid + 1, b1, r.lim, decide (mid - a1 ≥ (b1 - a1) / 8), ap, pdq ltP d4 a1 mid r.lim true true, by simp, rfl, rfl, ?_, rfl, by omega, by omega, Nat.le_refl _, by omega, Nat.le_trans F8 hlim, by rw [pL.1, hs4], (r6 _ pL sL).1, hw8, ?_⟩
                        · exact congrArg Value.bool (eighth (by omega) (by omega))
                        · rw [← A.out, FB.out hp2 h87 (by rw [hx]; exact ⟨r1, r2⟩) (by rw [hx]; exact h4), hx]
                    · have h4z : ¬ ((mid : Int) - (a1 : Int) < (b1 : Int) - (mid : Int)) := by omega
                      have hih := ih (mid + 1) b1 r.lim d4 w7 (by omega) hs4 hAt7 (by omega) (by omega) (Nat.le_trans (Nat.le_trans F8 hlim) hlimit) r5
                      rw [show ((mid + 1 : Nat) : Int) = (mid : Int) + 1 by omega] at hih
                      obtain ⟨pL, sL⟩ := pdq_sorts ltP swoP d4 (mid + 1) b1 r.lim true true (by omega) (by omega) r5
                      have HIH : Hid _ := hih
                      clear hih
                      go_wp2_with fail
                      refine Calls.mono HIH.out ?_
                      rintro e w8 ⟨rfl, hw8⟩
                      go_wp2
                      go_roundg (mid - a1)
                      case measure => omega
                      case rel =>
                        refine ⟨a1, mid, r.lim, decide (b1 - mid ≥ (b1 - a1) / 8), ap, pdq ltP d4 (mid + 1) b1 r.lim true true, rfl, rfl, rfl, ?_, rfl, by omega, by omega, Nat.le_refl _, by omega, Nat.le_trans F8 hlim, by rw [pL.1, hs4], (r7 _ pL sL).1, hw8, ?_⟩
                        · exact congrArg Value.bool (eighth (by omega) (by omega))
                        · rw [← A.out, FC.out hp2 h87 (by rw [hx]; exact ⟨r1, r2⟩) (by rw [hx]; exact h4), hx]

                  · obtain ⟨ap, hap⟩ : ∃ q, q + 1 = a1 := ⟨a1 - 1, by omega⟩
                    have ca := S5.out.1.cell ap (by have := s3.trans hds; omega)
                    have cb := S5.out.1.cell r.pivot (by have := s3.trans hds; omega)
                    obtain ⟨x, hx⟩ : ∃ x, r.pi.1[ap]! = x := ⟨_, rfl⟩
                    obtain ⟨y, hy⟩ : ∃ y, r.pi.1[r.pivot]! = y := ⟨_, rfl⟩
                    rw [hx] at ca
                    rw [hy] at cb
                    have HLV : Hid (ltP r.pi.1[a1 - 1]! r.pi.1[r.pivot]! = decide (cmpP x y < 0)) := by
                      show _ = _
                      rw [← hap, Nat.add_sub_cancel, hx, hy]
                      rfl
                    have a0 := fun dd os => cell_regrown ca.1 dd os
                    have a1' := fun dd os => cell_regrown ca.2 dd os
                    have b0 := fun dd os => cell_regrown cb.1 dd os
                    have b1' := fun dd os => cell_regrown cb.2 dd os
                    have q1 : (ap : Int) < (n : Int) := by omega
                    have q2 : (r.pivot : Int) < (n : Int) := by omega
                    have q3 : (0 : Int) ≤ (ap : Int) := by omega
                    have q4 : (0 : Int) ≤ (r.pivot : Int) := by omega
                    have q5 : (0 : Int) < (a1 : Int) := by omega
                    have hwr : IntKind.i64.wrap ((a1 : Int) - 1) = (ap : Int) := by rw [IntKind.wrap_i64]; omega
                    have hmeth := meth112
                    clear hx hy ca cb
                    go_wp2_with fail
                    refine wp_region_quiet_below hmix (by kernel_rfl) ?_
                    repeat (quiet_step (exact Calls.regrown_of (compareB x y _)))
                    refine wpQuiet_nil ?_
                    intro _ hw'
                    obtain ⟨⟨nq, osq⟩, hw''⟩ := hw'
                    rw [hw'']
                    simp only []
                    have S6 : Hid (SW w0 g sp r.pi.1 (Sort.grow (redrawn wc nq) osq)) := S5.out.on (S5.out.1.kept (kept_regrown _ _ _) (fun e => e)) (kept_regrown _ _ _).of_no
                    clear hw'' a0 a1' b0 b1' hmeth S5 q1 q2 q3 q4 q5 hwr
                    generalize Sort.grow (redrawn wc nq) osq = w6 at S6
                    by_cases hc : cmpP x y < 0
                    · have hcd : decide (cmpP x y < 0) = true := decide_eq_true hc
                      have h87 : (decide (a1 > 0) && !ltP r.pi.1[a1 - 1]! r.pi.1[r.pivot]!) = false := by rw [HLV.out, hcd]; simp
                      rw [hcd]
                      try simp only [Bool.not_true, Bool.not_false]
                      clear hcd hc HLV
                      obtain ⟨mid, ap, d4, hx⟩ : ∃ mid ap d4, partition ltP r.pi.1 a1 b1 r.pivot = (mid, ap, d4) := ⟨_, _, _, rfl⟩
                      obtain ⟨r1, r2, r3, r4, r5, r6, r7⟩ := round_part swoP (partition_holds ltP) hpv.1 hpv.2 (show b1 ≤ r.pi.1.size by omega) B3 hx
                      have hc22 := part_w (cap := cap) (n := n) S6.out (s3.trans hds) hpv.1 hpv.2 (by omega) hm
                      rw [hx] at hc22
                      have HC22 : Hid _ := hc22
                      have X : Hid (partition ltP r.pi.1 a1 b1 r.pivot = (mid, ap, d4)) := hx
                      clear hx hc22
                      go_wp2_with fail
                      refine Calls.mono HC22.out ?_
                      rintro e w7 ⟨rfl, hAt7⟩
                      go_upto_if 125 with fail
                      clear HC22 S6
                      have hx := X.out
                      have hs4 : d4.size = n := r3.trans (s3.trans hds)
                      by_cases h4 : mid - a1 < b1 - mid
                      · have h4z : (mid : Int) - (a1 : Int) < (b1 : Int) - (mid : Int) := by omega
                        have hih := ih a1 mid r.lim d4 w7 (by omega) hs4 hAt7 (by omega) (by omega) (Nat.le_trans (Nat.le_trans F8 hlim) hlimit) r4
                        obtain ⟨pL, sL⟩ := pdq_sorts ltP swoP d4 a1 mid r.lim true true (by omega) (by omega) r4
                        have HIH : Hid _ := hih
                        clear hih
                        go_wp2_with fail
                        refine Calls.mono HIH.out ?_
                        rintro e w8 ⟨rfl, hw8⟩
                        go_wp2
                        go_roundg (b1 - (mid + 1))
                        case measure => omega
                        case rel =>
                          refine ⟨mid + 1, b1, r.lim, decide (mid - a1 ≥ (b1 - a1) / 8), ap, pdq ltP d4 a1 mid r.lim true true, by simp, rfl, rfl, ?_, rfl, by omega, by omega, Nat.le_refl _, by omega, Nat.le_trans F8 hlim, by rw [pL.1, hs4], (r6 _ pL sL).1, hw8, ?_⟩
                          · exact congrArg Value.bool (eighth (by omega) (by omega))
                          · rw [← A.out, FB.out hp2 h87 (by rw [hx]; exact ⟨r1, r2⟩) (by rw [hx]; exact h4), hx]
                      · have h4z : ¬ ((mid : Int) - (a1 : Int) < (b1 : Int) - (mid : Int)) := by omega
                        have hih := ih (mid + 1) b1 r.lim d4 w7 (by omega) hs4 hAt7 (by omega) (by omega) (Nat.le_trans (Nat.le_trans F8 hlim) hlimit) r5
                        rw [show ((mid + 1 : Nat) : Int) = (mid : Int) + 1 by omega] at hih
                        obtain ⟨pL, sL⟩ := pdq_sorts ltP swoP d4 (mid + 1) b1 r.lim true true (by omega) (by omega) r5
                        have HIH : Hid _ := hih
                        clear hih
                        go_wp2_with fail
                        refine Calls.mono HIH.out ?_
                        rintro e w8 ⟨rfl, hw8⟩
                        go_wp2
                        go_roundg (mid - a1)
                        case measure => omega
                        case rel =>
                          refine ⟨a1, mid, r.lim, decide (b1 - mid ≥ (b1 - a1) / 8), ap, pdq ltP d4 (mid + 1) b1 r.lim true true, rfl, rfl, rfl, ?_, rfl, by omega, by omega, Nat.le_refl _, by omega, Nat.le_trans F8 hlim, by rw [pL.1, hs4], (r7 _ pL sL).1, hw8, ?_⟩
                          · exact congrArg Value.bool (eighth (by omega) (by omega))
                          · rw [← A.out, FC.out hp2 h87 (by rw [hx]; exact ⟨r1, r2⟩) (by rw [hx]; exact h4), hx]

                    · have hcd : decide (cmpP x y < 0) = false := decide_eq_false hc
                      have h87 : (decide (a1 > 0) && !ltP r.pi.1[a1 - 1]! r.pi.1[r.pivot]!) = true := by rw [HLV.out, hcd]; simp; omega
                      have hnl : ltP r.pi.1[a1 - 1]! r.pi.1[r.pivot]! = false := by rw [HLV.out, hcd]
                      rw [hcd]
                      try simp only [Bool.not_true, Bool.not_false]
                      clear hcd hc HLV
                      obtain ⟨mid, d4, hx⟩ : ∃ mid d4, partitionEqual ltP r.pi.1 a1 b1 r.pivot = (mid, d4) := ⟨_, _, rfl⟩
                      obtain ⟨r1, r2, r3, r4, _⟩ := round_eq swoP (partitionEqual_holds ltP) (show 0 < a1 by omega) hpv.1 hpv.2 (show b1 ≤ r.pi.1.size by omega) B3 hnl hx
                      have hc21 := parteq_w (cap := cap) (n := n) S6.out (s3.trans hds) hpv.1 hpv.2 (by omega) hm
                      rw [hx] at hc21
                      have HC21 : Hid _ := hc21
                      have X : Hid (partitionEqual ltP r.pi.1 a1 b1 r.pivot = (mid, d4)) := hx
                      clear hx hc21
                      go_wp2_with fail
                      refine Calls.mono HC21.out ?_
                      rintro e w7 ⟨rfl, hw7⟩
                      go_wp2
                      go_roundg (b1 - mid)
                      case measure => omega
                      case rel =>
                        have hx := X.out
                        exact ⟨mid, b1, r.lim, wb, wp, d4, rfl, rfl, rfl, rfl, rfl, r2, hb1, Nat.le_refl _, by omega, Nat.le_trans F8 hlim, by rw [r3, s3, hds], r4, hw7, by rw [← A.out, FA.out hp2 h87 (by rw [hx]; exact ⟨r1, r2⟩), hx]⟩

end Go.Proofs.Ytpapbleabjpbfab
