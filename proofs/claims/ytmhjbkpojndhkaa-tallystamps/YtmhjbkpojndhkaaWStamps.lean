import Derived.Test.YtmhjbkpojndhkaaBc
namespace Go.Proofs.Ytmhjbkpojndhkaa
open Go.RowKit
set_option linter.unusedVariables false
set_option linter.unusedSimpArgs false

theorem Try.info47 : (Try.prog.info? 47).map (fun i => (i.zero, i.size, i.bytes)) = some (some (.agg #[.int .i64 0, .int .i64 0]), 2, 16) := by kernel_rfl

set_option maxRecDepth 100000 in
set_option maxHeartbeats 4000000 in
theorem stampsWalk (a : Option Addr) (n cap : Nat) (ps : List (Int × Int)) (w : World) (hs : ps.length = n) (hn : n ≤ 8796093021952) (h : Sts w a ps) :
    Calls Try.prog 6 #[.slice a n cap] w fun e w' => e = .returned (.bool true) ∧ Below w.heap.size w w' := by
  have HS : Hid (ps.length = n) := hs
  have H1 : Hid (Sts w a ps) := h
  have HKn : Hid (∀ w : World, Calls Try.prog 9 #[] w fun e w' => e = .returned (.bool true) ∧ Kept No w w') := known_any
  have HRm : Hid (∀ W, Kept No w W → Calls Try.prog 24 #[.slice a n cap] W (MaxOut W ps)) := fun W hk => by
    rcases Nat.eq_zero_or_pos n with h0 | h0
    · subst h0
      obtain rfl : ps = [] := List.length_eq_zero_iff.1 hs
      exact rmax_nil cap a W
    · obtain ⟨m, rfl⟩ : ∃ m, n = m + 1 := ⟨n - 1, by omega⟩
      exact rmax_any a m cap ps W hs hn (h.no hk)
  have HMx : Hid (∀ W g, Sts W (some ⟨g, 0, none⟩) ps → Calls Try.prog 23 #[.slice (some ⟨g, 0, none⟩) n (n + 3)] W (MaxOut W ps)) := fun W g hS => max_any _ n (n + 3) ps W hs hn (by omega) (by omega) hS
  have HM0 : Hid (∀ W, Calls Try.prog 23 #[.slice none 0 0] W (MaxOut W [])) := max_nil
  have hmix : Try.prog.follows .mixedOrders = true := by kernel_rfl
  clear hs h
  go_enter Try.func6, Try.ntmps6
  go_wp2_with (go_at_call 9
               refine Calls.mono (HKn.out _) ?_
               rintro e w1 ⟨rfl, hk1⟩
               have HK1 : Hid (Kept No w w1) := hk1
               clear hk1)
  go_loopw [3] (fun vi wr => ∃ k : Nat, vi = .int .i64 k ∧ k ≤ n ∧ Hid (Kept No w wr)) (fun i _ => n - (intOf i).toNat)
  case atStart => exact ⟨0, by go_num, by omega, HK1⟩
  case round =>
    obtain ⟨k, rfl, hk, HK⟩ := hrel
    clear HK1
    by_cases hlt : k < n
    · have hlt' : (k : Int) < (n : Int) := by omega
      go_wp2
      go_loopw [4] (fun vj wr => ∃ j : Nat, vj = .int .i64 j ∧ j ≤ n ∧ Hid (Kept No w wr)) (fun j _ => n - (intOf j).toNat)
      case atStart => exact ⟨0, by go_num, by omega, HK⟩
      case round =>
        obtain ⟨j, rfl, hj, HKj⟩ := hrel
        clear HK
        by_cases hjl : j < n
        · have hjl' : (j : Int) < (n : Int) := by omega
          by_cases hj4 : j < 40
          · have hj4' : (j : Int) < 40 := by omega
            obtain ⟨b, off, rfl, e1, e2⟩ := (H1.out.no HKj.out) k (by rw [HS.out]; exact hlt)
            obtain ⟨b', off', e, e3, e4⟩ := (H1.out.no HKj.out) j (by rw [HS.out]; exact hjl)
            cases e
            generalize pAt ps k = p at e1 e2
            generalize pAt ps j = q at e3 e4
            obtain ⟨p1, p2⟩ := p
            obtain ⟨q1, q2⟩ := q
            simp only at e1 e2 e3 e4
            have z0 := fun dd os => cell_regrown e1 dd os
            have z1 := fun dd os => cell_regrown e2 dd os
            have z2 := fun dd os => cell_regrown e3 dd os
            have z3 := fun dd os => cell_regrown e4 dd os
            have HRa : Hid (∀ W, Calls Try.prog 21 #[stV p1 p2, stV q1 q2] W fun e w' => e = .returned (.bool (lessP (p1, p2) (q1, q2))) ∧ Below W.heap.size W w') := fun W => toBelow (less_any _ _ _ _ W)
            have HRb : Hid (∀ W, Calls Try.prog 22 #[stV p1 p2, stV q1 q2] W fun e w' => e = .returned (.bool (lessP (p1, p2) (q1, q2))) ∧ Below W.heap.size W w') := fun W => toBelow (rless_any _ _ _ _ W)
            generalize lessP (p1, p2) (q1, q2) = l1 at HRa HRb
            have hk0 : (0 : Int) ≤ (k : Int) := by omega
            have hj0 : (0 : Int) ≤ (j : Int) := by omega
            clear e1 e2 e3 e4
            go_wp2
            refine wp_region_quiet_below hmix (by kernel_rfl) ?_
            repeat (quiet_step (first | exact Calls.regrown_of (HRa.out _) | exact Calls.regrown_of (HRb.out _)))
            refine wpQuiet_nil ?_
            intro _ hw'
            obtain ⟨⟨nq, osq⟩, hw''⟩ := hw'
            rw [hw'']
            simp only []
            have HKr : Hid (Kept No w (Sort.grow (redrawn wr nq) osq)) := HKj.out.then (kept_regrown _ _ _)
            clear hw'' HKj z0 z1 z2 z3 HRa HRb
            generalize Sort.grow (redrawn wr nq) osq = wz at HKr
            go_wp2
            go_roundw
            case rel => exact ⟨j + 1, by go_num, by omega, HKr⟩
            case measure => simp [intOf]; omega
          · have hj4' : ¬ (j : Int) < 40 := by omega
            go_wp2
            go_roundw
            case rel => exact ⟨k + 1, by go_num, by omega, HKj⟩
            case measure => simp [intOf]; omega
        · have hjl' : ¬ (j : Int) < (n : Int) := by omega
          go_wp2
          go_roundw
          case rel => exact ⟨k + 1, by go_num, by omega, HKj⟩
          case measure => simp [intOf]; omega
    · have hlt' : ¬ (k : Int) < (n : Int) := by omega
      clear hlt hk
      have TA : True := trivial
      go_wp2_with (first
        | (at_make
           refine wp_makeV rfl _ _ 44 47 rfl (.agg #[.int .i64 0, .int .i64 0]) 2 16 Try.und44 Try.info47 .i64 .i64 _ _ n (n + 3) rfl rfl rfl (by omega) (by omega) (by omega) (by omega) ?_
           obtain ⟨w3, hw3⟩ : ∃ w3, w3 = wr.alloc (.cells (madeCells (Value.agg #[.int .i64 0, .int .i64 0]).cells ((n + 3) * 2)) 47) := ⟨_, rfl⟩
           rw [← hw3]
           have HB3 : Hid (Box w3 wr.heap.size 47 (madeCells (Value.agg #[.int .i64 0, .int .i64 0]).cells ((n + 3) * 2))) := by rw [hw3]; exact Box.new _ _ _
           have HK3 : Hid (Kept No wr w3) := by rw [hw3]; exact (Kept.refl No wr).alloc _
           clear hw3)
        | (refine wp_copy2 rfl _ _ rfl wr.heap.size n (n + 3) cap a rfl rfl _ 47 HB3.out ps HS.out (H1.out.no (HK.out.then HK3.out)) (by rw [size_madeCells]; omega) ?_
           intro w4 HB4 HK4
           have HK4' : Hid (Kept No wr w4) := HK3.out.trans HK4.out (fun _ e => e) (fun i hi e => by have : i = wr.heap.size := e; omega)
           have HSt4 : Hid (Sts w4 (some ⟨wr.heap.size, 0, none⟩) ps) := by obtain ⟨sp, hb⟩ := HB4.out; exact sts_box hb
           clear HB4 HK4)
        | (go_at_call 23
           have htok := TA
           refine Calls.mono (HMx.out w4 wr.heap.size HSt4.out) ?_
           rintro e w5 ⟨rfl, hk5⟩
           have HK5 : Hid (Kept No w4 w5) := hk5
           clear hk5 htok TA)
        | (go_at_call 24
           refine Calls.mono (HRm.out w5 ((HK.out.then HK4'.out).then HK5.out)) ?_
           rintro e w6 ⟨rfl, hk6⟩
           have HK6 : Hid (Kept No w4 w6) := HK5.out.then hk6
           have HK6' : Hid (Kept No w w6) := (HK.out.then HK4'.out).then HK6.out
           clear hk6))
      have HSt6 : Hid (Sts w6 (some ⟨wr.heap.size, 0, none⟩) ps) := HSt4.out.no HK6.out
      generalize wr.heap.size = g at HSt6 ⊢
      clear HSt4 HK5 HK6 HK4' HK3 HB3
      go_loopw [6] (fun vi wz => ∃ i : Nat, vi = .int .i64 i ∧ i ≤ n ∧ Hid (Kept No w6 wz)) (fun i _ => n - (intOf i).toNat)
      case atStart => exact ⟨0, by go_num, by omega, Kept.refl _ _⟩
      case round =>
        obtain ⟨i, rfl, hi, HKi⟩ := hrel
        by_cases hil : i < n
        · have hil' : (i : Int) < (n : Int) := by omega
          have hi0 : (0 : Int) ≤ (i : Int) := by omega
          obtain ⟨b, off, rfl, e1, e2⟩ := (H1.out.no (HK6'.out.then HKi.out)) i (by rw [HS.out]; exact hil)
          obtain ⟨b', off', e, e3, e4⟩ := (HSt6.out.no HKi.out) i (by rw [HS.out]; exact hil)
          cases e
          rw [Nat.zero_add] at e3 e4
          generalize pAt ps i = p at e1 e2 e3 e4
          obtain ⟨p1, p2⟩ := p
          simp only at e1 e2 e3 e4
          go_wp2
          go_quiet (fail)
          go_wp2
          go_roundw
          case rel => exact ⟨i + 1, by go_num, by omega, HKi.out.drewN _⟩
          case measure => simp [intOf]; omega
        · have hil' : ¬ (i : Int) < (n : Int) := by omega
          go_wp2_with (go_at_call 23
                       refine Calls.mono (HM0.out _) ?_
                       rintro e w7 ⟨rfl, hk7⟩
                       have HK7 : Hid (Kept No w w7) := (HK6'.out.then HKi.out).then hk7
                       rw [show maxP [] = (0, 0) from rfl]
                       clear hk7)
          all_goals go_ret
          all_goals exact ⟨rfl, HK7.out.below (Nat.le_refl _) (fun _ e => e.elim)⟩

end Go.Proofs.Ytmhjbkpojndhkaa
