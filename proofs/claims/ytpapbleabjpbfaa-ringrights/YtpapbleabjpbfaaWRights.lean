import Derived.Test.YtpapbleabjpbfaaAr
namespace Go.Proofs.Ytpapbleabjpbfaa
open Go.RowKit
set_option linter.unusedVariables false

set_option maxRecDepth 100000 in
set_option maxHeartbeats 4000000 in
theorem rightsWalk (a0 : Option Addr) (n0 c0 : Nat) (xs : List Cfg) (a1 : Option Addr) (n1 c1 : Nat) (ks : List Ky) (w : World) (h0 : xs.length = n0) (hx : Cfgs w a0 xs) (hok : ∀ x ∈ xs, CfgOk w x) (h1 : ks.length = n1) (hk : Keys w a1 ks) (hb0 : n0 ≤ 140737488355328) (hb1 : n1 ≤ 140737488355328) :
    Calls Try.prog 7 #[.slice a0 n0 c0, .slice a1 n1 c1] w fun e w' => e = .returned (.bool true) ∧ Below w.heap.size w w' := by
  have HL0 : Hid (xs.length = n0) := h0
  have HL1 : Hid (ks.length = n1) := h1
  have HX : Hid (Cfgs w a0 xs) := hx
  have HO : Hid (∀ x ∈ xs, CfgOk w x) := hok
  have HKs : Hid (Keys w a1 ks) := hk
  clear h0 h1 hx hok hk
  have hmix : Try.prog.follows .mixedOrders = true := by kernel_rfl
  go_enter Try.func7, Try.ntmps7
  go_wp2_with (go_at_call 12; refine (known_any _).mono ?_; rintro e w1 ⟨rfl, hk1⟩; have HK1 : Hid (Kept No w w1) := hk1; clear hk1)
  go_loopw [5] (fun i wr => ∃ k : Nat, k ≤ n0 ∧ i = .int .i64 k ∧ Hid (Kept No w wr)) (fun i _ => n0 - (intOf i).toNat)
  case atStart => exact ⟨0, Nat.zero_le _, rfl, HK1⟩
  case round =>
    obtain ⟨k, hk, rfl, HK⟩ := hrel
    clear HK1
    by_cases hlt : k < n0
    · obtain ⟨x, hxk⟩ : ∃ x, xs[k]? = some x := ⟨_, List.getElem?_eq_getElem (by rw [HL0.out]; exact hlt)⟩
      have hcx := (HO.out x (List.mem_of_getElem? hxk)).no HK.out
      obtain ⟨b, off, rfl, e0, e1, e2, e3, e4, e5⟩ := (HX.out.no HK.out) k x hxk
      have HC : Hid (CfgOk wr x) := hcx
      obtain ⟨xa, xn, xc, zs, f, p, bu, bl, ro⟩ := x
      simp only at e0 e1 e2 e3 e4 e5
      have hln : zs.length = xn := hcx.len
      subst hln
      have hk1 : (k : Int) < (n0 : Int) := by omega
      clear hxk hcx
      go_wp2_with fail
      obtain ⟨w2, hw2⟩ : ∃ w2, w2 = wr.alloc (.cells #[.slice xa zs.length xc, .int .i64 f, .int .i64 p, .int .i64 bu, .int .i64 bl, .int .i64 ro] 29) := ⟨_, rfl⟩
      rw [← hw2]
      have HB2 : Hid (Box w2 wr.heap.size 29 #[.slice xa zs.length xc, .int .i64 f, .int .i64 p, .int .i64 bu, .int .i64 bl, .int .i64 ro]) := by rw [hw2]; exact Box.new _ _ _
      have HK2 : Hid (Kept No wr w2) := by rw [hw2]; exact (Kept.refl No wr).alloc _
      have HC2 : Hid (CfgOk w2 ⟨xa, zs.length, xc, zs, f, p, bu, bl, ro⟩) := HC.out.no HK2.out
      clear hw2 e0 e1 e2 e3 e4 e5 HC
      refine Calls.mono (is_any xa xc zs f p bu bl ro w2 HC2.out.nums) ?_
      rintro e w3 ⟨rfl, hk3⟩
      have HB3 : Hid (Box w3 wr.heap.size 29 _) := HB2.out.kept hk3 (fun e => e)
      have HC3 : Hid (CfgOk w3 ⟨xa, zs.length, xc, zs, f, p, bu, bl, ro⟩) := HC2.out.no hk3
      have HK3 : Hid (Kept No w w3) := (HK.out.then HK2.out).then hk3
      clear hk3 HB2 HC2 HK2 HK
      by_cases hc : cfgB zs f p bu bl ro = true
      · rw [hc]
        have ht := cfgB_true hc
        have hbu := ht.2.2.2.1
        have hf0 := ht.1.1
        have hf3 := ht.1.2.1
        clear ht hc
        have d0 := HB3.out.cell 0
        have d1 := HB3.out.cell 1
        have d2 := HB3.out.cell 2
        have d3 := HB3.out.cell 3
        have d4 := HB3.out.cell 4
        have d5 := HB3.out.cell 5
        simp only [List.getElem?_toArray, List.getElem?_cons_zero, List.getElem?_cons_succ] at d0 d1 d2 d3 d4 d5
        go_wp2_with fail
        refine Calls.mono (lend_any xa xc zs f p bu bl ro w3 HC3.out.le HC3.out.nums) ?_
        rintro e w4 ⟨rfl, hb4, hk4⟩
        have HBx : Hid (Box w4 (w3.heap.size + 2) 3 _) := hb4
        have HB4 : Hid (Box w4 wr.heap.size 29 _) := HB3.out.kept hk4 (fun e => e)
        have HC4 : Hid (CfgOk w4 ⟨xa, zs.length, xc, zs, f, p, bu, bl, ro⟩) := HC3.out.no hk4
        have HK4 : Hid (Kept No w w4) := HK3.out.then hk4
        clear hb4 hk4 HB3 HC3 HK3 d0 d1 d2 d3 d4 d5
        go_wp2
        obtain ⟨w5, hw5⟩ : ∃ w5, w5 = w4.alloc (.cells #[.slice (some ⟨w3.heap.size + 2, 0, none⟩) zs.length (zs.length + 1), .int .i64 f, .int .i64 p, .int .i64 bu, .int .i64 bl, .int .i64 ro] 29) := ⟨_, rfl⟩
        rw [← hw5]
        have HM5 : Hid (Box w5 w4.heap.size 29 #[.slice (some ⟨w3.heap.size + 2, 0, none⟩) zs.length (zs.length + 1), .int .i64 f, .int .i64 p, .int .i64 bu, .int .i64 bl, .int .i64 ro]) := by rw [hw5]; exact Box.new _ _ _
        have HK45 : Hid (Kept No w4 w5) := by rw [hw5]; exact (Kept.refl No w4).alloc _
        have HB5 : Hid (Box w5 wr.heap.size 29 _) := HB4.out.kept HK45.out (fun e => e)
        have HBy : Hid (Box w5 (w3.heap.size + 2) 3 _) := HBx.out.kept HK45.out (fun e => e)
        have HC5 : Hid (CfgOk w5 ⟨xa, zs.length, xc, zs, f, p, bu, bl, ro⟩) := HC4.out.no HK45.out
        have HK5 : Hid (Kept No w w5) := HK4.out.then HK45.out
        clear hw5 HB4 HBx HC4 HK4 HK45
        generalize wr.heap.size = g6 at HB5 ⊢
        go_loopw [8] (fun i wq => ∃ j : Nat, j ≤ n1 ∧ i = .int .i64 j ∧ Hid (Kept No w5 wq)) (fun i _ => n1 - (intOf i).toNat)
        case atStart => exact ⟨0, Nat.zero_le _, rfl, Kept.refl _ _⟩
        case round =>
          obtain ⟨j, hj, rfl, HKq⟩ := hrel
          have HM6 : Hid (Box wr w4.heap.size 29 _) := HM5.out.kept HKq.out (fun e => e)
          have HB6 : Hid (Box wr g6 29 _) := HB5.out.kept HKq.out (fun e => e)
          have c0 := HM6.out.cell 0
          have c1 := HM6.out.cell 1
          have c2 := HM6.out.cell 2
          have c3 := HM6.out.cell 3
          have c4 := HM6.out.cell 4
          have c5 := HM6.out.cell 5
          have e0 := HB6.out.cell 0
          have e1 := HB6.out.cell 1
          have e2 := HB6.out.cell 2
          have e3 := HB6.out.cell 3
          have e4 := HB6.out.cell 4
          have e5 := HB6.out.cell 5
          simp only [List.getElem?_toArray, List.getElem?_cons_zero, List.getElem?_cons_succ] at c0 c1 c2 c3 c4 c5 e0 e1 e2 e3 e4 e5
          by_cases hjl : j < n1
          · obtain ⟨y, hyj⟩ : ∃ y, ks[j]? = some y := ⟨_, List.getElem?_eq_getElem (by rw [HL1.out]; exact hjl)⟩
            obtain ⟨kb, koff, rfl, y0, y1, y2, y3⟩ := (HKs.out.no (HK5.out.then HKq.out)) j y hyj
            have z0 := fun dd os => cell_regrown y0 dd os
            have z1 := fun dd os => cell_regrown y1 dd os
            have z2 := fun dd os => cell_regrown y2 dd os
            have z3 := fun dd os => cell_regrown y3 dd os
            have m0 := fun dd os => cell_regrown c0 dd os
            have m1 := fun dd os => cell_regrown c1 dd os
            have m2 := fun dd os => cell_regrown c2 dd os
            have m3 := fun dd os => cell_regrown c3 dd os
            have m4 := fun dd os => cell_regrown c4 dd os
            have m5 := fun dd os => cell_regrown c5 dd os
            have q0 := fun dd os => cell_regrown e0 dd os
            have q1 := fun dd os => cell_regrown e1 dd os
            have q2 := fun dd os => cell_regrown e2 dd os
            have q3 := fun dd os => cell_regrown e3 dd os
            have q4 := fun dd os => cell_regrown e4 dd os
            have q5 := fun dd os => cell_regrown e5 dd os
            have hj1 : (j : Int) < (n1 : Int) := by omega
            have hj0 : (0 : Int) ≤ (j : Int) := by omega
            have HRa : Hid (∀ W, Calls Try.prog 25 #[keyV y.kd y.a y.b y.c, cfgV (.slice (some ⟨w3.heap.size + 2, 0, none⟩) zs.length (zs.length + 1)) f p bu bl ro] W fun e w' => e = .returned (.bool (keyB y.kd y.a y.b y.c bu)) ∧ Below W.heap.size W w') := fun W => toBelow (right_any _ _ _ _ _ _ _ _ _ _ _ _ W (by omega) (by omega))
            have HRb : Hid (∀ W, Calls Try.prog 26 #[keyV y.kd y.a y.b y.c, cfgV (.slice xa zs.length xc) f p bu bl ro] W fun e w' => e = .returned (.bool (keyB y.kd y.a y.b y.c bu)) ∧ Below W.heap.size W w') := fun W => toBelow (rright_any _ _ _ _ _ _ _ _ _ _ _ _ W (by omega) (by omega))
            generalize keyB y.kd y.a y.b y.c bu = kb1 at HRa HRb
            clear hyj y0 y1 y2 y3 c0 c1 c2 c3 c4 c5 e0 e1 e2 e3 e4 e5
            go_wp2
            refine wp_region_quiet_below hmix (by kernel_rfl) ?_
            repeat (quiet_step (first | exact Calls.regrown_of (HRa.out _) | exact Calls.regrown_of (HRb.out _)))
            refine wpQuiet_nil ?_
            intro _ hw'
            obtain ⟨⟨nq, osq⟩, hw''⟩ := hw'
            rw [hw'']
            simp only []
            have HKr : Hid (Kept No w5 (Sort.grow (redrawn wr nq) osq)) := HKq.out.then (kept_regrown _ _ _)
            clear hw'' HM6 HB6 HKq z0 z1 z2 z3 m0 m1 m2 m3 m4 m5 q0 q1 q2 q3 q4 q5
            generalize Sort.grow (redrawn wr nq) osq = wz at HKr
            go_wp2
            go_roundw
            case rel => exact ⟨j + 1, by omega, by go_num, HKr⟩
            case measure => simp [intOf]; omega
          · obtain rfl : j = n1 := by omega
            have m0 := fun dd os => cell_regrown c0 dd os
            have m1 := fun dd os => cell_regrown c1 dd os
            have m2 := fun dd os => cell_regrown c2 dd os
            have m3 := fun dd os => cell_regrown c3 dd os
            have m4 := fun dd os => cell_regrown c4 dd os
            have m5 := fun dd os => cell_regrown c5 dd os
            have q0 := fun dd os => cell_regrown e0 dd os
            have q1 := fun dd os => cell_regrown e1 dd os
            have q2 := fun dd os => cell_regrown e2 dd os
            have q3 := fun dd os => cell_regrown e3 dd os
            have q4 := fun dd os => cell_regrown e4 dd os
            have q5 := fun dd os => cell_regrown e5 dd os
            have HMa : Hid (∀ W, Calls Try.prog 27 #[cfgV (.slice (some ⟨w3.heap.size + 2, 0, none⟩) zs.length (zs.length + 1)) f p bu bl ro] W fun e w' => e = .returned (.int .i64 (f + 1)) ∧ Below W.heap.size W w') := fun W => toBelow (majority_any _ _ _ _ _ _ _ _ W (by omega) (by omega))
            have HKp : Hid (∀ W, Kept No wr W → Calls Try.prog 28 #[cfgV (.slice (some ⟨w3.heap.size + 2, 0, none⟩) zs.length (zs.length + 1)) f p bu bl ro, cfgV (.slice xa zs.length xc) f p bu bl ro] W fun e w' => e = .returned (.bool true) ∧ Below W.heap.size W w') := fun W hk =>
              toBelow (keptf_any _ _ _ _ _ _ _ _ _ _ _ _ _ _ W HC5.out.le (HBy.out.kept (HKq.out.then hk) (fun e => e)) (HC5.out.nums.no (HKq.out.then hk)))
            have hwf : IntKind.i64.wrap (f + 1) = f + 1 := by rw [IntKind.wrap_i64]; omega
            clear c0 c1 c2 c3 c4 c5 e0 e1 e2 e3 e4 e5
            go_wp2
            refine wp_region_quiet_below hmix (by kernel_rfl) ?_
            repeat (quiet_step (first | exact Calls.regrown_of (HMa.out _) | exact Calls.regrown_of (HKp.out _ (kept_regrown _ _ _))))
            refine wpQuiet_nil ?_
            intro _ hw'
            obtain ⟨⟨nq, osq⟩, hw''⟩ := hw'
            rw [hw'']
            simp only []
            have HKr : Hid (Kept No w (Sort.grow (redrawn wr nq) osq)) := (HK5.out.then HKq.out).then (kept_regrown _ _ _)
            clear hw'' HM6 HB6 HKq m0 m1 m2 m3 m4 m5 q0 q1 q2 q3 q4 q5 hwf HMa HKp
            generalize Sort.grow (redrawn wr nq) osq = wz at HKr
            go_wp2
            go_roundw
            case rel => exact ⟨k + 1, by omega, by go_num, HKr⟩
            case measure => simp [intOf]; omega
      · have hc' : cfgB zs f p bu bl ro = false := by simpa using hc
        rw [hc']
        clear hc hc'
        go_wp2
        go_roundw
        case rel => exact ⟨k + 1, by omega, by go_num, HK3⟩
        case measure => simp [intOf]; omega
    · obtain rfl : k = n0 := by omega
      go_wp2
      go_ret
      exact ⟨rfl, HK.out.below (Nat.le_refl _) (fun _ e => e.elim)⟩

end Go.Proofs.Ytpapbleabjpbfaa
