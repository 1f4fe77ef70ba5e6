import Derived.Test.YtpapbleabjpbfabFd
namespace Go.Proofs.Ytpapbleabjpbfab
open Go.RowKit
set_option linter.unusedVariables false


/-- The child that siftDown looks at. -/
def pickS (hi f r : Nat) (d : Array (Int × Int)) : Nat := if 2 * r + 1 + 1 < hi && ltP d[f + (2 * r + 1)]! d[f + (2 * r + 1) + 1]! then 2 * r + 2 else 2 * r + 1
theorem sd_end {hi f r : Nat} {d : Array (Int × Int)} (h : 2 * r + 1 ≥ hi) : Sort.siftDown ltP hi f r d = d := by
  rw [Sort.siftDown, dif_pos h]
theorem sd_go {hi f r : Nat} {d : Array (Int × Int)} (h : ¬ 2 * r + 1 ≥ hi) (hl : ltP d[f + r]! d[f + pickS hi f r d]! = true) : Sort.siftDown ltP hi f r d = Sort.siftDown ltP hi f (pickS hi f r d) (Sort.swp d (f + r) (f + pickS hi f r d)) := by
  rw [Sort.siftDown, dif_neg h]
  unfold pickS at hl ⊢
  split at hl
  · rename_i hc
    rw [if_pos hc, if_neg (by rw [hl]; decide)]
    simp only [Bool.and_eq_true, decide_eq_true_eq] at hc
    rw [dif_pos (by omega)]
    simp [hc.1, hc.2]
  · rename_i hc
    rw [if_neg hc, if_neg (by rw [hl]; decide)]
    rw [if_neg hc]
theorem sd_stop {hi f r : Nat} {d : Array (Int × Int)} (h : ¬ 2 * r + 1 ≥ hi) (hl : ltP d[f + r]! d[f + pickS hi f r d]! = false) : Sort.siftDown ltP hi f r d = d := by
  rw [Sort.siftDown, dif_neg h]
  unfold pickS at hl
  split at hl
  · rename_i hc
    rw [if_pos hc, if_pos (by rw [hl]; decide)]
  · rename_i hc
    rw [if_neg hc, if_pos (by rw [hl]; decide)]

open Go.Sort in
set_option maxRecDepth 100000 in
set_option maxHeartbeats 4000000 in
theorem siftDown_any (g cap lo hi f n : Nat) (d : Array (Int × Int)) (sp : List Value) (w : World) (hn : d.size = n) (hlo : lo ≤ hi) (hb : f + hi ≤ n) (hm : n ≤ 4096) (hp : Pts w g d sp) :
    Calls Try.prog 77 #[.slice (some ⟨g, 0, none⟩) n cap, .int .i64 lo, .int .i64 hi, .int .i64 f, cmpV] w fun e w' => e = .returned (.tuple #[]) ∧ Pts w' g (siftDown ltP hi f lo d) sp ∧ Kept (Only g) w w' := by
  have HP : Hid (Pts w g d sp) := hp
  have HN : Hid (d.size = n) := hn
  clear hp hn
  have hmix : Try.prog.follows .mixedOrders = true := by kernel_rfl
  go_enter Try.func77, Try.ntmps77
  go_wp2
  go_loopw [10] (fun vi wr => ∃ (r : Nat) (dk : Array (Int × Int)), vi = .int .i64 r ∧ r ≤ hi ∧ Hid (dk.size = n) ∧ Hid (Pts wr g dk sp) ∧ Hid (siftDown ltP hi f r dk = siftDown ltP hi f lo d) ∧ Hid (Kept (Only g) w wr)) (fun i _ => hi - (intOf i).toNat)
  case atStart => exact ⟨lo, d, rfl, hlo, HN, HP, rfl, Kept.refl _ _⟩
  case round =>
    obtain ⟨r, dk, rfl, hr, HS, HPk, HE, HK⟩ := hrel
    clear HP
    by_cases h1 : 2 * r + 1 ≥ hi
    · have h1' : (2 * (r : Int) + 1 ≥ (hi : Int)) := by omega
      go_wp2
      first | go_end0 | refine bodyPost_ret (results_none rfl _ _ _) rfl ?_
      exact ⟨rfl, by rw [← HE.out, sd_end h1]; exact HPk.out, HK.out⟩
    · have h1' : ¬ (2 * (r : Int) + 1 ≥ (hi : Int)) := by omega
      go_wp2
      obtain ⟨c, hc⟩ : ∃ c, c = 2 * r + 1 := ⟨_, rfl⟩
      rw [show (2 * (r : Int) + 1) = (c : Int) by omega]
      have hw1 : IntKind.i64.wrap ((c : Int) + 1) = (c : Int) + 1 := by rw [IntKind.wrap_i64]; omega
      have HCd : Hid (c = 2 * r + 1) := hc
      have hch : c < hi := by omega
      have hrc : r < c := by omega
      by_cases h2 : c + 1 < hi
      · have h2' : (c : Int) + 1 < (hi : Int) := by omega
        obtain ⟨q1, hq1⟩ : ∃ q, q = f + c := ⟨_, rfl⟩
        have HQ1 : Hid (q1 = f + c) := hq1
        have hq1n : q1 + 1 < n := by omega
        have hwc : IntKind.i64.wrap ((f : Int) + (c : Int)) = (q1 : Int) := by rw [IntKind.wrap_i64]; omega
        have hwc1 : IntKind.i64.wrap ((q1 : Int) + 1) = (q1 : Int) + 1 := by rw [IntKind.wrap_i64]; omega
        have i1 : (q1 : Int) < (n : Int) := by omega
        have i2 : (q1 : Int) + 1 < (n : Int) := by omega
        have i3 : (0 : Int) ≤ (q1 : Int) := by omega
        have i4 : (0 : Int) ≤ (q1 : Int) + 1 := by omega
        clear hq1 hc
        have ca := HPk.out.cell (q1) (by have := HS.out; omega)
        have cb := HPk.out.cell (q1 + 1) (by have := HS.out; omega)
        obtain ⟨u, hu⟩ : ∃ u, dk[q1]! = u := ⟨_, rfl⟩
        obtain ⟨v, hv⟩ : ∃ v, dk[q1 + 1]! = v := ⟨_, rfl⟩
        rw [hu] at ca
        rw [hv] at cb
        have a0 := fun dd os => cell_regrown ca.1 dd os
        have a1 := fun dd os => cell_regrown ca.2 dd os
        have b0 := fun dd os => cell_regrown cb.1 dd os
        have b1 := fun dd os => cell_regrown cb.2 dd os

        have HXu : Hid (dk[q1]! = u) := hu
        have HXv : Hid (dk[q1 + 1]! = v) := hv
        have hmeth := meth112
        clear hu hv ca cb
        go_wp2
        refine wp_region_quiet_below hmix (by kernel_rfl) ?_
        repeat (quiet_step (exact Calls.regrown_of (compareB u v _)))
        refine wpQuiet_nil ?_
        intro _ hw'
        obtain ⟨⟨nq, osq⟩, hw''⟩ := hw'
        rw [hw'']
        simp only []
        have HP1 : Hid (Pts (Sort.grow (redrawn wr nq) osq) g dk sp) := HPk.out.kept (kept_regrown _ _ _) (fun e => e)
        have HKw : Hid (Kept (Only g) w (Sort.grow (redrawn wr nq) osq)) := HK.out.then (kept_regrown _ _ _).of_no

        clear hw'' a0 a1 b0 b1 hmeth
        generalize Sort.grow (redrawn wr nq) osq = w1 at HP1 HKw 

        clear hwc hwc1 i1 i2 i3 i4 hw1 h2'
        by_cases hc2 : cmpP u v < 0
        · have hcd2 : decide (cmpP u v < 0) = true := decide_eq_true hc2
          rw [hcd2]
          have HCC : Hid (pickS hi f r dk = c + 1) := by
            show _ = _
            unfold pickS
            rw [if_pos, HCd.out]
            rw [← HCd.out, ← HQ1.out, HXu.out, HXv.out, show ltP u v = true from hcd2]
            simpa using h2
          clear hcd2 hc2
          have hcc : c + 1 < hi := h2
          have HPt : Hid (Pts w1 g dk sp) := HP1
          have HKt : Hid (Kept (Only g) w w1) := HKw
          clear HP1 HKw HPk HK
          go_wp2
          obtain ⟨p, hp⟩ : ∃ p, p = f + r := ⟨_, rfl⟩
          obtain ⟨q, hq⟩ : ∃ q, q = f + (c + 1) := ⟨_, rfl⟩
          have HPp : Hid (p = f + r) := hp
          have HQq : Hid (q = f + (c + 1)) := hq
          have hpn : p < n := by omega
          have hqn : q < n := by omega
          have hpq : p < q := by omega
          have hwp : IntKind.i64.wrap ((f : Int) + (r : Int)) = (p : Int) := by rw [IntKind.wrap_i64]; omega
          have hwq : IntKind.i64.wrap ((f : Int) + ((c : Int) + 1)) = (q : Int) := by rw [IntKind.wrap_i64]; omega
          clear hp hq

          have ca := HPt.out.cell (p) (by have := HS.out; omega)
          have cb := HPt.out.cell (q) (by have := HS.out; omega)
          obtain ⟨x, hx⟩ : ∃ x, dk[p]! = x := ⟨_, rfl⟩
          obtain ⟨y, hy⟩ : ∃ y, dk[q]! = y := ⟨_, rfl⟩
          rw [hx] at ca
          rw [hy] at cb
          have a0 := fun dd os => cell_regrown ca.1 dd os
          have a1 := fun dd os => cell_regrown ca.2 dd os
          have b0 := fun dd os => cell_regrown cb.1 dd os
          have b1 := fun dd os => cell_regrown cb.2 dd os
          have hp1 : (p : Int) < (n : Int) := by omega
          have hq1 : (q : Int) < (n : Int) := by omega
          have hp0 : (0 : Int) ≤ (p : Int) := by omega
          have hq0 : (0 : Int) ≤ (q : Int) := by omega
          have HXx : Hid (dk[p]! = x) := hx
          have HXy : Hid (dk[q]! = y) := hy
          have hmeth := meth112
          clear hx hy ca cb
          go_wp2
          refine wp_region_quiet_below hmix (by kernel_rfl) ?_
          repeat (quiet_step (exact Calls.regrown_of (compareB x y _)))
          refine wpQuiet_nil ?_
          intro _ hw'
          obtain ⟨⟨nq, osq⟩, hw''⟩ := hw'
          rw [hw'']
          simp only []
          have HP1 : Hid (Pts (Sort.grow (redrawn w1 nq) osq) g dk sp) := HPt.out.kept (kept_regrown _ _ _) (fun e => e)
          have HKw : Hid (Kept (Only g) w (Sort.grow (redrawn w1 nq) osq)) := HKt.out.then (kept_regrown _ _ _).of_no

          clear hw'' a0 a1 b0 b1 hmeth
          generalize Sort.grow (redrawn w1 nq) osq = w1 at HP1 HKw 

          by_cases hc : cmpP x y < 0
          · have hcd : decide (cmpP x y < 0) = true := decide_eq_true hc
            rw [hcd]
            have HE2 : Hid (siftDown ltP hi f (c + 1) (swp dk p q) = siftDown ltP hi f lo d) := by
              show _ = _
              rw [← HE.out, sd_go h1 (by rw [HCC.out, ← HPp.out, ← HQq.out, HXx.out, HXy.out]; exact hcd), HCC.out, ← HPp.out, ← HQq.out]
            clear hcd hc
            have sa := HP1.out.cell (p) (by have := HS.out; omega)
            have sb := HP1.out.cell (q) (by have := HS.out; omega)
            rw [HXx.out] at sa
            rw [HXy.out] at sb
            obtain ⟨sa1, sa2⟩ := sa
            obtain ⟨sb1, sb2⟩ := sb
            have f1 := HP1.out.frozen ((p) * 2)
            have f2 := HP1.out.frozen ((p) * 2 + 1)
            have f3 := HP1.out.frozen ((q) * 2)
            have f4 := HP1.out.frozen ((q) * 2 + 1)

            go_wp2
            go_big_region
            all_goals go_wp2
            go_roundw
            case rel =>
              refine ⟨c + 1, swp dk p q, by go_num, by omega, ?_, HP1.out.swap p q (by have := HS.out; omega) (by have := HS.out; omega) HXx.out HXy.out, HE2, (HKw.out.swap p q _ _ _ _).drew⟩
              show _ = _; rw [size_swp']; exact HS.out
            case measure => simp [intOf]; omega
          · have hcd : decide (cmpP x y < 0) = false := decide_eq_false hc
            rw [hcd]
            have HE2 : Hid (siftDown ltP hi f lo d = dk) := by
              show _ = _
              rw [← HE.out, sd_stop h1 (by rw [HCC.out, ← HPp.out, ← HQq.out, HXx.out, HXy.out]; exact hcd)]
            clear hcd hc
            go_wp2
            first | go_end0 | refine bodyPost_ret (results_none rfl _ _ _) rfl ?_
            exact ⟨rfl, by rw [HE2.out]; exact HP1.out, HKw.out⟩

        · have hcd2 : decide (cmpP u v < 0) = false := decide_eq_false hc2
          rw [hcd2]
          have HCC : Hid (pickS hi f r dk = c) := by
            show _ = _
            unfold pickS
            rw [if_neg, HCd.out]
            rw [← HCd.out, ← HQ1.out, HXu.out, HXv.out, show ltP u v = false from hcd2]
            simp
          clear hcd2 hc2
          have HPt : Hid (Pts w1 g dk sp) := HP1
          have HKt : Hid (Kept (Only g) w w1) := HKw
          clear HP1 HKw HPk HK
          go_wp2
          obtain ⟨p, hp⟩ : ∃ p, p = f + r := ⟨_, rfl⟩
          obtain ⟨q, hq⟩ : ∃ q, q = f + (c) := ⟨_, rfl⟩
          have HPp : Hid (p = f + r) := hp
          have HQq : Hid (q = f + (c)) := hq
          have hpn : p < n := by omega
          have hqn : q < n := by omega
          have hpq : p < q := by omega
          have hwp : IntKind.i64.wrap ((f : Int) + (r : Int)) = (p : Int) := by rw [IntKind.wrap_i64]; omega
          have hwq : IntKind.i64.wrap ((f : Int) + (c : Int)) = (q : Int) := by rw [IntKind.wrap_i64]; omega
          clear hp hq

          have ca := HPt.out.cell (p) (by have := HS.out; omega)
          have cb := HPt.out.cell (q) (by have := HS.out; omega)
          obtain ⟨x, hx⟩ : ∃ x, dk[p]! = x := ⟨_, rfl⟩
          obtain ⟨y, hy⟩ : ∃ y, dk[q]! = y := ⟨_, rfl⟩
          rw [hx] at ca
          rw [hy] at cb
          have a0 := fun dd os => cell_regrown ca.1 dd os
          have a1 := fun dd os => cell_regrown ca.2 dd os
          have b0 := fun dd os => cell_regrown cb.1 dd os
          have b1 := fun dd os => cell_regrown cb.2 dd os
          have hp1 : (p : Int) < (n : Int) := by omega
          have hq1 : (q : Int) < (n : Int) := by omega
          have hp0 : (0 : Int) ≤ (p : Int) := by omega
          have hq0 : (0 : Int) ≤ (q : Int) := by omega
          have HXx : Hid (dk[p]! = x) := hx
          have HXy : Hid (dk[q]! = y) := hy
          have hmeth := meth112
          clear hx hy ca cb
          go_wp2
          refine wp_region_quiet_below hmix (by kernel_rfl) ?_
          repeat (quiet_step (exact Calls.regrown_of (compareB x y _)))
          refine wpQuiet_nil ?_
          intro _ hw'
          obtain ⟨⟨nq, osq⟩, hw''⟩ := hw'
          rw [hw'']
          simp only []
          have HP1 : Hid (Pts (Sort.grow (redrawn w1 nq) osq) g dk sp) := HPt.out.kept (kept_regrown _ _ _) (fun e => e)
          have HKw : Hid (Kept (Only g) w (Sort.grow (redrawn w1 nq) osq)) := HKt.out.then (kept_regrown _ _ _).of_no

          clear hw'' a0 a1 b0 b1 hmeth
          generalize Sort.grow (redrawn w1 nq) osq = w1 at HP1 HKw 

          by_cases hc : cmpP x y < 0
          · have hcd : decide (cmpP x y < 0) = true := decide_eq_true hc
            rw [hcd]
            have HE2 : Hid (siftDown ltP hi f (c) (swp dk p q) = siftDown ltP hi f lo d) := by
              show _ = _
              rw [← HE.out, sd_go h1 (by rw [HCC.out, ← HPp.out, ← HQq.out, HXx.out, HXy.out]; exact hcd), HCC.out, ← HPp.out, ← HQq.out]
            clear hcd hc
            have sa := HP1.out.cell (p) (by have := HS.out; omega)
            have sb := HP1.out.cell (q) (by have := HS.out; omega)
            rw [HXx.out] at sa
            rw [HXy.out] at sb
            obtain ⟨sa1, sa2⟩ := sa
            obtain ⟨sb1, sb2⟩ := sb
            have f1 := HP1.out.frozen ((p) * 2)
            have f2 := HP1.out.frozen ((p) * 2 + 1)
            have f3 := HP1.out.frozen ((q) * 2)
            have f4 := HP1.out.frozen ((q) * 2 + 1)

            go_wp2
            go_big_region
            all_goals go_wp2
            go_roundw
            case rel =>
              refine ⟨c, swp dk p q, by go_num, by omega, ?_, HP1.out.swap p q (by have := HS.out; omega) (by have := HS.out; omega) HXx.out HXy.out, HE2, (HKw.out.swap p q _ _ _ _).drew⟩
              show _ = _; rw [size_swp']; exact HS.out
            case measure => simp [intOf]; omega
          · have hcd : decide (cmpP x y < 0) = false := decide_eq_false hc
            rw [hcd]
            have HE2 : Hid (siftDown ltP hi f lo d = dk) := by
              show _ = _
              rw [← HE.out, sd_stop h1 (by rw [HCC.out, ← HPp.out, ← HQq.out, HXx.out, HXy.out]; exact hcd)]
            clear hcd hc
            go_wp2
            first | go_end0 | refine bodyPost_ret (results_none rfl _ _ _) rfl ?_
            exact ⟨rfl, by rw [HE2.out]; exact HP1.out, HKw.out⟩

      · have h2' : decide ((c : Int) + 1 < (hi : Int)) = false := decide_eq_false (by omega)
        have HCC : Hid (pickS hi f r dk = c) := by
          show _ = _
          unfold pickS
          rw [if_neg, HCd.out]
          rw [← HCd.out]
          simp only [Bool.and_eq_true, decide_eq_true_eq, not_and]
          intro h; omega
        clear hc
        go_quiet (fail)
        clear h2' hw1
        have HPt : Hid (Pts (wr.drewN nq) g dk sp) := HPk.out.kept (Kept.no_drewN _ _) (fun e => e)
        have HKt : Hid (Kept (Only g) w (wr.drewN nq)) := HK.out.drewN _
        clear HPk HK
        generalize wr.drewN nq = w2 at HPt HKt
        go_wp2
        obtain ⟨p, hp⟩ : ∃ p, p = f + r := ⟨_, rfl⟩
        obtain ⟨q, hq⟩ : ∃ q, q = f + (c) := ⟨_, rfl⟩
        have HPp : Hid (p = f + r) := hp
        have HQq : Hid (q = f + (c)) := hq
        have hpn : p < n := by omega
        have hqn : q < n := by omega
        have hpq : p < q := by omega
        have hwp : IntKind.i64.wrap ((f : Int) + (r : Int)) = (p : Int) := by rw [IntKind.wrap_i64]; omega
        have hwq : IntKind.i64.wrap ((f : Int) + (c : Int)) = (q : Int) := by rw [IntKind.wrap_i64]; omega
        clear hp hq

        have ca := HPt.out.cell (p) (by have := HS.out; omega)
        have cb := HPt.out.cell (q) (by have := HS.out; omega)
        obtain ⟨x, hx⟩ : ∃ x, dk[p]! = x := ⟨_, rfl⟩
        obtain ⟨y, hy⟩ : ∃ y, dk[q]! = y := ⟨_, rfl⟩
        rw [hx] at ca
        rw [hy] at cb
        have a0 := fun dd os => cell_regrown ca.1 dd os
        have a1 := fun dd os => cell_regrown ca.2 dd os
        have b0 := fun dd os => cell_regrown cb.1 dd os
        have b1 := fun dd os => cell_regrown cb.2 dd os
        have hp1 : (p : Int) < (n : Int) := by omega
        have hq1 : (q : Int) < (n : Int) := by omega
        have hp0 : (0 : Int) ≤ (p : Int) := by omega
        have hq0 : (0 : Int) ≤ (q : Int) := by omega
        have HXx : Hid (dk[p]! = x) := hx
        have HXy : Hid (dk[q]! = y) := hy
        have hmeth := meth112
        clear hx hy ca cb
        go_wp2
        refine wp_region_quiet_below hmix (by kernel_rfl) ?_
        repeat (quiet_step (exact Calls.regrown_of (compareB x y _)))
        refine wpQuiet_nil ?_
        intro _ hw'
        obtain ⟨⟨nq, osq⟩, hw''⟩ := hw'
        rw [hw'']
        simp only []
        have HP1 : Hid (Pts (Sort.grow (redrawn w2 nq) osq) g dk sp) := HPt.out.kept (kept_regrown _ _ _) (fun e => e)
        have HKw : Hid (Kept (Only g) w (Sort.grow (redrawn w2 nq) osq)) := HKt.out.then (kept_regrown _ _ _).of_no

        clear hw'' a0 a1 b0 b1 hmeth
        generalize Sort.grow (redrawn w2 nq) osq = w1 at HP1 HKw 

        by_cases hc : cmpP x y < 0
        · have hcd : decide (cmpP x y < 0) = true := decide_eq_true hc
          rw [hcd]
          have HE2 : Hid (siftDown ltP hi f (c) (swp dk p q) = siftDown ltP hi f lo d) := by
            show _ = _
            rw [← HE.out, sd_go h1 (by rw [HCC.out, ← HPp.out, ← HQq.out, HXx.out, HXy.out]; exact hcd), HCC.out, ← HPp.out, ← HQq.out]
          clear hcd hc
          have sa := HP1.out.cell (p) (by have := HS.out; omega)
          have sb := HP1.out.cell (q) (by have := HS.out; omega)
          rw [HXx.out] at sa
          rw [HXy.out] at sb
          obtain ⟨sa1, sa2⟩ := sa
          obtain ⟨sb1, sb2⟩ := sb
          have f1 := HP1.out.frozen ((p) * 2)
          have f2 := HP1.out.frozen ((p) * 2 + 1)
          have f3 := HP1.out.frozen ((q) * 2)
          have f4 := HP1.out.frozen ((q) * 2 + 1)

          go_wp2
          go_big_region
          all_goals go_wp2
          go_roundw
          case rel =>
            refine ⟨c, swp dk p q, by go_num, by omega, ?_, HP1.out.swap p q (by have := HS.out; omega) (by have := HS.out; omega) HXx.out HXy.out, HE2, (HKw.out.swap p q _ _ _ _).drew⟩
            show _ = _; rw [size_swp']; exact HS.out
          case measure => simp [intOf]; omega
        · have hcd : decide (cmpP x y < 0) = false := decide_eq_false hc
          rw [hcd]
          have HE2 : Hid (siftDown ltP hi f lo d = dk) := by
            show _ = _
            rw [← HE.out, sd_stop h1 (by rw [HCC.out, ← HPp.out, ← HQq.out, HXx.out, HXy.out]; exact hcd)]
          clear hcd hc
          go_wp2
          first | go_end0 | refine bodyPost_ret (results_none rfl _ _ _) rfl ?_
          exact ⟨rfl, by rw [HE2.out]; exact HP1.out, HKw.out⟩

end Go.Proofs.Ytpapbleabjpbfab
