import Derived.Test.YtpapbleabjpbfabFg
namespace Go.Proofs.Ytpapbleabjpbfab
open Go.RowKit
set_option linter.unusedVariables false
set_option linter.unusedSimpArgs false


theorem partL_stop {a i j i2 j2 : Nat} {d : Array (Int × Int)} (h1 : Sort.scanUp (fun x => ltP x d[a]!) d j i = i2) (h2 : Sort.scanDown (fun x => !ltP x d[a]!) d i2 j = j2) (h : j2 < i2) : Sort.partLoop ltP a i j d = (j2, d) := by
  rw [Sort.partLoop]
  simp only [h1, h2]
  rw [if_pos h]
theorem partL_go {a i j i2 j2 : Nat} {d : Array (Int × Int)} (h1 : Sort.scanUp (fun x => ltP x d[a]!) d j i = i2) (h2 : Sort.scanDown (fun x => !ltP x d[a]!) d i2 j = j2) (h : ¬ j2 < i2) (hi : i ≤ i2) (hj : j2 ≤ j) (h0 : 1 ≤ i2) : Sort.partLoop ltP a i j d = Sort.partLoop ltP a (i2 + 1) (j2 - 1) (Sort.swp d i2 j2) := by
  rw [Sort.partLoop]
  simp only [h1, h2]
  rw [if_neg (by omega), dif_pos (by omega)]
/-- partition, from the array behind the first swap. -/
def partFrom (d : Array (Int × Int)) (a c : Nat) : Nat × Bool × Array (Int × Int) :=
  if Sort.scanUp (fun x => ltP x d[a]!) d c (a + 1) > Sort.scanDown (fun x => !ltP x d[a]!) d (Sort.scanUp (fun x => ltP x d[a]!) d c (a + 1)) c then
    (Sort.scanDown (fun x => !ltP x d[a]!) d (Sort.scanUp (fun x => ltP x d[a]!) d c (a + 1)) c, true, Sort.swp d (Sort.scanDown (fun x => !ltP x d[a]!) d (Sort.scanUp (fun x => ltP x d[a]!) d c (a + 1)) c) a)
  else
    ((Sort.partLoop ltP a (Sort.scanUp (fun x => ltP x d[a]!) d c (a + 1) + 1) (Sort.scanDown (fun x => !ltP x d[a]!) d (Sort.scanUp (fun x => ltP x d[a]!) d c (a + 1)) c - 1) (Sort.swp d (Sort.scanUp (fun x => ltP x d[a]!) d c (a + 1)) (Sort.scanDown (fun x => !ltP x d[a]!) d (Sort.scanUp (fun x => ltP x d[a]!) d c (a + 1)) c))).1, false,
      Sort.swp (Sort.partLoop ltP a (Sort.scanUp (fun x => ltP x d[a]!) d c (a + 1) + 1) (Sort.scanDown (fun x => !ltP x d[a]!) d (Sort.scanUp (fun x => ltP x d[a]!) d c (a + 1)) c - 1) (Sort.swp d (Sort.scanUp (fun x => ltP x d[a]!) d c (a + 1)) (Sort.scanDown (fun x => !ltP x d[a]!) d (Sort.scanUp (fun x => ltP x d[a]!) d c (a + 1)) c))).2
        (Sort.partLoop ltP a (Sort.scanUp (fun x => ltP x d[a]!) d c (a + 1) + 1) (Sort.scanDown (fun x => !ltP x d[a]!) d (Sort.scanUp (fun x => ltP x d[a]!) d c (a + 1)) c - 1) (Sort.swp d (Sort.scanUp (fun x => ltP x d[a]!) d c (a + 1)) (Sort.scanDown (fun x => !ltP x d[a]!) d (Sort.scanUp (fun x => ltP x d[a]!) d c (a + 1)) c))).1 a)
theorem part_true {a c i2 j2 : Nat} {d : Array (Int × Int)} (h1 : Sort.scanUp (fun x => ltP x d[a]!) d c (a + 1) = i2) (h2 : Sort.scanDown (fun x => !ltP x d[a]!) d i2 c = j2) (h : j2 < i2) : partFrom d a c = (j2, true, Sort.swp d j2 a) := by
  unfold partFrom
  simp only [h1, h2]
  rw [if_pos h]
theorem part_false {a c i2 j2 : Nat} {d : Array (Int × Int)} (h1 : Sort.scanUp (fun x => ltP x d[a]!) d c (a + 1) = i2) (h2 : Sort.scanDown (fun x => !ltP x d[a]!) d i2 c = j2) (h : ¬ j2 < i2) : partFrom d a c = ((Sort.partLoop ltP a (i2 + 1) (j2 - 1) (Sort.swp d i2 j2)).1, false, Sort.swp (Sort.partLoop ltP a (i2 + 1) (j2 - 1) (Sort.swp d i2 j2)).2 (Sort.partLoop ltP a (i2 + 1) (j2 - 1) (Sort.swp d i2 j2)).1 a) := by
  unfold partFrom
  simp only [h1, h2]
  rw [if_neg h]

open Go.Sort in
set_option maxRecDepth 100000 in
set_option maxHeartbeats 8000000 in
theorem partition_any (g cap a b q n : Nat) (d : Array (Int × Int)) (sp : List Value) (w : World) (hn : d.size = n) (hab : a < b) (hb : b ≤ n) (haq : a ≤ q) (hqb : q < b) (hm : n ≤ 4096) (hp : Pts w g d sp) :
    Calls Try.prog 76 #[.slice (some ⟨g, 0, none⟩) n cap, .int .i64 a, .int .i64 b, .int .i64 q, cmpV] w fun e w' => e = .returned (.tuple #[.int .i64 ((partition ltP d a b q).1 : Nat), .bool (partition ltP d a b q).2.1]) ∧ Pts w' g (partition ltP d a b q).2.2 sp ∧ Kept (Only g) w w' := by
  have HP : Hid (Pts w g d sp) := hp
  have HN : Hid (d.size = n) := hn
  clear hp hn
  have hmix : Try.prog.follows .mixedOrders = true := by kernel_rfl
  obtain ⟨c, hc⟩ : ∃ c, b = c + 1 := ⟨b - 1, by omega⟩
  have E1 : Hid ((b : Int) - 1 = (c : Int)) := by show _ = _; omega
  have HBC : Hid (b = c + 1) := hc
  clear hc
  obtain ⟨x, hx⟩ : ∃ x, d[a]! = x := ⟨_, rfl⟩
  obtain ⟨y, hy⟩ : ∃ y, d[q]! = y := ⟨_, rfl⟩
  have HXx : Hid (d[a]! = x) := hx
  have HXy : Hid (d[q]! = y) := hy
  clear hx hy

  have sa := HP.out.cell (a) (by have := HN.out; omega)
  have sb := HP.out.cell (q) (by have := HN.out; omega)
  rw [HXx.out] at sa
  rw [HXy.out] at sb
  obtain ⟨sa1, sa2⟩ := sa
  obtain ⟨sb1, sb2⟩ := sb
  have f1 := HP.out.frozen ((a) * 2)
  have f2 := HP.out.frozen ((a) * 2 + 1)
  have f3 := HP.out.frozen ((q) * 2)
  have f4 := HP.out.frozen ((q) * 2 + 1)

  have sc := (HP.out.put (a) y (by have := HN.out; omega)).cell (q) (by rw [Array.size_setIfInBounds]; exact (by have := HN.out; omega))
  have sf1 := (HP.out.put (a) y (by have := HN.out; omega)).frozen ((q) * 2)
  have sf2 := (HP.out.put (a) y (by have := HN.out; omega)).frozen ((q) * 2 + 1)
  obtain ⟨z, hz⟩ : ∃ z, (d.setIfInBounds (a) y)[q]! = z := ⟨_, rfl⟩
  rw [hz] at sc
  clear hz
  obtain ⟨sc1, sc2⟩ := sc
  have sd1 := cell_drew' sc1
  have sd2 := cell_drew' sc2

  have q1 : (q : Int) < (n : Int) := by omega
  have q2 : (a : Int) < (n : Int) := by omega
  have q3 : (0 : Int) ≤ (q : Int) := by omega
  have q4 : (0 : Int) ≤ (a : Int) := by omega
  go_enter Try.func76, Try.ntmps76
  go_wp2
  go_big_region
  all_goals go_wp2
  rw [E1.out]
  have HP2 : Hid _ := (HP.out.swap a q (by have := HN.out; omega) (by have := HN.out; omega) HXx.out HXy.out)
  have HK2 : Hid _ := ((Kept.refl (Only g) w).swap a q (.int .i64 y.1) (.int .i64 y.2) (.int .i64 x.1) (.int .i64 x.2)).drew
  have HS : Hid ((swp d a q).size = n) := by show _ = _; rw [size_swp']; exact HN.out
  have HT0 : Hid (partFrom (swp d a q) a c = partition ltP d a b q) := by show _ = _; unfold partition partFrom; rw [show b - 1 = c by have := HBC.out; omega]
  clear sa1 sa2 sb1 sb2 f1 f2 f3 f4 sf1 sf2 sc1 sc2 sd1 sd2 HXx HXy HP HN q1 q3
  have hcb : c + 1 ≤ b := by have := HBC.out; omega
  have hcb' : b ≤ c + 1 := by have := HBC.out; omega
  generalize swp d a q = d1 at HP2 HS HT0
  go_loopw [12] (fun vi wr => ∃ (i1 : Nat), vi = .int .i64 i1 ∧ (a + 1) ≤ i1 ∧ i1 ≤ b ∧ Hid (Pts wr g d1 sp) ∧ Hid (scanUp (fun x => ltP x d1[a]!) d1 c i1 = scanUp (fun x => ltP x d1[a]!) d1 c (a + 1)) ∧ Hid (Kept (Only g) w wr)) (fun i _ => b - (intOf i).toNat)
  case atStart => exact ⟨(a + 1), by go_num, Nat.le_refl _, by omega, HP2, rfl, HK2⟩
  case round =>
    obtain ⟨i1, rfl, hi0, hib, HPi, HEi, HKi⟩ := hrel
    clear HP2 HK2
    by_cases hij : i1 ≤ c
    · skip
      have ca := HPi.out.cell (i1) (by have := HS.out; omega)
      have cb := HPi.out.cell (a) (by have := HS.out; omega)
      obtain ⟨x, hx⟩ : ∃ x, d1[i1]! = x := ⟨_, rfl⟩
      obtain ⟨y, hy⟩ : ∃ y, d1[a]! = y := ⟨_, rfl⟩
      rw [hx] at ca
      rw [hy] at cb
      have a0 := fun dd os => cell_regrown ca.1 dd os
      have a1 := fun dd os => cell_regrown ca.2 dd os
      have b0 := fun dd os => cell_regrown cb.1 dd os
      have b1 := fun dd os => cell_regrown cb.2 dd os
      have q1 : (i1 : Int) < (n : Int) := by omega
      have q2 : (a : Int) < (n : Int) := by omega
      have q3 : (0 : Int) ≤ (i1 : Int) := by omega
      have q4 : (0 : Int) ≤ (a : Int) := by omega
      have q5 : (i1 : Int) ≤ (c : Int) := by omega
      have HXx : Hid (d1[i1]! = x) := hx
      have HXy : Hid (d1[a]! = y) := hy
      have hmeth := meth112
      clear hx hy ca cb
      go_wp2
      refine wp_region_quiet_below hmix (by kernel_rfl) ?_
      repeat (quiet_step (exact Calls.regrown_of (compareB x y _)))
      refine wpQuiet_nil ?_
      intro _ hw'
      obtain ⟨⟨nq, osq⟩, hw''⟩ := hw'
      rw [hw'']
      simp only []
      have HP1 : Hid (Pts (Sort.grow (redrawn wr nq) osq) g d1 sp) := HPi.out.kept (kept_regrown _ _ _) (fun e => e)
      have HKw : Hid (Kept (Only g) w (Sort.grow (redrawn wr nq) osq)) := HKi.out.then (kept_regrown _ _ _).of_no

      clear hw'' a0 a1 b0 b1 hmeth
      generalize Sort.grow (redrawn wr nq) osq = w1 at HP1 HKw 

      clear HPi HKi
      by_cases hc : cmpP x y < 0

      · have hcd : decide (cmpP x y < 0) = true := decide_eq_true hc
        have HL : Hid (ltP d1[i1]! d1[a]! = true) := by show ltP _ _ = _; rw [HXx.out, HXy.out]; exact hcd
        rw [hcd]
        try simp only [Bool.not_true, Bool.not_false]
        clear hcd hc HXx HXy

        have HE2 : Hid (scanUp (fun x => ltP x d1[a]!) d1 c (i1 + 1) = scanUp (fun x => ltP x d1[a]!) d1 c (a + 1)) := by
          show _ = _
          rw [← HEi.out, ← scanUp_go hij (by show _ = true; rw [HL.out])]
        clear HEi HL
        go_wp2
        go_roundw
        case rel => exact ⟨i1 + 1, by go_num, by omega, by omega, HP1, HE2, HKw⟩
        case measure => simp [intOf]; omega

      · have hcd : decide (cmpP x y < 0) = false := decide_eq_false hc
        have HL : Hid (ltP d1[i1]! d1[a]! = false) := by show ltP _ _ = _; rw [HXx.out, HXy.out]; exact hcd
        rw [hcd]
        try simp only [Bool.not_true, Bool.not_false]
        clear hcd hc HXx HXy

        have HI : Hid (scanUp (fun x => ltP x d1[a]!) d1 c (a + 1) = i1) := by
          show _ = _
          rw [← HEi.out, scanUp_stop (by rw [HL.out]; simp)]
        clear HEi HL
        go_wp2

        go_loopw [13] (fun vj wr => ∃ (jv : Nat), vj = .int .i64 jv ∧ jv ≤ c ∧ Hid (Pts wr g d1 sp) ∧ Hid (scanDown (fun x => !ltP x d1[a]!) d1 i1 jv = scanDown (fun x => !ltP x d1[a]!) d1 i1 c) ∧ Hid (Kept (Only g) w wr)) (fun j _ => (intOf j).toNat)
        case atStart => exact ⟨c, by go_num, Nat.le_refl _, HP1, rfl, HKw⟩
        case round =>
          obtain ⟨jv, rfl, hj0, HPj, HEj, HKj⟩ := hrel
          clear HP1 HKw
          by_cases hij : i1 ≤ jv
          · obtain ⟨j1, rfl⟩ : ∃ j1, jv = j1 + 1 := ⟨jv - 1, by omega⟩
            have ca := HPj.out.cell (j1 + 1) (by have := HS.out; omega)
            have cb := HPj.out.cell (a) (by have := HS.out; omega)
            obtain ⟨x, hx⟩ : ∃ x, d1[j1 + 1]! = x := ⟨_, rfl⟩
            obtain ⟨y, hy⟩ : ∃ y, d1[a]! = y := ⟨_, rfl⟩
            rw [hx] at ca
            rw [hy] at cb
            have a0 := fun dd os => cell_regrown ca.1 dd os
            have a1 := fun dd os => cell_regrown ca.2 dd os
            have b0 := fun dd os => cell_regrown cb.1 dd os
            have b1 := fun dd os => cell_regrown cb.2 dd os
            have q1 : (j1 : Int) + 1 < (n : Int) := by omega
            have q2 : (a : Int) < (n : Int) := by omega
            have q3 : (0 : Int) ≤ (j1 : Int) + 1 := by omega
            have q4 : (0 : Int) ≤ (a : Int) := by omega
            have q5 : (i1 : Int) ≤ (j1 : Int) + 1 := by omega
            have HXx : Hid (d1[j1 + 1]! = x) := hx
            have HXy : Hid (d1[a]! = y) := hy
            have hmeth := meth112
            clear hx hy ca cb
            go_wp2
            refine wp_region_quiet_below hmix (by kernel_rfl) ?_
            repeat (quiet_step (exact Calls.regrown_of (compareB x y _)))
            refine wpQuiet_nil ?_
            intro _ hw'
            obtain ⟨⟨nq, osq⟩, hw''⟩ := hw'
            rw [hw'']
            simp only []
            have HP1 : Hid (Pts (Sort.grow (redrawn wr nq) osq) g d1 sp) := HPj.out.kept (kept_regrown _ _ _) (fun e => e)
            have HKw : Hid (Kept (Only g) w (Sort.grow (redrawn wr nq) osq)) := HKj.out.then (kept_regrown _ _ _).of_no

            clear hw'' a0 a1 b0 b1 hmeth
            generalize Sort.grow (redrawn wr nq) osq = w1 at HP1 HKw 

            clear HPj HKj
            by_cases hc : cmpP x y < 0

            · have hcd : decide (cmpP x y < 0) = true := decide_eq_true hc
              have HL : Hid (ltP d1[j1 + 1]! d1[a]! = true) := by show ltP _ _ = _; rw [HXx.out, HXy.out]; exact hcd
              rw [hcd]
              try simp only [Bool.not_true, Bool.not_false]
              clear hcd hc HXx HXy

              have HJ : Hid (scanDown (fun x => !ltP x d1[a]!) d1 i1 c = j1 + 1) := by
                show _ = _
                rw [← HEj.out, scanDown_stop (by omega) (by rw [HL.out]; simp)]
              clear HEj HL
              by_cases hlt : (j1 + 1) < i1
              · exfalso
                omega

              · have q7 : ¬ ((j1 : Int) + 1) < (i1 : Int) := by omega
                have HT : Hid (partition ltP d a b q = ((partLoop ltP a (i1 + 1) ((j1 + 1) - 1) (swp d1 i1 (j1 + 1))).1, false, swp (partLoop ltP a (i1 + 1) ((j1 + 1) - 1) (swp d1 i1 (j1 + 1))).2 (partLoop ltP a (i1 + 1) ((j1 + 1) - 1) (swp d1 i1 (j1 + 1))).1 a)) := HT0.out ▸ part_false HI.out HJ.out hlt
                clear HI HJ
                obtain ⟨x, hx⟩ : ∃ x, d1[i1]! = x := ⟨_, rfl⟩
                obtain ⟨y, hy⟩ : ∃ y, d1[(j1 + 1)]! = y := ⟨_, rfl⟩
                have HXx : Hid (d1[i1]! = x) := hx
                have HXy : Hid (d1[(j1 + 1)]! = y) := hy
                clear hx hy

                have sa := HP1.out.cell (i1) (by have := HS.out; omega)
                have sb := HP1.out.cell ((j1 + 1)) (by have := HS.out; omega)
                rw [HXx.out] at sa
                rw [HXy.out] at sb
                obtain ⟨sa1, sa2⟩ := sa
                obtain ⟨sb1, sb2⟩ := sb
                have f1 := HP1.out.frozen ((i1) * 2)
                have f2 := HP1.out.frozen ((i1) * 2 + 1)
                have f3 := HP1.out.frozen (((j1 + 1)) * 2)
                have f4 := HP1.out.frozen (((j1 + 1)) * 2 + 1)

                have sc := (HP1.out.put (i1) y (by have := HS.out; omega)).cell ((j1 + 1)) (by rw [Array.size_setIfInBounds]; exact (by have := HS.out; omega))
                have sf1 := (HP1.out.put (i1) y (by have := HS.out; omega)).frozen (((j1 + 1)) * 2)
                have sf2 := (HP1.out.put (i1) y (by have := HS.out; omega)).frozen (((j1 + 1)) * 2 + 1)
                obtain ⟨z, hz⟩ : ∃ z, (d1.setIfInBounds (i1) y)[(j1 + 1)]! = z := ⟨_, rfl⟩
                rw [hz] at sc
                clear hz
                obtain ⟨sc1, sc2⟩ := sc
                have sd1 := cell_drew' sc1
                have sd2 := cell_drew' sc2

                have t1 : (i1 : Int) < (n : Int) := by omega
                have t2 : ((j1 : Int) + 1) < (n : Int) := by omega
                have t3 : (0 : Int) ≤ (i1 : Int) := by omega
                have t4 : (0 : Int) ≤ ((j1 : Int) + 1) := by omega
                go_wp2
                go_big_region
                all_goals go_wp2
                have HP2 : Hid _ := HP1.out.swap i1 (j1 + 1) (by have := HS.out; omega) (by have := HS.out; omega) HXx.out HXy.out
                have HK2 : Hid _ := (HKw.out.swap i1 (j1 + 1) (.int .i64 y.1) (.int .i64 y.2) (.int .i64 x.1) (.int .i64 x.2)).drew
                have HS2 : Hid ((swp d1 i1 (j1 + 1)).size = n) := by show _ = _; rw [size_swp']; exact HS.out
                obtain ⟨i2, hi2⟩ : ∃ i2, i2 = i1 + 1 := ⟨_, rfl⟩
                have hi2' : a + 1 ≤ i2 ∧ i2 ≤ b := by omega
                have hj2' : j1 + 1 ≤ b := by omega
                clear sa1 sa2 sb1 sb2 f1 f2 f3 f4 sf1 sf2 sc1 sc2 sd1 sd2 HXx HXy HP1 HKw HS t1 t2 t3 t4
                go_loopw [12, 13] (fun vi vj wr => ∃ (i j : Nat) (dk : Array (Int × Int)), vi = .int .i64 i ∧ vj = .int .i64 j ∧ a + 1 ≤ i ∧ i ≤ b ∧ j + 1 ≤ b ∧ Hid (dk.size = n) ∧ Hid (Pts wr g dk sp) ∧ Hid (partLoop ltP a i j dk = partLoop ltP a (i1 + 1) ((j1 + 1) - 1) (swp d1 i1 (j1 + 1))) ∧ Hid (Kept (Only g) w wr)) (fun i j _ => (intOf j).toNat + 1 - (intOf i).toNat)
                case atStart => exact ⟨i1 + 1, (j1 + 1) - 1, _, by go_num, by go_num, by omega, by omega, by omega, HS2, HP2, rfl, HK2⟩
                case round =>
                  obtain ⟨i, j, dk, rfl, rfl, hai, hib, hjb, HS, HPk, HE, HK⟩ := hrel
                  clear HP2 HK2 HS2 hij hlt hi0 hj0 q7 hi2 hi2' hj2'
                  go_wp2
                  go_loopw [12] (fun vi wr => ∃ (i1 : Nat), vi = .int .i64 i1 ∧ i ≤ i1 ∧ i1 ≤ b ∧ Hid (Pts wr g dk sp) ∧ Hid (scanUp (fun x => ltP x dk[a]!) dk j i1 = scanUp (fun x => ltP x dk[a]!) dk j i) ∧ Hid (Kept (Only g) w wr)) (fun i _ => b - (intOf i).toNat)
                  case atStart => exact ⟨i, by go_num, Nat.le_refl _, by omega, HPk, rfl, HK⟩
                  case round =>
                    obtain ⟨i1, rfl, hi0, hib, HPi, HEi, HKi⟩ := hrel
                    clear HPk HK
                    by_cases hij : i1 ≤ j
                    · skip
                      have ca := HPi.out.cell (i1) (by have := HS.out; omega)
                      have cb := HPi.out.cell (a) (by have := HS.out; omega)
                      obtain ⟨x, hx⟩ : ∃ x, dk[i1]! = x := ⟨_, rfl⟩
                      obtain ⟨y, hy⟩ : ∃ y, dk[a]! = y := ⟨_, rfl⟩
                      rw [hx] at ca
                      rw [hy] at cb
                      have a0 := fun dd os => cell_regrown ca.1 dd os
                      have a1 := fun dd os => cell_regrown ca.2 dd os
                      have b0 := fun dd os => cell_regrown cb.1 dd os
                      have b1 := fun dd os => cell_regrown cb.2 dd os
                      have q1 : (i1 : Int) < (n : Int) := by omega
                      have q2 : (a : Int) < (n : Int) := by omega
                      have q3 : (0 : Int) ≤ (i1 : Int) := by omega
                      have q4 : (0 : Int) ≤ (a : Int) := by omega
                      have q5 : (i1 : Int) ≤ (j : Int) := by omega
                      have HXx : Hid (dk[i1]! = x) := hx
                      have HXy : Hid (dk[a]! = y) := hy
                      have hmeth := meth112
                      clear hx hy ca cb
                      go_wp2
                      refine wp_region_quiet_below hmix (by kernel_rfl) ?_
                      repeat (quiet_step (exact Calls.regrown_of (compareB x y _)))
                      refine wpQuiet_nil ?_
                      intro _ hw'
                      obtain ⟨⟨nq, osq⟩, hw''⟩ := hw'
                      rw [hw'']
                      simp only []
                      have HP1 : Hid (Pts (Sort.grow (redrawn wr nq) osq) g dk sp) := HPi.out.kept (kept_regrown _ _ _) (fun e => e)
                      have HKw : Hid (Kept (Only g) w (Sort.grow (redrawn wr nq) osq)) := HKi.out.then (kept_regrown _ _ _).of_no

                      clear hw'' a0 a1 b0 b1 hmeth
                      generalize Sort.grow (redrawn wr nq) osq = w1 at HP1 HKw 

                      clear HPi HKi
                      by_cases hc : cmpP x y < 0

                      · have hcd : decide (cmpP x y < 0) = true := decide_eq_true hc
                        have HL : Hid (ltP dk[i1]! dk[a]! = true) := by show ltP _ _ = _; rw [HXx.out, HXy.out]; exact hcd
                        rw [hcd]
                        try simp only [Bool.not_true, Bool.not_false]
                        clear hcd hc HXx HXy

                        have HE2 : Hid (scanUp (fun x => ltP x dk[a]!) dk j (i1 + 1) = scanUp (fun x => ltP x dk[a]!) dk j i) := by
                          show _ = _
                          rw [← HEi.out, ← scanUp_go hij (by show _ = true; rw [HL.out])]
                        clear HEi HL
                        go_wp2
                        go_roundw
                        case rel => exact ⟨i1 + 1, by go_num, by omega, by omega, HP1, HE2, HKw⟩
                        case measure => simp [intOf]; omega

                      · have hcd : decide (cmpP x y < 0) = false := decide_eq_false hc
                        have HL : Hid (ltP dk[i1]! dk[a]! = false) := by show ltP _ _ = _; rw [HXx.out, HXy.out]; exact hcd
                        rw [hcd]
                        try simp only [Bool.not_true, Bool.not_false]
                        clear hcd hc HXx HXy

                        have HI : Hid (scanUp (fun x => ltP x dk[a]!) dk j i = i1) := by
                          show _ = _
                          rw [← HEi.out, scanUp_stop (by rw [HL.out]; simp)]
                        clear HEi HL
                        go_wp2

                        go_loopw [13] (fun vj wr => ∃ (jv : Nat), vj = .int .i64 jv ∧ jv ≤ j ∧ Hid (Pts wr g dk sp) ∧ Hid (scanDown (fun x => !ltP x dk[a]!) dk i1 jv = scanDown (fun x => !ltP x dk[a]!) dk i1 j) ∧ Hid (Kept (Only g) w wr)) (fun j _ => (intOf j).toNat)
                        case atStart => exact ⟨j, by go_num, Nat.le_refl _, HP1, rfl, HKw⟩
                        case round =>
                          obtain ⟨jv, rfl, hj0, HPj, HEj, HKj⟩ := hrel
                          clear HP1 HKw
                          by_cases hij : i1 ≤ jv
                          · obtain ⟨j1, rfl⟩ : ∃ j1, jv = j1 + 1 := ⟨jv - 1, by omega⟩
                            have ca := HPj.out.cell (j1 + 1) (by have := HS.out; omega)
                            have cb := HPj.out.cell (a) (by have := HS.out; omega)
                            obtain ⟨x, hx⟩ : ∃ x, dk[j1 + 1]! = x := ⟨_, rfl⟩
                            obtain ⟨y, hy⟩ : ∃ y, dk[a]! = y := ⟨_, rfl⟩
                            rw [hx] at ca
                            rw [hy] at cb
                            have a0 := fun dd os => cell_regrown ca.1 dd os
                            have a1 := fun dd os => cell_regrown ca.2 dd os
                            have b0 := fun dd os => cell_regrown cb.1 dd os
                            have b1 := fun dd os => cell_regrown cb.2 dd os
                            have q1 : (j1 : Int) + 1 < (n : Int) := by omega
                            have q2 : (a : Int) < (n : Int) := by omega
                            have q3 : (0 : Int) ≤ (j1 : Int) + 1 := by omega
                            have q4 : (0 : Int) ≤ (a : Int) := by omega
                            have q5 : (i1 : Int) ≤ (j1 : Int) + 1 := by omega
                            have HXx : Hid (dk[j1 + 1]! = x) := hx
                            have HXy : Hid (dk[a]! = y) := hy
                            have hmeth := meth112
                            clear hx hy ca cb
                            go_wp2
                            refine wp_region_quiet_below hmix (by kernel_rfl) ?_
                            repeat (quiet_step (exact Calls.regrown_of (compareB x y _)))
                            refine wpQuiet_nil ?_
                            intro _ hw'
                            obtain ⟨⟨nq, osq⟩, hw''⟩ := hw'
                            rw [hw'']
                            simp only []
                            have HP1 : Hid (Pts (Sort.grow (redrawn wr nq) osq) g dk sp) := HPj.out.kept (kept_regrown _ _ _) (fun e => e)
                            have HKw : Hid (Kept (Only g) w (Sort.grow (redrawn wr nq) osq)) := HKj.out.then (kept_regrown _ _ _).of_no

                            clear hw'' a0 a1 b0 b1 hmeth
                            generalize Sort.grow (redrawn wr nq) osq = w1 at HP1 HKw 

                            clear HPj HKj
                            by_cases hc : cmpP x y < 0

                            · have hcd : decide (cmpP x y < 0) = true := decide_eq_true hc
                              have HL : Hid (ltP dk[j1 + 1]! dk[a]! = true) := by show ltP _ _ = _; rw [HXx.out, HXy.out]; exact hcd
                              rw [hcd]
                              try simp only [Bool.not_true, Bool.not_false]
                              clear hcd hc HXx HXy

                              have HJ : Hid (scanDown (fun x => !ltP x dk[a]!) dk i1 j = j1 + 1) := by
                                show _ = _
                                rw [← HEj.out, scanDown_stop (by omega) (by rw [HL.out]; simp)]
                              clear HEj HL
                              by_cases hlt : (j1 + 1) < i1
                              · exfalso
                                omega

                              · have q7 : ¬ ((j1 : Int) + 1) < (i1 : Int) := by omega
                                have HR : Hid (partLoop ltP a i j dk = partLoop ltP a (i1 + 1) ((j1 + 1) - 1) (swp dk i1 (j1 + 1))) := partL_go HI.out HJ.out hlt hi0 hj0 (by omega)
                                clear HI HJ
                                obtain ⟨x, hx⟩ : ∃ x, dk[i1]! = x := ⟨_, rfl⟩
                                obtain ⟨y, hy⟩ : ∃ y, dk[(j1 + 1)]! = y := ⟨_, rfl⟩
                                have HXx : Hid (dk[i1]! = x) := hx
                                have HXy : Hid (dk[(j1 + 1)]! = y) := hy
                                clear hx hy

                                have sa := HP1.out.cell (i1) (by have := HS.out; omega)
                                have sb := HP1.out.cell ((j1 + 1)) (by have := HS.out; omega)
                                rw [HXx.out] at sa
                                rw [HXy.out] at sb
                                obtain ⟨sa1, sa2⟩ := sa
                                obtain ⟨sb1, sb2⟩ := sb
                                have f1 := HP1.out.frozen ((i1) * 2)
                                have f2 := HP1.out.frozen ((i1) * 2 + 1)
                                have f3 := HP1.out.frozen (((j1 + 1)) * 2)
                                have f4 := HP1.out.frozen (((j1 + 1)) * 2 + 1)

                                have sc := (HP1.out.put (i1) y (by have := HS.out; omega)).cell ((j1 + 1)) (by rw [Array.size_setIfInBounds]; exact (by have := HS.out; omega))
                                have sf1 := (HP1.out.put (i1) y (by have := HS.out; omega)).frozen (((j1 + 1)) * 2)
                                have sf2 := (HP1.out.put (i1) y (by have := HS.out; omega)).frozen (((j1 + 1)) * 2 + 1)
                                obtain ⟨z, hz⟩ : ∃ z, (dk.setIfInBounds (i1) y)[(j1 + 1)]! = z := ⟨_, rfl⟩
                                rw [hz] at sc
                                clear hz
                                obtain ⟨sc1, sc2⟩ := sc
                                have sd1 := cell_drew' sc1
                                have sd2 := cell_drew' sc2

                                have t1 : (i1 : Int) < (n : Int) := by omega
                                have t2 : ((j1 : Int) + 1) < (n : Int) := by omega
                                have t3 : (0 : Int) ≤ (i1 : Int) := by omega
                                have t4 : (0 : Int) ≤ ((j1 : Int) + 1) := by omega
                                go_wp2
                                go_big_region
                                all_goals go_wp2
                                go_roundw
                                case rel =>
                                  refine ⟨i1 + 1, (j1 + 1) - 1, swp dk i1 (j1 + 1), by go_num, by go_num, by omega, by omega, by omega, ?_, HP1.out.swap i1 (j1 + 1) (by have := HS.out; omega) (by have := HS.out; omega) HXx.out HXy.out, ?_, (HKw.out.swap i1 (j1 + 1) _ _ _ _).drew⟩
                                  · show _ = _; rw [size_swp']; exact HS.out
                                  · show _ = _; rw [← HE.out, HR.out]
                                case measure => simp [intOf]; omega

                            · have hcd : decide (cmpP x y < 0) = false := decide_eq_false hc
                              have HL : Hid (ltP dk[j1 + 1]! dk[a]! = false) := by show ltP _ _ = _; rw [HXx.out, HXy.out]; exact hcd
                              rw [hcd]
                              try simp only [Bool.not_true, Bool.not_false]
                              clear hcd hc HXx HXy

                              have HE2 : Hid (scanDown (fun x => !ltP x dk[a]!) dk i1 j1 = scanDown (fun x => !ltP x dk[a]!) dk i1 j) := by
                                show _ = _
                                rw [← HEj.out, ← scanDown_go hij (by show _ = true; rw [HL.out]; rfl)]
                              clear HEj HL
                              go_wp2
                              go_roundw
                              case rel => exact ⟨j1, by go_num, by omega, HP1, HE2, HKw⟩
                              case measure => simp [intOf]

                          · have q5 : ¬ (i1 : Int) ≤ (jv : Int) := by omega
                            have HJ : Hid (scanDown (fun x => !ltP x dk[a]!) dk i1 j = jv) := by
                              show _ = _
                              rw [← HEj.out, scanDown_stop (by omega) (by simp [hij])]
                            clear HEj
                            go_wp2
                            go_quiet (fail)
                            have HP1 : Hid (Pts (wr.drewN nq) g dk sp) := HPj.out.kept (Kept.no_drewN _ _) (fun e => e)
                            have HKw : Hid (Kept (Only g) w (wr.drewN nq)) := HKj.out.drewN _
                            clear HPj HKj
                            generalize wr.drewN nq = w1 at HP1 HKw
                            by_cases hlt : jv < i1
                            · have q7 : (jv : Int) < (i1 : Int) := by omega
                              have HR : Hid (partLoop ltP a i j dk = (jv, dk)) := partL_stop HI.out HJ.out hlt
                              clear HI HJ
                              obtain ⟨x, hx⟩ : ∃ x, dk[jv]! = x := ⟨_, rfl⟩
                              obtain ⟨y, hy⟩ : ∃ y, dk[a]! = y := ⟨_, rfl⟩
                              have HXx : Hid (dk[jv]! = x) := hx
                              have HXy : Hid (dk[a]! = y) := hy
                              clear hx hy

                              have sa := HP1.out.cell (jv) (by have := HS.out; omega)
                              have sb := HP1.out.cell (a) (by have := HS.out; omega)
                              rw [HXx.out] at sa
                              rw [HXy.out] at sb
                              obtain ⟨sa1, sa2⟩ := sa
                              obtain ⟨sb1, sb2⟩ := sb
                              have f1 := HP1.out.frozen ((jv) * 2)
                              have f2 := HP1.out.frozen ((jv) * 2 + 1)
                              have f3 := HP1.out.frozen ((a) * 2)
                              have f4 := HP1.out.frozen ((a) * 2 + 1)

                              have sc := (HP1.out.put (jv) y (by have := HS.out; omega)).cell (a) (by rw [Array.size_setIfInBounds]; exact (by have := HS.out; omega))
                              have sf1 := (HP1.out.put (jv) y (by have := HS.out; omega)).frozen ((a) * 2)
                              have sf2 := (HP1.out.put (jv) y (by have := HS.out; omega)).frozen ((a) * 2 + 1)
                              obtain ⟨z, hz⟩ : ∃ z, (dk.setIfInBounds (jv) y)[a]! = z := ⟨_, rfl⟩
                              rw [hz] at sc
                              clear hz
                              obtain ⟨sc1, sc2⟩ := sc
                              have sd1 := cell_drew' sc1
                              have sd2 := cell_drew' sc2

                              have t1 : (a : Int) < (n : Int) := by omega
                              have t2 : (jv : Int) < (n : Int) := by omega
                              have t3 : (0 : Int) ≤ (a : Int) := by omega
                              have t4 : (0 : Int) ≤ (jv : Int) := by omega
                              go_wp2
                              go_big_region
                              all_goals go_wp2
                              go_ret2
                              rw [HT.out, ← HE.out, HR.out]
                              exact ⟨by first | rfl | simp, HP1.out.swap jv a (by have := HS.out; omega) (by have := HS.out; omega) HXx.out HXy.out, (HKw.out.swap jv a _ _ _ _).drew⟩

                            · exfalso
                              omega

                    · have q5 : ¬ (i1 : Int) ≤ (j : Int) := by omega
                      have HI : Hid (scanUp (fun x => ltP x dk[a]!) dk j i = i1) := by
                        show _ = _
                        rw [← HEi.out, scanUp_stop (by simp [hij])]
                      clear HEi
                      go_wp2
                      go_quiet (fail)
                      have HP1 : Hid (Pts (wr.drewN nq) g dk sp) := HPi.out.kept (Kept.no_drewN _ _) (fun e => e)
                      have HKw : Hid (Kept (Only g) w (wr.drewN nq)) := HKi.out.drewN _
                      clear HPi HKi
                      generalize wr.drewN nq = w1 at HP1 HKw
                      go_wp2

                      go_loopw [13] (fun vj wr => ∃ (jv : Nat), vj = .int .i64 jv ∧ jv ≤ j ∧ Hid (Pts wr g dk sp) ∧ Hid (scanDown (fun x => !ltP x dk[a]!) dk i1 jv = scanDown (fun x => !ltP x dk[a]!) dk i1 j) ∧ Hid (Kept (Only g) w wr)) (fun j _ => (intOf j).toNat)
                      case atStart => exact ⟨j, by go_num, Nat.le_refl _, HP1, rfl, HKw⟩
                      case round =>
                        obtain ⟨jv, rfl, hj0, HPj, HEj, HKj⟩ := hrel
                        clear HP1 HKw
                        by_cases hij : i1 ≤ jv
                        · obtain ⟨j1, rfl⟩ : ∃ j1, jv = j1 + 1 := ⟨jv - 1, by omega⟩
                          have ca := HPj.out.cell (j1 + 1) (by have := HS.out; omega)
                          have cb := HPj.out.cell (a) (by have := HS.out; omega)
                          obtain ⟨x, hx⟩ : ∃ x, dk[j1 + 1]! = x := ⟨_, rfl⟩
                          obtain ⟨y, hy⟩ : ∃ y, dk[a]! = y := ⟨_, rfl⟩
                          rw [hx] at ca
                          rw [hy] at cb
                          have a0 := fun dd os => cell_regrown ca.1 dd os
                          have a1 := fun dd os => cell_regrown ca.2 dd os
                          have b0 := fun dd os => cell_regrown cb.1 dd os
                          have b1 := fun dd os => cell_regrown cb.2 dd os
                          have q1 : (j1 : Int) + 1 < (n : Int) := by omega
                          have q2 : (a : Int) < (n : Int) := by omega
                          have q3 : (0 : Int) ≤ (j1 : Int) + 1 := by omega
                          have q4 : (0 : Int) ≤ (a : Int) := by omega
                          have q5 : (i1 : Int) ≤ (j1 : Int) + 1 := by omega
                          have HXx : Hid (dk[j1 + 1]! = x) := hx
                          have HXy : Hid (dk[a]! = y) := hy
                          have hmeth := meth112
                          clear hx hy ca cb
                          go_wp2
                          refine wp_region_quiet_below hmix (by kernel_rfl) ?_
                          repeat (quiet_step (exact Calls.regrown_of (compareB x y _)))
                          refine wpQuiet_nil ?_
                          intro _ hw'
                          obtain ⟨⟨nq, osq⟩, hw''⟩ := hw'
                          rw [hw'']
                          simp only []
                          have HP1 : Hid (Pts (Sort.grow (redrawn wr nq) osq) g dk sp) := HPj.out.kept (kept_regrown _ _ _) (fun e => e)
                          have HKw : Hid (Kept (Only g) w (Sort.grow (redrawn wr nq) osq)) := HKj.out.then (kept_regrown _ _ _).of_no

                          clear hw'' a0 a1 b0 b1 hmeth
                          generalize Sort.grow (redrawn wr nq) osq = w1 at HP1 HKw 

                          clear HPj HKj
                          by_cases hc : cmpP x y < 0

                          · have hcd : decide (cmpP x y < 0) = true := decide_eq_true hc
                            have HL : Hid (ltP dk[j1 + 1]! dk[a]! = true) := by show ltP _ _ = _; rw [HXx.out, HXy.out]; exact hcd
                            rw [hcd]
                            try simp only [Bool.not_true, Bool.not_false]
                            clear hcd hc HXx HXy

                            have HJ : Hid (scanDown (fun x => !ltP x dk[a]!) dk i1 j = j1 + 1) := by
                              show _ = _
                              rw [← HEj.out, scanDown_stop (by omega) (by rw [HL.out]; simp)]
                            clear HEj HL
                            by_cases hlt : (j1 + 1) < i1
                            · exfalso
                              omega

                            · exfalso
                              omega

                          · have hcd : decide (cmpP x y < 0) = false := decide_eq_false hc
                            have HL : Hid (ltP dk[j1 + 1]! dk[a]! = false) := by show ltP _ _ = _; rw [HXx.out, HXy.out]; exact hcd
                            rw [hcd]
                            try simp only [Bool.not_true, Bool.not_false]
                            clear hcd hc HXx HXy

                            have HE2 : Hid (scanDown (fun x => !ltP x dk[a]!) dk i1 j1 = scanDown (fun x => !ltP x dk[a]!) dk i1 j) := by
                              show _ = _
                              rw [← HEj.out, ← scanDown_go hij (by show _ = true; rw [HL.out]; rfl)]
                            clear HEj HL
                            go_wp2
                            go_roundw
                            case rel => exact ⟨j1, by go_num, by omega, HP1, HE2, HKw⟩
                            case measure => simp [intOf]

                        · have q5 : ¬ (i1 : Int) ≤ (jv : Int) := by omega
                          have HJ : Hid (scanDown (fun x => !ltP x dk[a]!) dk i1 j = jv) := by
                            show _ = _
                            rw [← HEj.out, scanDown_stop (by omega) (by simp [hij])]
                          clear HEj
                          go_wp2
                          go_quiet (fail)
                          have HP1 : Hid (Pts (wr.drewN nq) g dk sp) := HPj.out.kept (Kept.no_drewN _ _) (fun e => e)
                          have HKw : Hid (Kept (Only g) w (wr.drewN nq)) := HKj.out.drewN _
                          clear HPj HKj
                          generalize wr.drewN nq = w1 at HP1 HKw
                          by_cases hlt : jv < i1
                          · have q7 : (jv : Int) < (i1 : Int) := by omega
                            have HR : Hid (partLoop ltP a i j dk = (jv, dk)) := partL_stop HI.out HJ.out hlt
                            clear HI HJ
                            obtain ⟨x, hx⟩ : ∃ x, dk[jv]! = x := ⟨_, rfl⟩
                            obtain ⟨y, hy⟩ : ∃ y, dk[a]! = y := ⟨_, rfl⟩
                            have HXx : Hid (dk[jv]! = x) := hx
                            have HXy : Hid (dk[a]! = y) := hy
                            clear hx hy

                            have sa := HP1.out.cell (jv) (by have := HS.out; omega)
                            have sb := HP1.out.cell (a) (by have := HS.out; omega)
                            rw [HXx.out] at sa
                            rw [HXy.out] at sb
                            obtain ⟨sa1, sa2⟩ := sa
                            obtain ⟨sb1, sb2⟩ := sb
                            have f1 := HP1.out.frozen ((jv) * 2)
                            have f2 := HP1.out.frozen ((jv) * 2 + 1)
                            have f3 := HP1.out.frozen ((a) * 2)
                            have f4 := HP1.out.frozen ((a) * 2 + 1)

                            have sc := (HP1.out.put (jv) y (by have := HS.out; omega)).cell (a) (by rw [Array.size_setIfInBounds]; exact (by have := HS.out; omega))
                            have sf1 := (HP1.out.put (jv) y (by have := HS.out; omega)).frozen ((a) * 2)
                            have sf2 := (HP1.out.put (jv) y (by have := HS.out; omega)).frozen ((a) * 2 + 1)
                            obtain ⟨z, hz⟩ : ∃ z, (dk.setIfInBounds (jv) y)[a]! = z := ⟨_, rfl⟩
                            rw [hz] at sc
                            clear hz
                            obtain ⟨sc1, sc2⟩ := sc
                            have sd1 := cell_drew' sc1
                            have sd2 := cell_drew' sc2

                            have t1 : (a : Int) < (n : Int) := by omega
                            have t2 : (jv : Int) < (n : Int) := by omega
                            have t3 : (0 : Int) ≤ (a : Int) := by omega
                            have t4 : (0 : Int) ≤ (jv : Int) := by omega
                            go_wp2
                            go_big_region
                            all_goals go_wp2
                            go_ret2
                            rw [HT.out, ← HE.out, HR.out]
                            exact ⟨by first | rfl | simp, HP1.out.swap jv a (by have := HS.out; omega) (by have := HS.out; omega) HXx.out HXy.out, (HKw.out.swap jv a _ _ _ _).drew⟩

                          · exfalso
                            omega

            · have hcd : decide (cmpP x y < 0) = false := decide_eq_false hc
              have HL : Hid (ltP d1[j1 + 1]! d1[a]! = false) := by show ltP _ _ = _; rw [HXx.out, HXy.out]; exact hcd
              rw [hcd]
              try simp only [Bool.not_true, Bool.not_false]
              clear hcd hc HXx HXy

              have HE2 : Hid (scanDown (fun x => !ltP x d1[a]!) d1 i1 j1 = scanDown (fun x => !ltP x d1[a]!) d1 i1 c) := by
                show _ = _
                rw [← HEj.out, ← scanDown_go hij (by show _ = true; rw [HL.out]; rfl)]
              clear HEj HL
              go_wp2
              go_roundw
              case rel => exact ⟨j1, by go_num, by omega, HP1, HE2, HKw⟩
              case measure => simp [intOf]

          · have q5 : ¬ (i1 : Int) ≤ (jv : Int) := by omega
            have HJ : Hid (scanDown (fun x => !ltP x d1[a]!) d1 i1 c = jv) := by
              show _ = _
              rw [← HEj.out, scanDown_stop (by omega) (by simp [hij])]
            clear HEj
            go_wp2
            go_quiet (fail)
            have HP1 : Hid (Pts (wr.drewN nq) g d1 sp) := HPj.out.kept (Kept.no_drewN _ _) (fun e => e)
            have HKw : Hid (Kept (Only g) w (wr.drewN nq)) := HKj.out.drewN _
            clear HPj HKj
            generalize wr.drewN nq = w1 at HP1 HKw
            by_cases hlt : jv < i1
            · have q7 : (jv : Int) < (i1 : Int) := by omega
              have HT : Hid (partition ltP d a b q = (jv, true, swp d1 jv a)) := HT0.out ▸ part_true HI.out HJ.out hlt
              clear HI HJ
              obtain ⟨x, hx⟩ : ∃ x, d1[jv]! = x := ⟨_, rfl⟩
              obtain ⟨y, hy⟩ : ∃ y, d1[a]! = y := ⟨_, rfl⟩
              have HXx : Hid (d1[jv]! = x) := hx
              have HXy : Hid (d1[a]! = y) := hy
              clear hx hy

              have sa := HP1.out.cell (jv) (by have := HS.out; omega)
              have sb := HP1.out.cell (a) (by have := HS.out; omega)
              rw [HXx.out] at sa
              rw [HXy.out] at sb
              obtain ⟨sa1, sa2⟩ := sa
              obtain ⟨sb1, sb2⟩ := sb
              have f1 := HP1.out.frozen ((jv) * 2)
              have f2 := HP1.out.frozen ((jv) * 2 + 1)
              have f3 := HP1.out.frozen ((a) * 2)
              have f4 := HP1.out.frozen ((a) * 2 + 1)

              have sc := (HP1.out.put (jv) y (by have := HS.out; omega)).cell (a) (by rw [Array.size_setIfInBounds]; exact (by have := HS.out; omega))
              have sf1 := (HP1.out.put (jv) y (by have := HS.out; omega)).frozen ((a) * 2)
              have sf2 := (HP1.out.put (jv) y (by have := HS.out; omega)).frozen ((a) * 2 + 1)
              obtain ⟨z, hz⟩ : ∃ z, (d1.setIfInBounds (jv) y)[a]! = z := ⟨_, rfl⟩
              rw [hz] at sc
              clear hz
              obtain ⟨sc1, sc2⟩ := sc
              have sd1 := cell_drew' sc1
              have sd2 := cell_drew' sc2

              have t1 : (a : Int) < (n : Int) := by omega
              have t2 : (jv : Int) < (n : Int) := by omega
              have t3 : (0 : Int) ≤ (a : Int) := by omega
              have t4 : (0 : Int) ≤ (jv : Int) := by omega
              go_wp2
              go_big_region
              all_goals go_wp2
              go_ret2
              rw [HT.out]
              exact ⟨by first | rfl | simp, HP1.out.swap jv a (by have := HS.out; omega) (by have := HS.out; omega) HXx.out HXy.out, (HKw.out.swap jv a _ _ _ _).drew⟩

            · exfalso
              omega

    · have q5 : ¬ (i1 : Int) ≤ (c : Int) := by omega
      have HI : Hid (scanUp (fun x => ltP x d1[a]!) d1 c (a + 1) = i1) := by
        show _ = _
        rw [← HEi.out, scanUp_stop (by simp [hij])]
      clear HEi
      go_wp2
      go_quiet (fail)
      have HP1 : Hid (Pts (wr.drewN nq) g d1 sp) := HPi.out.kept (Kept.no_drewN _ _) (fun e => e)
      have HKw : Hid (Kept (Only g) w (wr.drewN nq)) := HKi.out.drewN _
      clear HPi HKi
      generalize wr.drewN nq = w1 at HP1 HKw
      go_wp2

      go_loopw [13] (fun vj wr => ∃ (jv : Nat), vj = .int .i64 jv ∧ jv ≤ c ∧ Hid (Pts wr g d1 sp) ∧ Hid (scanDown (fun x => !ltP x d1[a]!) d1 i1 jv = scanDown (fun x => !ltP x d1[a]!) d1 i1 c) ∧ Hid (Kept (Only g) w wr)) (fun j _ => (intOf j).toNat)
      case atStart => exact ⟨c, by go_num, Nat.le_refl _, HP1, rfl, HKw⟩
      case round =>
        obtain ⟨jv, rfl, hj0, HPj, HEj, HKj⟩ := hrel
        clear HP1 HKw
        by_cases hij : i1 ≤ jv
        · obtain ⟨j1, rfl⟩ : ∃ j1, jv = j1 + 1 := ⟨jv - 1, by omega⟩
          have ca := HPj.out.cell (j1 + 1) (by have := HS.out; omega)
          have cb := HPj.out.cell (a) (by have := HS.out; omega)
          obtain ⟨x, hx⟩ : ∃ x, d1[j1 + 1]! = x := ⟨_, rfl⟩
          obtain ⟨y, hy⟩ : ∃ y, d1[a]! = y := ⟨_, rfl⟩
          rw [hx] at ca
          rw [hy] at cb
          have a0 := fun dd os => cell_regrown ca.1 dd os
          have a1 := fun dd os => cell_regrown ca.2 dd os
          have b0 := fun dd os => cell_regrown cb.1 dd os
          have b1 := fun dd os => cell_regrown cb.2 dd os
          have q1 : (j1 : Int) + 1 < (n : Int) := by omega
          have q2 : (a : Int) < (n : Int) := by omega
          have q3 : (0 : Int) ≤ (j1 : Int) + 1 := by omega
          have q4 : (0 : Int) ≤ (a : Int) := by omega
          have q5 : (i1 : Int) ≤ (j1 : Int) + 1 := by omega
          have HXx : Hid (d1[j1 + 1]! = x) := hx
          have HXy : Hid (d1[a]! = y) := hy
          have hmeth := meth112
          clear hx hy ca cb
          go_wp2
          refine wp_region_quiet_below hmix (by kernel_rfl) ?_
          repeat (quiet_step (exact Calls.regrown_of (compareB x y _)))
          refine wpQuiet_nil ?_
          intro _ hw'
          obtain ⟨⟨nq, osq⟩, hw''⟩ := hw'
          rw [hw'']
          simp only []
          have HP1 : Hid (Pts (Sort.grow (redrawn wr nq) osq) g d1 sp) := HPj.out.kept (kept_regrown _ _ _) (fun e => e)
          have HKw : Hid (Kept (Only g) w (Sort.grow (redrawn wr nq) osq)) := HKj.out.then (kept_regrown _ _ _).of_no

          clear hw'' a0 a1 b0 b1 hmeth
          generalize Sort.grow (redrawn wr nq) osq = w1 at HP1 HKw 

          clear HPj HKj
          by_cases hc : cmpP x y < 0

          · have hcd : decide (cmpP x y < 0) = true := decide_eq_true hc
            have HL : Hid (ltP d1[j1 + 1]! d1[a]! = true) := by show ltP _ _ = _; rw [HXx.out, HXy.out]; exact hcd
            rw [hcd]
            try simp only [Bool.not_true, Bool.not_false]
            clear hcd hc HXx HXy

            have HJ : Hid (scanDown (fun x => !ltP x d1[a]!) d1 i1 c = j1 + 1) := by
              show _ = _
              rw [← HEj.out, scanDown_stop (by omega) (by rw [HL.out]; simp)]
            clear HEj HL
            by_cases hlt : (j1 + 1) < i1
            · exfalso
              omega

            · exfalso
              omega

          · have hcd : decide (cmpP x y < 0) = false := decide_eq_false hc
            have HL : Hid (ltP d1[j1 + 1]! d1[a]! = false) := by show ltP _ _ = _; rw [HXx.out, HXy.out]; exact hcd
            rw [hcd]
            try simp only [Bool.not_true, Bool.not_false]
            clear hcd hc HXx HXy

            have HE2 : Hid (scanDown (fun x => !ltP x d1[a]!) d1 i1 j1 = scanDown (fun x => !ltP x d1[a]!) d1 i1 c) := by
              show _ = _
              rw [← HEj.out, ← scanDown_go hij (by show _ = true; rw [HL.out]; rfl)]
            clear HEj HL
            go_wp2
            go_roundw
            case rel => exact ⟨j1, by go_num, by omega, HP1, HE2, HKw⟩
            case measure => simp [intOf]

        · have q5 : ¬ (i1 : Int) ≤ (jv : Int) := by omega
          have HJ : Hid (scanDown (fun x => !ltP x d1[a]!) d1 i1 c = jv) := by
            show _ = _
            rw [← HEj.out, scanDown_stop (by omega) (by simp [hij])]
          clear HEj
          go_wp2
          go_quiet (fail)
          have HP1 : Hid (Pts (wr.drewN nq) g d1 sp) := HPj.out.kept (Kept.no_drewN _ _) (fun e => e)
          have HKw : Hid (Kept (Only g) w (wr.drewN nq)) := HKj.out.drewN _
          clear HPj HKj
          generalize wr.drewN nq = w1 at HP1 HKw
          by_cases hlt : jv < i1
          · have q7 : (jv : Int) < (i1 : Int) := by omega
            have HT : Hid (partition ltP d a b q = (jv, true, swp d1 jv a)) := HT0.out ▸ part_true HI.out HJ.out hlt
            clear HI HJ
            obtain ⟨x, hx⟩ : ∃ x, d1[jv]! = x := ⟨_, rfl⟩
            obtain ⟨y, hy⟩ : ∃ y, d1[a]! = y := ⟨_, rfl⟩
            have HXx : Hid (d1[jv]! = x) := hx
            have HXy : Hid (d1[a]! = y) := hy
            clear hx hy

            have sa := HP1.out.cell (jv) (by have := HS.out; omega)
            have sb := HP1.out.cell (a) (by have := HS.out; omega)
            rw [HXx.out] at sa
            rw [HXy.out] at sb
            obtain ⟨sa1, sa2⟩ := sa
            obtain ⟨sb1, sb2⟩ := sb
            have f1 := HP1.out.frozen ((jv) * 2)
            have f2 := HP1.out.frozen ((jv) * 2 + 1)
            have f3 := HP1.out.frozen ((a) * 2)
            have f4 := HP1.out.frozen ((a) * 2 + 1)

            have sc := (HP1.out.put (jv) y (by have := HS.out; omega)).cell (a) (by rw [Array.size_setIfInBounds]; exact (by have := HS.out; omega))
            have sf1 := (HP1.out.put (jv) y (by have := HS.out; omega)).frozen ((a) * 2)
            have sf2 := (HP1.out.put (jv) y (by have := HS.out; omega)).frozen ((a) * 2 + 1)
            obtain ⟨z, hz⟩ : ∃ z, (d1.setIfInBounds (jv) y)[a]! = z := ⟨_, rfl⟩
            rw [hz] at sc
            clear hz
            obtain ⟨sc1, sc2⟩ := sc
            have sd1 := cell_drew' sc1
            have sd2 := cell_drew' sc2

            have t1 : (a : Int) < (n : Int) := by omega
            have t2 : (jv : Int) < (n : Int) := by omega
            have t3 : (0 : Int) ≤ (a : Int) := by omega
            have t4 : (0 : Int) ≤ (jv : Int) := by omega
            go_wp2
            go_big_region
            all_goals go_wp2
            go_ret2
            rw [HT.out]
            exact ⟨by first | rfl | simp, HP1.out.swap jv a (by have := HS.out; omega) (by have := HS.out; omega) HXx.out HXy.out, (HKw.out.swap jv a _ _ _ _).drew⟩

          · exfalso
            omega

end Go.Proofs.Ytpapbleabjpbfab
