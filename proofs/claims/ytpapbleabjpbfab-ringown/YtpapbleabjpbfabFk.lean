import Derived.Test.YtpapbleabjpbfabFg
namespace Go.Proofs.Ytpapbleabjpbfab
open Go.RowKit
set_option linter.unusedVariables false
set_option linter.unusedSimpArgs false


def dnS (a i : Nat) (d : Array (Int × Int)) : Array (Int × Int) := if i - a ≥ 2 then Sort.shiftDown ltP (i - 1) d else d
def upS (b i : Nat) (d : Array (Int × Int)) : Array (Int × Int) := if b - i ≥ 2 then Sort.shiftUp ltP b (i + 1) d else d
section
variable {a b i j s : Nat} {d : Array (Int × Int)}
theorem shU_go (h : j + 1 < b) (hl : ltP d[j + 1]! d[j]! = true) : Sort.shiftUp ltP b (j + 1) d = Sort.shiftUp ltP b (j + 2) (Sort.swp d (j + 1) j) := by
  rw [Sort.shiftUp, if_pos h, if_neg (by rw [Nat.add_sub_cancel, hl]; decide)]; rfl
theorem shU_stop (h : j + 1 < b) (hl : ltP d[j + 1]! d[j]! = false) : Sort.shiftUp ltP b (j + 1) d = d := by
  rw [Sort.shiftUp, if_pos h, if_pos (by rw [Nat.add_sub_cancel, hl]; decide)]
theorem shU_end (h : ¬ j < b) : Sort.shiftUp ltP b j d = d := by
  rw [Sort.shiftUp, if_neg h]
theorem shD_go (hl : ltP d[j + 1]! d[j]! = true) : Sort.shiftDown ltP (j + 1) d = Sort.shiftDown ltP j (Sort.swp d (j + 1) j) := by
  rw [Sort.shiftDown, if_neg (by rw [hl]; decide)]
theorem shD_stop (hl : ltP d[j + 1]! d[j]! = false) : Sort.shiftDown ltP (j + 1) d = d := by
  rw [Sort.shiftDown, if_pos (by rw [hl]; decide)]
theorem scS_go (h : i + 1 < b) (hl : ltP d[i + 1]! d[i]! = false) : Sort.scanSorted ltP d b (i + 1) = Sort.scanSorted ltP d b (i + 2) := by
  rw [Sort.scanSorted, if_pos (by rw [Nat.add_sub_cancel, hl]; simp [h])]
theorem scS_stop (hl : ltP d[i + 1]! d[i]! = true) : Sort.scanSorted ltP d b (i + 1) = i + 1 := by
  rw [Sort.scanSorted, if_neg (by rw [Nat.add_sub_cancel, hl]; simp)]
theorem scS_end (h : ¬ i < b) : Sort.scanSorted ltP d b i = i := by
  rw [Sort.scanSorted, if_neg (by simp [h])]
theorem pI_true (h : Sort.scanSorted ltP d b i = b) : Sort.partialIns ltP a b (s + 1) i d = (d, true) := by
  rw [Sort.partialIns]; simp only [h, if_true]
theorem pI_false (h : Sort.scanSorted ltP d b i = j) (hj : j ≠ b) (h50 : b - a < 50) : Sort.partialIns ltP a b (s + 1) i d = (d, false) := by
  rw [Sort.partialIns]; simp only [h, if_neg hj, if_pos h50]
theorem pI_go (h : Sort.scanSorted ltP d b i = j + 1) (hj : j + 1 ≠ b) (h50 : ¬ b - a < 50) : Sort.partialIns ltP a b (s + 1) i d = Sort.partialIns ltP a b s (j + 1) (upS b (j + 1) (dnS a (j + 1) (Sort.swp d (j + 1) j))) := by
  rw [Sort.partialIns]; simp only [h, if_neg hj, if_neg h50]; rfl
end

open Go.Sort in
set_option maxRecDepth 100000 in
set_option maxHeartbeats 8000000 in
theorem partialIns_any (g cap a b n : Nat) (d : Array (Int × Int)) (sp : List Value) (w : World) (hn : d.size = n) (hab : a < b) (hb : b ≤ n) (hm : n ≤ 4096) (hp : Pts w g d sp) :
    Calls Try.prog 74 #[.slice (some ⟨g, 0, none⟩) n cap, .int .i64 a, .int .i64 b, cmpV] w fun e w' => e = .returned (.bool (partialInsertionSort ltP d a b).2) ∧ Pts w' g (partialInsertionSort ltP d a b).1 sp ∧ Kept (Only g) w w' := by
  have HP : Hid (Pts w g d sp) := hp
  have HN : Hid (d.size = n) := hn
  clear hp hn
  have HT : Hid (partialInsertionSort ltP d a b = partialIns ltP a b 5 (a + 1) d) := rfl
  have hmix : Try.prog.follows .mixedOrders = true := by kernel_rfl
  go_enter Try.func74, Try.ntmps74
  go_wp2
  go_loopw [9, 10] (fun vi vk wr => ∃ (i k : Nat) (dk : Array (Int × Int)), vi = .int .i64 i ∧ vk = .int .i64 k ∧ a + 1 ≤ i ∧ i ≤ b ∧ k ≤ 5 ∧ Hid (dk.size = n) ∧ Hid (Pts wr g dk sp) ∧ Hid (partialIns ltP a b (5 - k) i dk = partialIns ltP a b 5 (a + 1) d) ∧ Hid (Kept (Only g) w wr)) (fun _ k _ => 5 - (intOf k).toNat)
  case atStart => exact ⟨a + 1, 0, d, by go_num, by go_num, Nat.le_refl _, by omega, by omega, HN, HP, rfl, Kept.refl _ _⟩
  case round =>
    obtain ⟨i, k, dk, rfl, rfl, hai, hib, hk5, HS, HPk, HE, HK⟩ := hrel
    clear HP
    by_cases hk : k < 5
    · have hk' : (k : Int) < 5 := by omega
      obtain ⟨s, hs⟩ : ∃ s, 5 - k = s + 1 := ⟨4 - k, by omega⟩
      have HKS : Hid (5 - k = s + 1) := hs
      clear hs
      go_wp2
      go_loopw [9] (fun vi wr => ∃ (i1 : Nat), vi = .int .i64 i1 ∧ i ≤ i1 ∧ i1 ≤ b ∧ Hid (Pts wr g dk sp) ∧ Hid (scanSorted ltP dk b i1 = scanSorted ltP dk b i) ∧ Hid (Kept (Only g) w wr)) (fun i _ => b - (intOf i).toNat)
      case atStart => exact ⟨i, rfl, Nat.le_refl _, hib, HPk, rfl, HK⟩
      case round =>
        obtain ⟨i1, rfl, hi1, hi1b, HPi, HEi, HKi⟩ := hrel
        clear HPk HK
        obtain ⟨ip, rfl⟩ : ∃ ip, i1 = ip + 1 := ⟨i1 - 1, by omega⟩
        by_cases hlt : ip + 1 < b
        · have g1 : (ip : Int) + 1 < (b : Int) := by omega
          have ca := HPi.out.cell (ip + 1) (by have := HS.out; omega)
          have cb := HPi.out.cell (ip) (by have := HS.out; omega)
          obtain ⟨x, hx⟩ : ∃ x, dk[ip + 1]! = x := ⟨_, rfl⟩
          obtain ⟨y, hy⟩ : ∃ y, dk[ip]! = y := ⟨_, rfl⟩
          rw [hx] at ca
          rw [hy] at cb
          have a0 := fun dd os => cell_regrown ca.1 dd os
          have a1 := fun dd os => cell_regrown ca.2 dd os
          have b0 := fun dd os => cell_regrown cb.1 dd os
          have b1 := fun dd os => cell_regrown cb.2 dd os
          have q1 : (ip : Int) + 1 < (n : Int) := by omega
          have q2 : (ip : Int) < (n : Int) := by omega
          have q3 : (0 : Int) ≤ (ip : Int) + 1 := by omega
          have q4 : (0 : Int) ≤ (ip : Int) := by omega
          have hwr : IntKind.i64.wrap (ip : Int) = (ip : Int) := by rw [IntKind.wrap_i64]; omega
          have HXx : Hid (dk[ip + 1]! = x) := hx
          have HXy : Hid (dk[ip]! = y) := hy
          have hmeth := meth112
          clear hx hy ca cb
          go_wp2
          refine wp_region_quiet_below hmix (by kernel_rfl) ?_
          repeat (quiet_step (exact Calls.regrown_of (compareB x y _)))
          refine wpQuiet_nil ?_
          intro _ hw'
          obtain ⟨⟨nq, osq⟩, hw''⟩ := hw'
          rw [hw'']
          simp only []
          have HP1 : Hid (Pts (Sort.grow (redrawn wr nq) osq) g dk sp) := HPi.out.kept (kept_regrown _ _ _) (fun e => e)
          have HKw : Hid (Kept (Only g) w (Sort.grow (redrawn wr nq) osq)) := HKi.out.then (kept_regrown _ _ _).of_no

          clear hw'' a0 a1 b0 b1 hmeth
          generalize Sort.grow (redrawn wr nq) osq = w1 at HP1 HKw 

          clear HPi HKi
          by_cases hc : cmpP x y < 0
          · have hcd : decide (cmpP x y < 0) = true := decide_eq_true hc
            have HL : Hid (ltP dk[ip + 1]! dk[ip]! = true) := by show ltP _ _ = _; rw [HXx.out, HXy.out]; exact hcd
            rw [hcd]
            try simp only [Bool.not_true, Bool.not_false]
            clear hcd hc
            have HI : Hid (scanSorted ltP dk b i = ip + 1) := by show _ = _; rw [← HEi.out, scS_stop HL.out]
            clear HEi HL
            by_cases h50 : b - a < 50
            · have g5 : (b : Int) - (a : Int) < 50 := by omega
              have HR : Hid (partialIns ltP a b (s + 1) i dk = (dk, false)) := pI_false HI.out (by omega) h50
              go_wp2
              go_ret
              rw [HT.out, ← HE.out, HKS.out, HR.out]
              exact ⟨rfl, HP1.out, HKw.out⟩
            · have g5 : ¬ (b : Int) - (a : Int) < 50 := by omega
              have HR : Hid (partialIns ltP a b (s + 1) i dk = partialIns ltP a b s (ip + 1) (upS b (ip + 1) (dnS a (ip + 1) (swp dk (ip + 1) ip)))) := pI_go HI.out (by omega) h50
              clear HI
              by_cases hdn : a + 1 ≤ ip
              · have g2 : (2 : Int) ≤ (ip : Int) + 1 - (a : Int) := by omega
                by_cases hup : ip + 3 ≤ b
                · have g3 : (2 : Int) ≤ (b : Int) - ((ip : Int) + 1) := by omega
                  · skip
                    have sa := HP1.out.cell (ip + 1) (by have := HS.out; omega)
                    have sb := HP1.out.cell (ip) (by have := HS.out; omega)
                    rw [HXx.out] at sa
                    rw [HXy.out] at sb
                    obtain ⟨sa1, sa2⟩ := sa
                    obtain ⟨sb1, sb2⟩ := sb
                    have f1 := HP1.out.frozen ((ip + 1) * 2)
                    have f2 := HP1.out.frozen ((ip + 1) * 2 + 1)
                    have f3 := HP1.out.frozen ((ip) * 2)
                    have f4 := HP1.out.frozen ((ip) * 2 + 1)

                    go_wp2
                    go_big_region
                    all_goals go_wp2_with fail
                    have HP2 : Hid _ := HP1.out.swap (ip + 1) ip (by have := HS.out; omega) (by have := HS.out; omega) HXx.out HXy.out
                    have HK2 : Hid _ := (HKw.out.swap (ip + 1) ip (.int .i64 y.1) (.int .i64 y.2) (.int .i64 x.1) (.int .i64 x.2)).drew
                    have HS2 : Hid ((swp dk (ip + 1) ip).size = n) := by show _ = _; rw [size_swp']; exact HS.out
                    generalize swp dk (ip + 1) ip = d1 at HP2 HS2 HR
                    clear sa1 sa2 sb1 sb2 f1 f2 f3 f4 HXx HXy HP1 HKw HS q1 q2 q3 q4 hwr g5

                    · skip
                      have HD0 : Hid (dnS a (ip + 1) d1 = shiftDown ltP ip d1) := by show _ = _; unfold dnS; rw [if_pos (by omega)]; rfl
                      go_wp2
                      go_loopw [11] (fun vj wr => ∃ (j : Nat) (dj : Array (Int × Int)), vj = .int .i64 j ∧ j ≤ ip ∧ Hid (dj.size = n) ∧ Hid (Pts wr g dj sp) ∧ Hid (shiftDown ltP j dj = shiftDown ltP ip d1) ∧ Hid (Kept (Only g) w wr)) (fun j _ => (intOf j).toNat)
                      case atStart => exact ⟨ip, d1, by go_num, Nat.le_refl _, HS2, HP2, rfl, HK2⟩
                      case round =>
                        obtain ⟨j, dj, rfl, hj1, HSj, HPj, HEj, HKj⟩ := hrel
                        clear HP2 HK2
                        by_cases hjl : 1 ≤ j
                        · obtain ⟨jp, rfl⟩ : ∃ jp, j = jp + 1 := ⟨j - 1, by omega⟩
                          have g4 : (1 : Int) ≤ (jp : Int) + 1 := by omega
                          have ca := HPj.out.cell (jp + 1) (by have := HSj.out; omega)
                          have cb := HPj.out.cell (jp) (by have := HSj.out; omega)
                          obtain ⟨x, hx⟩ : ∃ x, dj[jp + 1]! = x := ⟨_, rfl⟩
                          obtain ⟨y, hy⟩ : ∃ y, dj[jp]! = y := ⟨_, rfl⟩
                          rw [hx] at ca
                          rw [hy] at cb
                          have a0 := fun dd os => cell_regrown ca.1 dd os
                          have a1 := fun dd os => cell_regrown ca.2 dd os
                          have b0 := fun dd os => cell_regrown cb.1 dd os
                          have b1 := fun dd os => cell_regrown cb.2 dd os
                          have q1 : (jp : Int) + 1 < (n : Int) := by omega
                          have q2 : (jp : Int) < (n : Int) := by omega
                          have q3 : (0 : Int) ≤ (jp : Int) + 1 := by omega
                          have q4 : (0 : Int) ≤ (jp : Int) := by omega
                          have hwr : IntKind.i64.wrap (jp : Int) = (jp : Int) := by rw [IntKind.wrap_i64]; omega
                          have HXx : Hid (dj[jp + 1]! = x) := hx
                          have HXy : Hid (dj[jp]! = y) := hy
                          have hmeth := meth112
                          clear hx hy ca cb
                          go_wp2
                          refine wp_region_quiet_below hmix (by kernel_rfl) ?_
                          repeat (quiet_step (exact Calls.regrown_of (compareB x y _)))
                          refine wpQuiet_nil ?_
                          intro _ hw'
                          obtain ⟨⟨nq, osq⟩, hw''⟩ := hw'
                          rw [hw'']
                          simp only []
                          have HP1 : Hid (Pts (Sort.grow (redrawn wr nq) osq) g dj sp) := HPj.out.kept (kept_regrown _ _ _) (fun e => e)
                          have HKw : Hid (Kept (Only g) w (Sort.grow (redrawn wr nq) osq)) := HKj.out.then (kept_regrown _ _ _).of_no

                          clear hw'' a0 a1 b0 b1 hmeth
                          generalize Sort.grow (redrawn wr nq) osq = w1 at HP1 HKw 

                          clear HPj HKj
                          by_cases hc : cmpP x y < 0
                          · have hcd : decide (cmpP x y < 0) = true := decide_eq_true hc
                            have HL : Hid (ltP dj[jp + 1]! dj[jp]! = true) := by show ltP _ _ = _; rw [HXx.out, HXy.out]; exact hcd
                            rw [hcd]
                            try simp only [Bool.not_true, Bool.not_false]
                            clear hcd hc
                            have sa := HP1.out.cell (jp + 1) (by have := HSj.out; omega)
                            have sb := HP1.out.cell (jp) (by have := HSj.out; omega)
                            rw [HXx.out] at sa
                            rw [HXy.out] at sb
                            obtain ⟨sa1, sa2⟩ := sa
                            obtain ⟨sb1, sb2⟩ := sb
                            have f1 := HP1.out.frozen ((jp + 1) * 2)
                            have f2 := HP1.out.frozen ((jp + 1) * 2 + 1)
                            have f3 := HP1.out.frozen ((jp) * 2)
                            have f4 := HP1.out.frozen ((jp) * 2 + 1)

                            go_wp2
                            go_big_region
                            all_goals go_wp2
                            go_roundw
                            case rel =>
                              refine ⟨jp, swp dj (jp + 1) jp, by go_num, by omega, ?_, HP1.out.swap (jp + 1) jp (by have := HSj.out; omega) (by have := HSj.out; omega) HXx.out HXy.out, ?_, (HKw.out.swap (jp + 1) jp _ _ _ _).drew⟩
                              · show _ = _; rw [size_swp']; exact HSj.out
                              · show _ = _; rw [← HEj.out, shD_go HL.out]
                            case measure => simp [intOf]
                          · have hcd : decide (cmpP x y < 0) = false := decide_eq_false hc
                            have HL : Hid (ltP dj[jp + 1]! dj[jp]! = false) := by show ltP _ _ = _; rw [HXx.out, HXy.out]; exact hcd
                            rw [hcd]
                            try simp only [Bool.not_true, Bool.not_false]
                            clear hcd hc HXx HXy
                            have HDD : Hid (dnS a (ip + 1) d1 = dj) := by show _ = _; rw [HD0.out, ← HEj.out, shD_stop HL.out]
                            clear HL HEj HD0 q1 q2 q3 q4 hwr g4
                            obtain ⟨d2, hd2⟩ : ∃ d2, d2 = dj := ⟨_, rfl⟩
                            subst hd2
                            · skip
                              have HU0 : Hid (upS b (ip + 1) d2 = shiftUp ltP b (ip + 1 + 1) d2) := by show _ = _; unfold upS; rw [if_pos (by omega)]
                              go_wp2
                              go_loopw [12] (fun vj wr => ∃ (j : Nat) (dj : Array (Int × Int)), vj = .int .i64 j ∧ ip + 2 ≤ j ∧ j ≤ b ∧ Hid (dj.size = n) ∧ Hid (Pts wr g dj sp) ∧ Hid (shiftUp ltP b j dj = shiftUp ltP b (ip + 1 + 1) d2) ∧ Hid (Kept (Only g) w wr)) (fun j _ => b - (intOf j).toNat)
                              case atStart => exact ⟨ip + 2, d2, by go_num, Nat.le_refl _, by omega, HSj, HP1, rfl, HKw⟩
                              case round =>
                                obtain ⟨j, dj, rfl, hj1, hjb, HSj, HPj, HEj, HKj⟩ := hrel
                                clear HP1 HKw
                                obtain ⟨jp, rfl⟩ : ∃ jp, j = jp + 1 := ⟨j - 1, by omega⟩
                                by_cases hjl : jp + 1 < b
                                · have g4 : (jp : Int) + 1 < (b : Int) := by omega
                                  have ca := HPj.out.cell (jp + 1) (by have := HSj.out; omega)
                                  have cb := HPj.out.cell (jp) (by have := HSj.out; omega)
                                  obtain ⟨x, hx⟩ : ∃ x, dj[jp + 1]! = x := ⟨_, rfl⟩
                                  obtain ⟨y, hy⟩ : ∃ y, dj[jp]! = y := ⟨_, rfl⟩
                                  rw [hx] at ca
                                  rw [hy] at cb
                                  have a0 := fun dd os => cell_regrown ca.1 dd os
                                  have a1 := fun dd os => cell_regrown ca.2 dd os
                                  have b0 := fun dd os => cell_regrown cb.1 dd os
                                  have b1 := fun dd os => cell_regrown cb.2 dd os
                                  have q1 : (jp : Int) + 1 < (n : Int) := by omega
                                  have q2 : (jp : Int) < (n : Int) := by omega
                                  have q3 : (0 : Int) ≤ (jp : Int) + 1 := by omega
                                  have q4 : (0 : Int) ≤ (jp : Int) := by omega
                                  have hwr : IntKind.i64.wrap (jp : Int) = (jp : Int) := by rw [IntKind.wrap_i64]; omega
                                  have HXx : Hid (dj[jp + 1]! = x) := hx
                                  have HXy : Hid (dj[jp]! = y) := hy
                                  have hmeth := meth112
                                  clear hx hy ca cb
                                  go_wp2
                                  refine wp_region_quiet_below hmix (by kernel_rfl) ?_
                                  repeat (quiet_step (exact Calls.regrown_of (compareB x y _)))
                                  refine wpQuiet_nil ?_
                                  intro _ hw'
                                  obtain ⟨⟨nq, osq⟩, hw''⟩ := hw'
                                  rw [hw'']
                                  simp only []
                                  have HP1 : Hid (Pts (Sort.grow (redrawn wr nq) osq) g dj sp) := HPj.out.kept (kept_regrown _ _ _) (fun e => e)
                                  have HKw : Hid (Kept (Only g) w (Sort.grow (redrawn wr nq) osq)) := HKj.out.then (kept_regrown _ _ _).of_no

                                  clear hw'' a0 a1 b0 b1 hmeth
                                  generalize Sort.grow (redrawn wr nq) osq = w1 at HP1 HKw 

                                  clear HPj HKj
                                  by_cases hc : cmpP x y < 0
                                  · have hcd : decide (cmpP x y < 0) = true := decide_eq_true hc
                                    have HL : Hid (ltP dj[jp + 1]! dj[jp]! = true) := by show ltP _ _ = _; rw [HXx.out, HXy.out]; exact hcd
                                    rw [hcd]
                                    try simp only [Bool.not_true, Bool.not_false]
                                    clear hcd hc
                                    have sa := HP1.out.cell (jp + 1) (by have := HSj.out; omega)
                                    have sb := HP1.out.cell (jp) (by have := HSj.out; omega)
                                    rw [HXx.out] at sa
                                    rw [HXy.out] at sb
                                    obtain ⟨sa1, sa2⟩ := sa
                                    obtain ⟨sb1, sb2⟩ := sb
                                    have f1 := HP1.out.frozen ((jp + 1) * 2)
                                    have f2 := HP1.out.frozen ((jp + 1) * 2 + 1)
                                    have f3 := HP1.out.frozen ((jp) * 2)
                                    have f4 := HP1.out.frozen ((jp) * 2 + 1)

                                    go_wp2
                                    go_big_region
                                    all_goals go_wp2
                                    go_roundw
                                    case rel =>
                                      refine ⟨jp + 2, swp dj (jp + 1) jp, by go_num, by omega, by omega, ?_, HP1.out.swap (jp + 1) jp (by have := HSj.out; omega) (by have := HSj.out; omega) HXx.out HXy.out, ?_, (HKw.out.swap (jp + 1) jp _ _ _ _).drew⟩
                                      · show _ = _; rw [size_swp']; exact HSj.out
                                      · show _ = _; rw [← HEj.out, shU_go hjl HL.out]
                                    case measure => simp [intOf]; omega
                                  · have hcd : decide (cmpP x y < 0) = false := decide_eq_false hc
                                    have HL : Hid (ltP dj[jp + 1]! dj[jp]! = false) := by show ltP _ _ = _; rw [HXx.out, HXy.out]; exact hcd
                                    rw [hcd]
                                    try simp only [Bool.not_true, Bool.not_false]
                                    clear hcd hc HXx HXy
                                    have HU : Hid (upS b (ip + 1) d2 = dj) := by show _ = _; rw [HU0.out, ← HEj.out, shU_stop hjl HL.out]
                                    clear HL HEj HU0
                                    go_wp2
                                    go_roundw
                                    case rel =>
                                      refine ⟨ip + 1, k + 1, dj, by go_num, by go_num, by omega, by omega, by omega, HSj, HP1, ?_, HKw⟩
                                      show _ = _
                                      rw [← HE.out, HKS.out, HR.out, HDD.out, HU.out]
                                      rw [show 5 - (k + 1) = s by have := HKS.out; omega]
                                    case measure => simp [intOf]; omega

                                · have g4 : ¬ (jp : Int) + 1 < (b : Int) := by omega
                                  have HU : Hid (upS b (ip + 1) d2 = dj) := by show _ = _; rw [HU0.out, ← HEj.out, shU_end hjl]
                                  clear HEj HU0
                                  go_wp2
                                  go_roundw
                                  case rel =>
                                    refine ⟨ip + 1, k + 1, dj, by go_num, by go_num, by omega, by omega, by omega, HSj, HPj, ?_, HKj⟩
                                    show _ = _
                                    rw [← HE.out, HKS.out, HR.out, HDD.out, HU.out]
                                    rw [show 5 - (k + 1) = s by have := HKS.out; omega]
                                  case measure => simp [intOf]; omega

                        · have g4 : ¬ (1 : Int) ≤ (j : Int) := by omega
                          have HDD : Hid (dnS a (ip + 1) d1 = dj) := by show _ = _; rw [HD0.out, ← HEj.out, show j = 0 by omega]; rfl
                          clear HEj HD0
                          obtain ⟨d2, hd2⟩ : ∃ d2, d2 = dj := ⟨_, rfl⟩
                          subst hd2
                          have HPz : Hid (Pts wr g d2 sp) := HPj
                          have HKz : Hid (Kept (Only g) w wr) := HKj
                          have HSz : Hid (d2.size = n) := HSj
                          clear HPj HKj HSj
                          · skip
                            have HU0 : Hid (upS b (ip + 1) d2 = shiftUp ltP b (ip + 1 + 1) d2) := by show _ = _; unfold upS; rw [if_pos (by omega)]
                            go_wp2
                            go_loopw [12] (fun vj wr => ∃ (j : Nat) (dj : Array (Int × Int)), vj = .int .i64 j ∧ ip + 2 ≤ j ∧ j ≤ b ∧ Hid (dj.size = n) ∧ Hid (Pts wr g dj sp) ∧ Hid (shiftUp ltP b j dj = shiftUp ltP b (ip + 1 + 1) d2) ∧ Hid (Kept (Only g) w wr)) (fun j _ => b - (intOf j).toNat)
                            case atStart => exact ⟨ip + 2, d2, by go_num, Nat.le_refl _, by omega, HSz, HPz, rfl, HKz⟩
                            case round =>
                              obtain ⟨j, dj, rfl, hj1, hjb, HSj, HPj, HEj, HKj⟩ := hrel
                              clear HPz HKz
                              obtain ⟨jp, rfl⟩ : ∃ jp, j = jp + 1 := ⟨j - 1, by omega⟩
                              by_cases hjl : jp + 1 < b
                              · have g4 : (jp : Int) + 1 < (b : Int) := by omega
                                have ca := HPj.out.cell (jp + 1) (by have := HSj.out; omega)
                                have cb := HPj.out.cell (jp) (by have := HSj.out; omega)
                                obtain ⟨x, hx⟩ : ∃ x, dj[jp + 1]! = x := ⟨_, rfl⟩
                                obtain ⟨y, hy⟩ : ∃ y, dj[jp]! = y := ⟨_, rfl⟩
                                rw [hx] at ca
                                rw [hy] at cb
                                have a0 := fun dd os => cell_regrown ca.1 dd os
                                have a1 := fun dd os => cell_regrown ca.2 dd os
                                have b0 := fun dd os => cell_regrown cb.1 dd os
                                have b1 := fun dd os => cell_regrown cb.2 dd os
                                have q1 : (jp : Int) + 1 < (n : Int) := by omega
                                have q2 : (jp : Int) < (n : Int) := by omega
                                have q3 : (0 : Int) ≤ (jp : Int) + 1 := by omega
                                have q4 : (0 : Int) ≤ (jp : Int) := by omega
                                have hwr : IntKind.i64.wrap (jp : Int) = (jp : Int) := by rw [IntKind.wrap_i64]; omega
                                have HXx : Hid (dj[jp + 1]! = x) := hx
                                have HXy : Hid (dj[jp]! = y) := hy
                                have hmeth := meth112
                                clear hx hy ca cb
                                go_wp2
                                refine wp_region_quiet_below hmix (by kernel_rfl) ?_
                                repeat (quiet_step (exact Calls.regrown_of (compareB x y _)))
                                refine wpQuiet_nil ?_
                                intro _ hw'
                                obtain ⟨⟨nq, osq⟩, hw''⟩ := hw'
                                rw [hw'']
                                simp only []
                                have HP1 : Hid (Pts (Sort.grow (redrawn wr nq) osq) g dj sp) := HPj.out.kept (kept_regrown _ _ _) (fun e => e)
                                have HKw : Hid (Kept (Only g) w (Sort.grow (redrawn wr nq) osq)) := HKj.out.then (kept_regrown _ _ _).of_no

                                clear hw'' a0 a1 b0 b1 hmeth
                                generalize Sort.grow (redrawn wr nq) osq = w1 at HP1 HKw 

                                clear HPj HKj
                                by_cases hc : cmpP x y < 0
                                · have hcd : decide (cmpP x y < 0) = true := decide_eq_true hc
                                  have HL : Hid (ltP dj[jp + 1]! dj[jp]! = true) := by show ltP _ _ = _; rw [HXx.out, HXy.out]; exact hcd
                                  rw [hcd]
                                  try simp only [Bool.not_true, Bool.not_false]
                                  clear hcd hc
                                  have sa := HP1.out.cell (jp + 1) (by have := HSj.out; omega)
                                  have sb := HP1.out.cell (jp) (by have := HSj.out; omega)
                                  rw [HXx.out] at sa
                                  rw [HXy.out] at sb
                                  obtain ⟨sa1, sa2⟩ := sa
                                  obtain ⟨sb1, sb2⟩ := sb
                                  have f1 := HP1.out.frozen ((jp + 1) * 2)
                                  have f2 := HP1.out.frozen ((jp + 1) * 2 + 1)
                                  have f3 := HP1.out.frozen ((jp) * 2)
                                  have f4 := HP1.out.frozen ((jp) * 2 + 1)

                                  go_wp2
                                  go_big_region
                                  all_goals go_wp2
                                  go_roundw
                                  case rel =>
                                    refine ⟨jp + 2, swp dj (jp + 1) jp, by go_num, by omega, by omega, ?_, HP1.out.swap (jp + 1) jp (by have := HSj.out; omega) (by have := HSj.out; omega) HXx.out HXy.out, ?_, (HKw.out.swap (jp + 1) jp _ _ _ _).drew⟩
                                    · show _ = _; rw [size_swp']; exact HSj.out
                                    · show _ = _; rw [← HEj.out, shU_go hjl HL.out]
                                  case measure => simp [intOf]; omega
                                · have hcd : decide (cmpP x y < 0) = false := decide_eq_false hc
                                  have HL : Hid (ltP dj[jp + 1]! dj[jp]! = false) := by show ltP _ _ = _; rw [HXx.out, HXy.out]; exact hcd
                                  rw [hcd]
                                  try simp only [Bool.not_true, Bool.not_false]
                                  clear hcd hc HXx HXy
                                  have HU : Hid (upS b (ip + 1) d2 = dj) := by show _ = _; rw [HU0.out, ← HEj.out, shU_stop hjl HL.out]
                                  clear HL HEj HU0
                                  go_wp2
                                  go_roundw
                                  case rel =>
                                    refine ⟨ip + 1, k + 1, dj, by go_num, by go_num, by omega, by omega, by omega, HSj, HP1, ?_, HKw⟩
                                    show _ = _
                                    rw [← HE.out, HKS.out, HR.out, HDD.out, HU.out]
                                    rw [show 5 - (k + 1) = s by have := HKS.out; omega]
                                  case measure => simp [intOf]; omega

                              · have g4 : ¬ (jp : Int) + 1 < (b : Int) := by omega
                                have HU : Hid (upS b (ip + 1) d2 = dj) := by show _ = _; rw [HU0.out, ← HEj.out, shU_end hjl]
                                clear HEj HU0
                                go_wp2
                                go_roundw
                                case rel =>
                                  refine ⟨ip + 1, k + 1, dj, by go_num, by go_num, by omega, by omega, by omega, HSj, HPj, ?_, HKj⟩
                                  show _ = _
                                  rw [← HE.out, HKS.out, HR.out, HDD.out, HU.out]
                                  rw [show 5 - (k + 1) = s by have := HKS.out; omega]
                                case measure => simp [intOf]; omega

                · have g3 : ¬ (2 : Int) ≤ (b : Int) - ((ip : Int) + 1) := by omega
                  · skip
                    have sa := HP1.out.cell (ip + 1) (by have := HS.out; omega)
                    have sb := HP1.out.cell (ip) (by have := HS.out; omega)
                    rw [HXx.out] at sa
                    rw [HXy.out] at sb
                    obtain ⟨sa1, sa2⟩ := sa
                    obtain ⟨sb1, sb2⟩ := sb
                    have f1 := HP1.out.frozen ((ip + 1) * 2)
                    have f2 := HP1.out.frozen ((ip + 1) * 2 + 1)
                    have f3 := HP1.out.frozen ((ip) * 2)
                    have f4 := HP1.out.frozen ((ip) * 2 + 1)

                    go_wp2
                    go_big_region
                    all_goals go_wp2_with fail
                    have HP2 : Hid _ := HP1.out.swap (ip + 1) ip (by have := HS.out; omega) (by have := HS.out; omega) HXx.out HXy.out
                    have HK2 : Hid _ := (HKw.out.swap (ip + 1) ip (.int .i64 y.1) (.int .i64 y.2) (.int .i64 x.1) (.int .i64 x.2)).drew
                    have HS2 : Hid ((swp dk (ip + 1) ip).size = n) := by show _ = _; rw [size_swp']; exact HS.out
                    generalize swp dk (ip + 1) ip = d1 at HP2 HS2 HR
                    clear sa1 sa2 sb1 sb2 f1 f2 f3 f4 HXx HXy HP1 HKw HS q1 q2 q3 q4 hwr g5

                    · skip
                      have HD0 : Hid (dnS a (ip + 1) d1 = shiftDown ltP ip d1) := by show _ = _; unfold dnS; rw [if_pos (by omega)]; rfl
                      go_wp2
                      go_loopw [11] (fun vj wr => ∃ (j : Nat) (dj : Array (Int × Int)), vj = .int .i64 j ∧ j ≤ ip ∧ Hid (dj.size = n) ∧ Hid (Pts wr g dj sp) ∧ Hid (shiftDown ltP j dj = shiftDown ltP ip d1) ∧ Hid (Kept (Only g) w wr)) (fun j _ => (intOf j).toNat)
                      case atStart => exact ⟨ip, d1, by go_num, Nat.le_refl _, HS2, HP2, rfl, HK2⟩
                      case round =>
                        obtain ⟨j, dj, rfl, hj1, HSj, HPj, HEj, HKj⟩ := hrel
                        clear HP2 HK2
                        by_cases hjl : 1 ≤ j
                        · obtain ⟨jp, rfl⟩ : ∃ jp, j = jp + 1 := ⟨j - 1, by omega⟩
                          have g4 : (1 : Int) ≤ (jp : Int) + 1 := by omega
                          have ca := HPj.out.cell (jp + 1) (by have := HSj.out; omega)
                          have cb := HPj.out.cell (jp) (by have := HSj.out; omega)
                          obtain ⟨x, hx⟩ : ∃ x, dj[jp + 1]! = x := ⟨_, rfl⟩
                          obtain ⟨y, hy⟩ : ∃ y, dj[jp]! = y := ⟨_, rfl⟩
                          rw [hx] at ca
                          rw [hy] at cb
                          have a0 := fun dd os => cell_regrown ca.1 dd os
                          have a1 := fun dd os => cell_regrown ca.2 dd os
                          have b0 := fun dd os => cell_regrown cb.1 dd os
                          have b1 := fun dd os => cell_regrown cb.2 dd os
                          have q1 : (jp : Int) + 1 < (n : Int) := by omega
                          have q2 : (jp : Int) < (n : Int) := by omega
                          have q3 : (0 : Int) ≤ (jp : Int) + 1 := by omega
                          have q4 : (0 : Int) ≤ (jp : Int) := by omega
                          have hwr : IntKind.i64.wrap (jp : Int) = (jp : Int) := by rw [IntKind.wrap_i64]; omega
                          have HXx : Hid (dj[jp + 1]! = x) := hx
                          have HXy : Hid (dj[jp]! = y) := hy
                          have hmeth := meth112
                          clear hx hy ca cb
                          go_wp2
                          refine wp_region_quiet_below hmix (by kernel_rfl) ?_
                          repeat (quiet_step (exact Calls.regrown_of (compareB x y _)))
                          refine wpQuiet_nil ?_
                          intro _ hw'
                          obtain ⟨⟨nq, osq⟩, hw''⟩ := hw'
                          rw [hw'']
                          simp only []
                          have HP1 : Hid (Pts (Sort.grow (redrawn wr nq) osq) g dj sp) := HPj.out.kept (kept_regrown _ _ _) (fun e => e)
                          have HKw : Hid (Kept (Only g) w (Sort.grow (redrawn wr nq) osq)) := HKj.out.then (kept_regrown _ _ _).of_no

                          clear hw'' a0 a1 b0 b1 hmeth
                          generalize Sort.grow (redrawn wr nq) osq = w1 at HP1 HKw 

                          clear HPj HKj
                          by_cases hc : cmpP x y < 0
                          · have hcd : decide (cmpP x y < 0) = true := decide_eq_true hc
                            have HL : Hid (ltP dj[jp + 1]! dj[jp]! = true) := by show ltP _ _ = _; rw [HXx.out, HXy.out]; exact hcd
                            rw [hcd]
                            try simp only [Bool.not_true, Bool.not_false]
                            clear hcd hc
                            have sa := HP1.out.cell (jp + 1) (by have := HSj.out; omega)
                            have sb := HP1.out.cell (jp) (by have := HSj.out; omega)
                            rw [HXx.out] at sa
                            rw [HXy.out] at sb
                            obtain ⟨sa1, sa2⟩ := sa
                            obtain ⟨sb1, sb2⟩ := sb
                            have f1 := HP1.out.frozen ((jp + 1) * 2)
                            have f2 := HP1.out.frozen ((jp + 1) * 2 + 1)
                            have f3 := HP1.out.frozen ((jp) * 2)
                            have f4 := HP1.out.frozen ((jp) * 2 + 1)

                            go_wp2
                            go_big_region
                            all_goals go_wp2
                            go_roundw
                            case rel =>
                              refine ⟨jp, swp dj (jp + 1) jp, by go_num, by omega, ?_, HP1.out.swap (jp + 1) jp (by have := HSj.out; omega) (by have := HSj.out; omega) HXx.out HXy.out, ?_, (HKw.out.swap (jp + 1) jp _ _ _ _).drew⟩
                              · show _ = _; rw [size_swp']; exact HSj.out
                              · show _ = _; rw [← HEj.out, shD_go HL.out]
                            case measure => simp [intOf]
                          · have hcd : decide (cmpP x y < 0) = false := decide_eq_false hc
                            have HL : Hid (ltP dj[jp + 1]! dj[jp]! = false) := by show ltP _ _ = _; rw [HXx.out, HXy.out]; exact hcd
                            rw [hcd]
                            try simp only [Bool.not_true, Bool.not_false]
                            clear hcd hc HXx HXy
                            have HDD : Hid (dnS a (ip + 1) d1 = dj) := by show _ = _; rw [HD0.out, ← HEj.out, shD_stop HL.out]
                            clear HL HEj HD0 q1 q2 q3 q4 hwr g4
                            obtain ⟨d2, hd2⟩ : ∃ d2, d2 = dj := ⟨_, rfl⟩
                            subst hd2
                            · skip
                              have HU : Hid (upS b (ip + 1) d2 = d2) := by show _ = _; unfold upS; rw [if_neg (by omega)]
                              go_wp2
                              go_roundw
                              case rel =>
                                refine ⟨ip + 1, k + 1, d2, by go_num, by go_num, by omega, by omega, by omega, HSj, HP1, ?_, HKw⟩
                                show _ = _
                                rw [← HE.out, HKS.out, HR.out, HDD.out, HU.out]
                                rw [show 5 - (k + 1) = s by have := HKS.out; omega]
                              case measure => simp [intOf]; omega

                        · have g4 : ¬ (1 : Int) ≤ (j : Int) := by omega
                          have HDD : Hid (dnS a (ip + 1) d1 = dj) := by show _ = _; rw [HD0.out, ← HEj.out, show j = 0 by omega]; rfl
                          clear HEj HD0
                          obtain ⟨d2, hd2⟩ : ∃ d2, d2 = dj := ⟨_, rfl⟩
                          subst hd2
                          have HPz : Hid (Pts wr g d2 sp) := HPj
                          have HKz : Hid (Kept (Only g) w wr) := HKj
                          have HSz : Hid (d2.size = n) := HSj
                          clear HPj HKj HSj
                          · skip
                            have HU : Hid (upS b (ip + 1) d2 = d2) := by show _ = _; unfold upS; rw [if_neg (by omega)]
                            go_wp2
                            go_roundw
                            case rel =>
                              refine ⟨ip + 1, k + 1, d2, by go_num, by go_num, by omega, by omega, by omega, HSz, HPz, ?_, HKz⟩
                              show _ = _
                              rw [← HE.out, HKS.out, HR.out, HDD.out, HU.out]
                              rw [show 5 - (k + 1) = s by have := HKS.out; omega]
                            case measure => simp [intOf]; omega

              · have g2 : ¬ (2 : Int) ≤ (ip : Int) + 1 - (a : Int) := by omega
                by_cases hup : ip + 3 ≤ b
                · have g3 : (2 : Int) ≤ (b : Int) - ((ip : Int) + 1) := by omega
                  · skip
                    have sa := HP1.out.cell (ip + 1) (by have := HS.out; omega)
                    have sb := HP1.out.cell (ip) (by have := HS.out; omega)
                    rw [HXx.out] at sa
                    rw [HXy.out] at sb
                    obtain ⟨sa1, sa2⟩ := sa
                    obtain ⟨sb1, sb2⟩ := sb
                    have f1 := HP1.out.frozen ((ip + 1) * 2)
                    have f2 := HP1.out.frozen ((ip + 1) * 2 + 1)
                    have f3 := HP1.out.frozen ((ip) * 2)
                    have f4 := HP1.out.frozen ((ip) * 2 + 1)

                    go_wp2
                    go_big_region
                    all_goals go_wp2_with fail
                    have HP2 : Hid _ := HP1.out.swap (ip + 1) ip (by have := HS.out; omega) (by have := HS.out; omega) HXx.out HXy.out
                    have HK2 : Hid _ := (HKw.out.swap (ip + 1) ip (.int .i64 y.1) (.int .i64 y.2) (.int .i64 x.1) (.int .i64 x.2)).drew
                    have HS2 : Hid ((swp dk (ip + 1) ip).size = n) := by show _ = _; rw [size_swp']; exact HS.out
                    generalize swp dk (ip + 1) ip = d1 at HP2 HS2 HR
                    clear sa1 sa2 sb1 sb2 f1 f2 f3 f4 HXx HXy HP1 HKw HS q1 q2 q3 q4 hwr g5

                    · skip
                      have HDD : Hid (dnS a (ip + 1) d1 = d1) := by show _ = _; unfold dnS; rw [if_neg (by omega)]
                      · skip
                        have HU0 : Hid (upS b (ip + 1) d1 = shiftUp ltP b (ip + 1 + 1) d1) := by show _ = _; unfold upS; rw [if_pos (by omega)]
                        go_wp2
                        go_loopw [12] (fun vj wr => ∃ (j : Nat) (dj : Array (Int × Int)), vj = .int .i64 j ∧ ip + 2 ≤ j ∧ j ≤ b ∧ Hid (dj.size = n) ∧ Hid (Pts wr g dj sp) ∧ Hid (shiftUp ltP b j dj = shiftUp ltP b (ip + 1 + 1) d1) ∧ Hid (Kept (Only g) w wr)) (fun j _ => b - (intOf j).toNat)
                        case atStart => exact ⟨ip + 2, d1, by go_num, Nat.le_refl _, by omega, HS2, HP2, rfl, HK2⟩
                        case round =>
                          obtain ⟨j, dj, rfl, hj1, hjb, HSj, HPj, HEj, HKj⟩ := hrel
                          clear HP2 HK2
                          obtain ⟨jp, rfl⟩ : ∃ jp, j = jp + 1 := ⟨j - 1, by omega⟩
                          by_cases hjl : jp + 1 < b
                          · have g4 : (jp : Int) + 1 < (b : Int) := by omega
                            have ca := HPj.out.cell (jp + 1) (by have := HSj.out; omega)
                            have cb := HPj.out.cell (jp) (by have := HSj.out; omega)
                            obtain ⟨x, hx⟩ : ∃ x, dj[jp + 1]! = x := ⟨_, rfl⟩
                            obtain ⟨y, hy⟩ : ∃ y, dj[jp]! = y := ⟨_, rfl⟩
                            rw [hx] at ca
                            rw [hy] at cb
                            have a0 := fun dd os => cell_regrown ca.1 dd os
                            have a1 := fun dd os => cell_regrown ca.2 dd os
                            have b0 := fun dd os => cell_regrown cb.1 dd os
                            have b1 := fun dd os => cell_regrown cb.2 dd os
                            have q1 : (jp : Int) + 1 < (n : Int) := by omega
                            have q2 : (jp : Int) < (n : Int) := by omega
                            have q3 : (0 : Int) ≤ (jp : Int) + 1 := by omega
                            have q4 : (0 : Int) ≤ (jp : Int) := by omega
                            have hwr : IntKind.i64.wrap (jp : Int) = (jp : Int) := by rw [IntKind.wrap_i64]; omega
                            have HXx : Hid (dj[jp + 1]! = x) := hx
                            have HXy : Hid (dj[jp]! = y) := hy
                            have hmeth := meth112
                            clear hx hy ca cb
                            go_wp2
                            refine wp_region_quiet_below hmix (by kernel_rfl) ?_
                            repeat (quiet_step (exact Calls.regrown_of (compareB x y _)))
                            refine wpQuiet_nil ?_
                            intro _ hw'
                            obtain ⟨⟨nq, osq⟩, hw''⟩ := hw'
                            rw [hw'']
                            simp only []
                            have HP1 : Hid (Pts (Sort.grow (redrawn wr nq) osq) g dj sp) := HPj.out.kept (kept_regrown _ _ _) (fun e => e)
                            have HKw : Hid (Kept (Only g) w (Sort.grow (redrawn wr nq) osq)) := HKj.out.then (kept_regrown _ _ _).of_no

                            clear hw'' a0 a1 b0 b1 hmeth
                            generalize Sort.grow (redrawn wr nq) osq = w1 at HP1 HKw 

                            clear HPj HKj
                            by_cases hc : cmpP x y < 0
                            · have hcd : decide (cmpP x y < 0) = true := decide_eq_true hc
                              have HL : Hid (ltP dj[jp + 1]! dj[jp]! = true) := by show ltP _ _ = _; rw [HXx.out, HXy.out]; exact hcd
                              rw [hcd]
                              try simp only [Bool.not_true, Bool.not_false]
                              clear hcd hc
                              have sa := HP1.out.cell (jp + 1) (by have := HSj.out; omega)
                              have sb := HP1.out.cell (jp) (by have := HSj.out; omega)
                              rw [HXx.out] at sa
                              rw [HXy.out] at sb
                              obtain ⟨sa1, sa2⟩ := sa
                              obtain ⟨sb1, sb2⟩ := sb
                              have f1 := HP1.out.frozen ((jp + 1) * 2)
                              have f2 := HP1.out.frozen ((jp + 1) * 2 + 1)
                              have f3 := HP1.out.frozen ((jp) * 2)
                              have f4 := HP1.out.frozen ((jp) * 2 + 1)

                              go_wp2
                              go_big_region
                              all_goals go_wp2
                              go_roundw
                              case rel =>
                                refine ⟨jp + 2, swp dj (jp + 1) jp, by go_num, by omega, by omega, ?_, HP1.out.swap (jp + 1) jp (by have := HSj.out; omega) (by have := HSj.out; omega) HXx.out HXy.out, ?_, (HKw.out.swap (jp + 1) jp _ _ _ _).drew⟩
                                · show _ = _; rw [size_swp']; exact HSj.out
                                · show _ = _; rw [← HEj.out, shU_go hjl HL.out]
                              case measure => simp [intOf]; omega
                            · have hcd : decide (cmpP x y < 0) = false := decide_eq_false hc
                              have HL : Hid (ltP dj[jp + 1]! dj[jp]! = false) := by show ltP _ _ = _; rw [HXx.out, HXy.out]; exact hcd
                              rw [hcd]
                              try simp only [Bool.not_true, Bool.not_false]
                              clear hcd hc HXx HXy
                              have HU : Hid (upS b (ip + 1) d1 = dj) := by show _ = _; rw [HU0.out, ← HEj.out, shU_stop hjl HL.out]
                              clear HL HEj HU0
                              go_wp2
                              go_roundw
                              case rel =>
                                refine ⟨ip + 1, k + 1, dj, by go_num, by go_num, by omega, by omega, by omega, HSj, HP1, ?_, HKw⟩
                                show _ = _
                                rw [← HE.out, HKS.out, HR.out, HDD.out, HU.out]
                                rw [show 5 - (k + 1) = s by have := HKS.out; omega]
                              case measure => simp [intOf]; omega

                          · have g4 : ¬ (jp : Int) + 1 < (b : Int) := by omega
                            have HU : Hid (upS b (ip + 1) d1 = dj) := by show _ = _; rw [HU0.out, ← HEj.out, shU_end hjl]
                            clear HEj HU0
                            go_wp2
                            go_roundw
                            case rel =>
                              refine ⟨ip + 1, k + 1, dj, by go_num, by go_num, by omega, by omega, by omega, HSj, HPj, ?_, HKj⟩
                              show _ = _
                              rw [← HE.out, HKS.out, HR.out, HDD.out, HU.out]
                              rw [show 5 - (k + 1) = s by have := HKS.out; omega]
                            case measure => simp [intOf]; omega

                · have g3 : ¬ (2 : Int) ≤ (b : Int) - ((ip : Int) + 1) := by omega

                  exfalso
                  omega

          · have hcd : decide (cmpP x y < 0) = false := decide_eq_false hc
            have HL : Hid (ltP dk[ip + 1]! dk[ip]! = false) := by show ltP _ _ = _; rw [HXx.out, HXy.out]; exact hcd
            rw [hcd]
            try simp only [Bool.not_true, Bool.not_false]
            clear hcd hc HXx HXy
            have HE2 : Hid (scanSorted ltP dk b (ip + 2) = scanSorted ltP dk b i) := by show _ = _; rw [← HEi.out, scS_go hlt HL.out]
            clear HEi HL
            go_wp2
            go_roundw
            case rel => exact ⟨ip + 2, by go_num, by omega, by omega, HP1, HE2, HKw⟩
            case measure => simp [intOf]; omega
        · have g1 : ¬ (ip : Int) + 1 < (b : Int) := by omega
          have g6 : (ip : Int) + 1 = (b : Int) := by omega
          have HR : Hid (partialIns ltP a b (s + 1) i dk = (dk, true)) := pI_true (by rw [← HEi.out, scS_end hlt]; omega)
          clear HEi
          go_wp2
          go_quiet (fail)
          go_wp2
          go_ret
          rw [HT.out, ← HE.out, HKS.out, HR.out]
          exact ⟨rfl, HPi.out.kept (Kept.no_drewN _ _) (fun e => e), HKi.out.drewN _⟩
    · have hk' : ¬ (k : Int) < 5 := by omega
      have HE2 : Hid (partialIns ltP a b 5 (a + 1) d = (dk, false)) := by
        show _ = _
        rw [← HE.out, show 5 - k = 0 by omega]
        rfl
      go_wp2
      go_ret
      rw [HT.out, HE2.out]
      exact ⟨rfl, HPk.out, HK.out⟩

end Go.Proofs.Ytpapbleabjpbfab
