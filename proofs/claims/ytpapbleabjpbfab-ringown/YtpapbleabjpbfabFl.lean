import Derived.Test.YtpapbleabjpbfabFg
namespace Go.Proofs.Ytpapbleabjpbfab
open Go.RowKit
set_option linter.unusedVariables false
set_option linter.unusedSimpArgs false


theorem insI_lt {a : Nat} {d : Array (Int × Int)} {j : Nat} (h0 : a < j + 1) (h : ltP d[j + 1]! d[j]! = true) : Sort.insInner ltP a (j + 1) d = Sort.insInner ltP a j (Sort.swp d (j + 1) j) := by
  rw [Sort.insInner, if_pos (by rw [h]; simp; omega)]
theorem insI_ge {a : Nat} {d : Array (Int × Int)} {j : Nat} (h : ltP d[j + 1]! d[j]! = false) : Sort.insInner ltP a (j + 1) d = d := by
  rw [Sort.insInner, if_neg (by rw [h]; simp)]
theorem insI_end {a : Nat} {d : Array (Int × Int)} : Sort.insInner ltP a a d = d := by
  cases a with
  | zero => rfl
  | succ a => rw [Sort.insInner, if_neg (by simp)]

open Go.Sort in
set_option maxRecDepth 100000 in
set_option maxHeartbeats 4000000 in
theorem insertionG_any (g cap a b n : Nat) (d : Array (Int × Int)) (sp : List Value) (w : World) (hn : d.size = n) (hab : a ≤ b) (hb : b ≤ n) (hm : n ≤ 4096) (hp : Pts w g d sp) :
    Calls Try.prog 69 #[.slice (some ⟨g, 0, none⟩) n cap, .int .i64 a, .int .i64 b, cmpV] w fun e w' => e = .returned (.tuple #[]) ∧ Pts w' g (insertionSort ltP d a b) sp ∧ Kept (Only g) w w' := by
  have HP : Hid (Pts w g d sp) := hp
  have HN : Hid (d.size = n) := hn
  clear hp hn
  have hmix : Try.prog.follows .mixedOrders = true := by kernel_rfl
  have hwa : (a : Int) + 1 ≤ 4097 := by omega
  go_enter Try.func69, Try.ntmps69
  go_wp2
  go_loopw [8] (fun vi wr => ∃ (i : Nat) (dk : Array (Int × Int)), vi = .int .i64 i ∧ a + 1 ≤ i ∧ i ≤ b + 1 ∧ Hid (dk.size = n) ∧ Hid (Pts wr g dk sp) ∧ Hid (insOuter ltP a b i dk = insOuter ltP a b (a + 1) d) ∧ Hid (Kept (Only g) w wr)) (fun i _ => b - (intOf i).toNat)
  case atStart => exact ⟨a + 1, d, by go_num, Nat.le_refl _, by omega, HN, HP, rfl, Kept.refl _ _⟩
  case round =>
    obtain ⟨i, dk, rfl, hi1, hin, HS, HPk, HE, HK⟩ := hrel
    clear HP
    by_cases hlt : i < b
    · have hlt' : (i : Int) < (b : Int) := by omega
      go_wp2
      go_loopw [9] (fun vj wr => ∃ (j : Nat) (dj : Array (Int × Int)), vj = .int .i64 j ∧ a ≤ j ∧ j ≤ i ∧ Hid (dj.size = n) ∧ Hid (Pts wr g dj sp) ∧ Hid (insInner ltP a j dj = insInner ltP a i dk) ∧ Hid (Kept (Only g) w wr)) (fun j _ => (intOf j).toNat)
      case atStart => exact ⟨i, dk, rfl, by omega, Nat.le_refl _, HS, HPk, rfl, HK⟩
      case round =>
        obtain ⟨j, dj, rfl, haj, hji, HSj, HPj, HEj, HKj⟩ := hrel
        clear HPk HK
        by_cases hj0 : a < j
        · obtain ⟨jp, rfl⟩ : ∃ jp, j = jp + 1 := ⟨j - 1, by omega⟩
          have hwr : IntKind.i64.wrap (jp : Int) = (jp : Int) := by rw [IntKind.wrap_i64]; omega
          have q0 : (a : Int) < (jp : Int) + 1 := by omega
          have ca := HPj.out.cell (jp + 1) (by have := HSj.out; omega)
          have cb := HPj.out.cell (jp) (by have := HSj.out; omega)
          obtain ⟨x, hx⟩ : ∃ x, dj[jp + 1]! = x := ⟨_, rfl⟩
          obtain ⟨y, hy⟩ : ∃ y, dj[jp]! = y := ⟨_, rfl⟩
          rw [hx] at ca
          rw [hy] at cb
          have a0 := fun dd os => cell_regrown ca.1 dd os
          have a1 := fun dd os => cell_regrown ca.2 dd os
          have b0 := fun dd os => cell_regrown cb.1 dd os
          have b1 := fun dd os => cell_regrown cb.2 dd os
          have q1 : (jp : Int) + 1 < (n : Int) := by omega
          have q2 : (jp : Int) < (n : Int) := by omega
          have q3 : (0 : Int) ≤ (jp : Int) + 1 := by omega
          have q4 : (0 : Int) ≤ (jp : Int) := by omega
          have HXx : Hid (dj[jp + 1]! = x) := hx
          have HXy : Hid (dj[jp]! = y) := hy
          have hmeth := meth112
          clear hx hy ca cb
          go_wp2
          refine wp_region_quiet_below hmix (by kernel_rfl) ?_
          repeat (quiet_step (exact Calls.regrown_of (compareB x y _)))
          refine wpQuiet_nil ?_
          intro _ hw'
          obtain ⟨⟨nq, osq⟩, hw''⟩ := hw'
          rw [hw'']
          simp only []
          have HP1 : Hid (Pts (Sort.grow (redrawn wr nq) osq) g dj sp) := HPj.out.kept (kept_regrown _ _ _) (fun e => e)
          have HKw : Hid (Kept (Only g) w (Sort.grow (redrawn wr nq) osq)) := HKj.out.then (kept_regrown _ _ _).of_no

          clear hw'' a0 a1 b0 b1 hmeth
          generalize Sort.grow (redrawn wr nq) osq = w1 at HP1 HKw 

          clear HPj HKj
          by_cases hc : cmpP x y < 0
          · have hcd : decide (cmpP x y < 0) = true := decide_eq_true hc
            have HL : Hid (ltP dj[jp + 1]! dj[jp]! = true) := by show ltP _ _ = _; rw [HXx.out, HXy.out]; exact hcd
            rw [hcd]
            clear hcd hc
            have sa := HP1.out.cell (jp + 1) (by have := HSj.out; omega)
            have sb := HP1.out.cell (jp) (by have := HSj.out; omega)
            rw [HXx.out] at sa
            rw [HXy.out] at sb
            obtain ⟨sa1, sa2⟩ := sa
            obtain ⟨sb1, sb2⟩ := sb
            have f1 := HP1.out.frozen ((jp + 1) * 2)
            have f2 := HP1.out.frozen ((jp + 1) * 2 + 1)
            have f3 := HP1.out.frozen ((jp) * 2)
            have f4 := HP1.out.frozen ((jp) * 2 + 1)

            go_wp2
            go_big_region
            all_goals go_wp2
            go_roundw
            case rel =>
              refine ⟨jp, swp dj (jp + 1) jp, by go_num, by omega, by omega, ?_, HP1.out.swap (jp + 1) jp (by have := HSj.out; omega) (by have := HSj.out; omega) HXx.out HXy.out, ?_, (HKw.out.swap (jp + 1) jp _ _ _ _).drew⟩
              · show _ = _; rw [size_swp']; exact HSj.out
              · show _ = _; rw [← HEj.out, insI_lt (by omega) HL.out]
            case measure => simp [intOf]
          · have hcd : decide (cmpP x y < 0) = false := decide_eq_false hc
            have HL : Hid (ltP dj[jp + 1]! dj[jp]! = false) := by show ltP _ _ = _; rw [HXx.out, HXy.out]; exact hcd
            rw [hcd]
            clear hcd hc
            go_wp2
            go_roundw
            case rel =>
              refine ⟨i + 1, dj, by go_num, by omega, by omega, HSj, HP1, ?_, HKw⟩
              show insOuter _ _ _ _ _ = _
              rw [← HE.out, insOuter_step hlt, ← HEj.out, insI_ge HL.out]
            case measure => simp [intOf]; omega
        · obtain rfl : j = a := by omega
          have q0 : ¬ (j : Int) < (j : Int) := by omega
          have HE2 : Hid (insOuter ltP j b (i + 1) dj = insOuter ltP j b (j + 1) d) := by
            show insOuter _ _ _ _ _ = _
            rw [← HE.out, insOuter_step hlt, ← HEj.out, insI_end]
          clear HE HEj
          go_wp2
          go_quiet (fail)
          go_wp2
          go_roundw
          case rel => exact ⟨i + 1, dj, by go_num, by omega, by omega, HSj, HPj.out.kept (Kept.no_drewN _ _) (fun e => e), HE2, HKj.out.drewN _⟩
          case measure => simp [intOf]; omega
    · have hlt' : ¬ (i : Int) < (b : Int) := by omega
      go_wp2
      go_end0
      refine ⟨rfl, ?_, HK.out⟩
      unfold insertionSort
      have := HE.out
      rw [insOuter, if_neg (by omega)] at this
      rw [← this]
      exact HPk.out

end Go.Proofs.Ytpapbleabjpbfab
