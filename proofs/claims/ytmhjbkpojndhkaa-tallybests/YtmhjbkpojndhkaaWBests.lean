import Derived.Test.YtmhjbkpojndhkaaBd
namespace Go.Proofs.Ytmhjbkpojndhkaa
open Go.RowKit
set_option linter.unusedVariables false
set_option linter.unusedSimpArgs false

theorem nm_noteq {w : World} {a : Option Addr} {zs : List Int} (h : Nums .i64 w a zs) {i : Nat} (hi : i < zs.length) : ∃ b off, a = some ⟨b, off, none⟩ ∧ w.cell? ⟨b, off + i, none⟩ = some (.int .i64 (zAt zs i)) := h i hi

set_option maxRecDepth 100000 in
set_option maxHeartbeats 4000000 in
theorem bestsWalk (a : Option Addr) (len cap : Nat) (zs : List Int) (by' : Int) (w : World) (hz : zs.length = len) (hn : len ≤ 17592186043904) (h : Nums .i64 w a zs) :
    Calls Try.prog 4 #[.slice a len cap, .int .i64 by'] w fun e w' => e = .returned (.bool true) ∧ Below w.heap.size w w' := by
  have HZ : Hid (zs.length = len) := hz
  have H1 : Hid (Nums .i64 w a zs) := h
  have HKn : Hid (∀ w : World, Calls Try.prog 9 #[] w fun e w' => e = .returned (.bool true) ∧ Kept No w w') := known_any
  have HLe : Hid (∀ W, Kept No w W → Calls Try.prog 10 #[.slice a len cap] W (LendOut W len zs)) := fun W hk => lend_any a len cap zs W hz hn (h.no hk)
  clear hz h
  rcases Nat.eq_zero_or_pos len with h0 | h0
  · subst h0
    by_cases hlow : by' < 1
    · skip
      obtain ⟨m, hm⟩ : ∃ m : Int, m = 1 := ⟨_, rfl⟩
      have hm1 : 1 ≤ m := by omega
      have HMe : Hid (m = 1) := hm
      clear hm
      go_enter Try.func4, Try.ntmps4
      go_wp2_with (first
        | (go_at_call 9
           refine Calls.mono (HKn.out _) ?_
           rintro e w1 ⟨rfl, hk1⟩
           have HK1 : Hid (Kept No w w1) := hk1
           clear hk1)
        | (go_at_call 10
           obtain ⟨w2, hw2⟩ : ∃ w2, w2 = (w1.alloc (.cells #[.int .i64 1] 3)).alloc (.cells #[.int .i64 0] 3) := ⟨_, rfl⟩
           rw [← hw2]
           have HK2 : Hid (Kept No w w2) := by
             rw [hw2]
             exact (HK1.out.alloc _).alloc _
           have HMb : Hid (Box w2 w1.heap.size 3 #[.int .i64 m]) := by
             rw [hw2, HMe.out]
             exact (Box.new _ _ _).alloc _
           have HCb : Hid (Box w2 (w1.heap.size + 1) 3 #[.int .i64 0]) := by
             have h1 : (w1.alloc (.cells #[.int .i64 1] 3)).heap.size = w1.heap.size + 1 := by simp
             rw [hw2, ← h1]; exact Box.new _ _ _
           clear hw2
           refine Calls.mono (HLe.out w2 HK2.out) ?_
           rintro e w3 ⟨rfl, hg3, hk3⟩
           have HG3 : Hid (Box w3 w2.heap.size 3 ((lent zs).map (Value.int .i64)).toArray) := hg3
           have HK3 : Hid (Kept No w w3) := HK2.out.then hk3
           have HMb3 : Hid (Box w3 w1.heap.size 3 #[.int .i64 m]) := HMb.out.kept hk3 (fun e => e)
           have HCb3 : Hid (Box w3 (w1.heap.size + 1) 3 #[.int .i64 0]) := HCb.out.kept hk3 (fun e => e)
           have hlt2 : w1.heap.size + 1 < w2.heap.size := HCb.out.lt
           have hK1s : w.heap.size ≤ w1.heap.size := HK1.out.size
           clear hg3 hk3 HMb HCb HK2)
        | (go_at_call 18
           refine Calls.mono (bestM_nil _ _ _ w3) ?_
           rintro e w4 ⟨rfl, hw4⟩
           rw [hw4]
           clear hw4))
      go_loopw [11, 12] (fun vb vi wr => vb = .int .i64 0 ∧ vi = .int .i64 1 ∧ Hid (Kept No w3 wr)) (fun _ _ _ => 0)
      case atStart => exact ⟨rfl, rfl, Kept.refl _ _⟩
      case round =>
        obtain ⟨rfl, rfl, HK⟩ := hrel
        have hx0 : ¬ ((1 : Int) < 0) := by omega
        have c0 := (HCb3.out.kept HK.out (fun e => e)).cell 0
        simp only [List.getElem?_toArray, List.getElem?_cons_zero] at c0
        go_wp2
        all_goals go_ret
        all_goals exact ⟨rfl, (HK3.out.then HK.out).below (Nat.le_refl _) (fun _ e => e.elim)⟩
    · skip
      obtain ⟨m, hm⟩ : ∃ m : Int, m = by' := ⟨_, rfl⟩
      have hm1 : 1 ≤ m := by omega
      have HMe : Hid (m = by') := hm
      clear hm
      go_enter Try.func4, Try.ntmps4
      go_wp2_with (first
        | (go_at_call 9
           refine Calls.mono (HKn.out _) ?_
           rintro e w1 ⟨rfl, hk1⟩
           have HK1 : Hid (Kept No w w1) := hk1
           clear hk1)
        | (go_at_call 10
           obtain ⟨w2, hw2⟩ : ∃ w2, w2 = (w1.alloc (.cells #[.int .i64 by'] 3)).alloc (.cells #[.int .i64 0] 3) := ⟨_, rfl⟩
           rw [← hw2]
           have HK2 : Hid (Kept No w w2) := by
             rw [hw2]
             exact (HK1.out.alloc _).alloc _
           have HMb : Hid (Box w2 w1.heap.size 3 #[.int .i64 m]) := by
             rw [hw2, HMe.out]
             exact (Box.new _ _ _).alloc _
           have HCb : Hid (Box w2 (w1.heap.size + 1) 3 #[.int .i64 0]) := by
             have h1 : (w1.alloc (.cells #[.int .i64 by'] 3)).heap.size = w1.heap.size + 1 := by simp
             rw [hw2, ← h1]; exact Box.new _ _ _
           clear hw2
           refine Calls.mono (HLe.out w2 HK2.out) ?_
           rintro e w3 ⟨rfl, hg3, hk3⟩
           have HG3 : Hid (Box w3 w2.heap.size 3 ((lent zs).map (Value.int .i64)).toArray) := hg3
           have HK3 : Hid (Kept No w w3) := HK2.out.then hk3
           have HMb3 : Hid (Box w3 w1.heap.size 3 #[.int .i64 m]) := HMb.out.kept hk3 (fun e => e)
           have HCb3 : Hid (Box w3 (w1.heap.size + 1) 3 #[.int .i64 0]) := HCb.out.kept hk3 (fun e => e)
           have hlt2 : w1.heap.size + 1 < w2.heap.size := HCb.out.lt
           have hK1s : w.heap.size ≤ w1.heap.size := HK1.out.size
           clear hg3 hk3 HMb HCb HK2)
        | (go_at_call 18
           refine Calls.mono (bestM_nil _ _ _ w3) ?_
           rintro e w4 ⟨rfl, hw4⟩
           rw [hw4]
           clear hw4))
      go_loopw [11, 12] (fun vb vi wr => vb = .int .i64 0 ∧ vi = .int .i64 1 ∧ Hid (Kept No w3 wr)) (fun _ _ _ => 0)
      case atStart => exact ⟨rfl, rfl, Kept.refl _ _⟩
      case round =>
        obtain ⟨rfl, rfl, HK⟩ := hrel
        have hx0 : ¬ ((1 : Int) < 0) := by omega
        have c0 := (HCb3.out.kept HK.out (fun e => e)).cell 0
        simp only [List.getElem?_toArray, List.getElem?_cons_zero] at c0
        go_wp2
        all_goals go_ret
        all_goals exact ⟨rfl, (HK3.out.then HK.out).below (Nat.le_refl _) (fun _ e => e.elim)⟩
  · obtain ⟨n, rfl⟩ : ∃ n, len = n + 1 := ⟨len - 1, by omega⟩
    by_cases hlow : by' < 1
    · skip
      obtain ⟨m, hm⟩ : ∃ m : Int, m = 1 := ⟨_, rfl⟩
      have hm1 : 1 ≤ m := by omega
      have HMe : Hid (m = 1) := hm
      clear hm
      have hb0 : ((n : Int) + 1 == 0) = false := by simp; omega
      go_enter Try.func4, Try.ntmps4
      go_wp2_with (first
        | (go_at_call 9
           refine Calls.mono (HKn.out _) ?_
           rintro e w1 ⟨rfl, hk1⟩
           have HK1 : Hid (Kept No w w1) := hk1
           clear hk1)
        | (go_at_call 10
           obtain ⟨w2, hw2⟩ : ∃ w2, w2 = (w1.alloc (.cells #[.int .i64 1] 3)).alloc (.cells #[.int .i64 0] 3) := ⟨_, rfl⟩
           rw [← hw2]
           have HK2 : Hid (Kept No w w2) := by
             rw [hw2]
             exact (HK1.out.alloc _).alloc _
           have HMb : Hid (Box w2 w1.heap.size 3 #[.int .i64 m]) := by
             rw [hw2, HMe.out]
             exact (Box.new _ _ _).alloc _
           have HCb : Hid (Box w2 (w1.heap.size + 1) 3 #[.int .i64 0]) := by
             have h1 : (w1.alloc (.cells #[.int .i64 1] 3)).heap.size = w1.heap.size + 1 := by simp
             rw [hw2, ← h1]; exact Box.new _ _ _
           clear hw2
           refine Calls.mono (HLe.out w2 HK2.out) ?_
           rintro e w3 ⟨rfl, hg3, hk3⟩
           have HG3 : Hid (Box w3 w2.heap.size 3 ((lent zs).map (Value.int .i64)).toArray) := hg3
           have HK3 : Hid (Kept No w w3) := HK2.out.then hk3
           have HMb3 : Hid (Box w3 w1.heap.size 3 #[.int .i64 m]) := HMb.out.kept hk3 (fun e => e)
           have HCb3 : Hid (Box w3 (w1.heap.size + 1) 3 #[.int .i64 0]) := HCb.out.kept hk3 (fun e => e)
           have hlt2 : w1.heap.size + 1 < w2.heap.size := HCb.out.lt
           have hK1s : w.heap.size ≤ w1.heap.size := HK1.out.size
           clear hg3 hk3 HMb HCb HK2)
        | (go_at_call 18
           refine Calls.mono (bestM_any (w1.heap.size + 1) w1.heap.size w2.heap.size n (n + 1 + 67) m zs w3 HZ.out hn (by omega) hm1 (by omega) (by omega) (by omega) HCb3.out HMb3.out (by have := HG3.out.nums (n + 1); rw [show (lent zs).take (n + 1) = zs by rw [← HZ.out]; simp [lent]] at this; exact this)) ?_
           rintro e w4 ⟨rfl, hb4, hk4⟩
           rw [HZ.out] at hb4 ⊢
           rw [Nat.add_sub_cancel]
           have HCb4 : Hid (Box w4 (w1.heap.size + 1) 3 #[.int .i64 (n : Int)]) := by
             rw [show ((n + 1 : Nat) : Int) - 1 = (n : Int) by omega] at hb4
             exact hb4
           have HK4 : Hid (Kept No w w4) := HK3.out.trans hk4 (fun _ e => e) (fun i hi e => by have e : i = w1.heap.size + 1 := e; omega)
           have HMb4 : Hid (Box w4 w1.heap.size 3 #[.int .i64 m]) := HMb3.out.kept hk4 (fun e => by have e : w1.heap.size = w1.heap.size + 1 := e; omega)
           have HG4 : Hid (Box w4 w2.heap.size 3 ((lent zs).map (Value.int .i64)).toArray) := HG3.out.kept hk4 (fun e => by have e : w2.heap.size = w1.heap.size + 1 := e; omega)
           clear hb4 hk4 HG3 HCb3 HMb3 HK3)
        | (go_at_call 12
           refine Calls.mono (back_any w2.heap.size (n + 1) cap _ zs wr HZ.out hn (HG4.out.kept HK.out (fun e => e)) (H1.out.no (HK4.out.then HK.out))) ?_
           rintro e w5 ⟨rfl, hk5⟩
           have HK5 : Hid (Kept No w w5) := (HK4.out.then HK.out).then hk5
           clear hk5))
      go_loopw [11, 12] (fun vb vi wr => ∃ k : Nat, k ≤ n ∧ vb = .int .i64 (bi (ltM m zs) k) ∧ vi = .int .i64 (k + 1) ∧ Hid (Kept No w4 wr)) (fun _ i _ => n + 1 - (intOf i).toNat)
      case atStart => exact ⟨0, by omega, by simp [bi], by go_num, Kept.refl _ _⟩
      case round =>
        obtain ⟨k, hk, rfl, rfl, HK⟩ := hrel
        have hbl := bi_le (ltM m zs) k
        by_cases hlt : k < n
        · have hlt' : (k : Int) + 1 < (n : Int) + 1 := by omega
          obtain ⟨b, off, rfl, e1⟩ := (H1.out.no (HK4.out.then HK.out)) (k + 1) (by rw [HZ.out]; omega)
          obtain ⟨b', off', e, e2⟩ := (H1.out.no (HK4.out.then HK.out)) (bi (ltM m zs) k) (by rw [HZ.out]; omega)
          cases e
          have d0 := (HMb4.out.kept HK.out (fun e => e)).cell 0
          simp only [List.getElem?_toArray, List.getElem?_cons_zero] at d0
          have HY : Hid (∀ b, decide ((zs[bi (ltM m zs) k]?.getD 0).tmod m < (zs[k + 1]?.getD 0).tmod m) = b → (b = true → bi (ltM m zs) (k + 1) = k + 1) ∧ (b = false → bi (ltM m zs) (k + 1) = bi (ltM m zs) k)) := fun b hb => ⟨fun e => bi_yes (by subst e; exact hb), fun e => bi_no (by subst e; exact hb)⟩
          generalize zs[bi (ltM m zs) k]?.getD 0 = s at e2 HY
          generalize zs[k + 1]?.getD 0 = r at e1 HY
          have hbi : ((bi (ltM m zs) k : Nat) : Int) < (n : Int) + 1 := by omega
          have hbi2 : bi (ltM m zs) k < n + 1 := by omega
          generalize bi (ltM m zs) k = bk at e2 HY hbi hbi2 hbl ⊢
          have hm0 : ¬ m = 0 := by omega
          have hmb : (m == 0) = false := by simpa using hm0
          by_cases hb : s.tmod m < r.tmod m
          · have HU : Hid (bi (ltM m zs) (k + 1) = k + 1) := (HY.out true (decide_eq_true hb)).1 rfl
            clear HY hbl
            go_wp2
            go_quiet (fail)
            go_wp2
            go_roundw
            case rel => exact ⟨k + 1, by omega, by rw [HU.out]; go_num, by go_num, HK.out.drewN _⟩
            case measure => simp [intOf]; omega
          · have HU : Hid (bi (ltM m zs) (k + 1) = bk) := (HY.out false (decide_eq_false hb)).2 rfl
            clear HY hbl
            go_wp2
            go_quiet (fail)
            go_wp2
            go_roundw
            case rel => exact ⟨k + 1, by omega, by rw [HU.out], by go_num, HK.out.drewN _⟩
            case measure => simp [intOf]; omega
        · obtain rfl : k = n := by omega
          have hlt' : ¬ (k : Int) + 1 < (k : Int) + 1 := by omega
          obtain ⟨b, off, rfl, e2⟩ := (H1.out.no (HK4.out.then HK.out)) (bi (ltM m zs) k) (by rw [HZ.out]; omega)
          have c0 := (HCb4.out.kept HK.out (fun e => e)).cell 0
          simp only [List.getElem?_toArray, List.getElem?_cons_zero] at c0
          have HBk : Hid (∀ W, Kept No w W → Box W w2.heap.size 3 ((lent zs).map (Value.int .i64)).toArray → Calls Try.prog 12 #[.slice (some ⟨w2.heap.size, 0, none⟩) (k + 1) (k + 1 + 67), .slice (some ⟨b, off, none⟩) (k + 1) cap] W fun e w' => e = .returned (.bool true) ∧ Kept No W w') := fun W hk hb => back_any w2.heap.size (k + 1) cap _ zs W HZ.out hn hb (H1.out.no hk)
          have hbi : ((bi (ltM m zs) k : Nat) : Int) < (k : Int) + 1 := by omega
          have hbi2 : bi (ltM m zs) k < k + 1 := by omega
          change wr.cell? _ = some (.int .i64 (zAt zs (bi (ltM m zs) k))) at e2
          generalize zAt zs (bi (ltM m zs) k) = s at e2 ⊢
          generalize bi (ltM m zs) k = bk at e2 hbi hbi2 hbl ⊢
          clear hbl
          go_wp2_with (go_at_call 12
                       refine Calls.mono (HBk.out wr (HK4.out.then HK.out) (HG4.out.kept HK.out (fun e => e))) ?_
                       rintro e w5 ⟨rfl, hk5⟩
                       have HK5 : Hid (Kept No w w5) := (HK4.out.then HK.out).then hk5
                       clear hk5)
          all_goals go_ret
          all_goals exact ⟨rfl, HK5.out.below (Nat.le_refl _) (fun _ e => e.elim)⟩
    · skip
      obtain ⟨m, hm⟩ : ∃ m : Int, m = by' := ⟨_, rfl⟩
      have hm1 : 1 ≤ m := by omega
      have HMe : Hid (m = by') := hm
      clear hm
      have hb0 : ((n : Int) + 1 == 0) = false := by simp; omega
      go_enter Try.func4, Try.ntmps4
      go_wp2_with (first
        | (go_at_call 9
           refine Calls.mono (HKn.out _) ?_
           rintro e w1 ⟨rfl, hk1⟩
           have HK1 : Hid (Kept No w w1) := hk1
           clear hk1)
        | (go_at_call 10
           obtain ⟨w2, hw2⟩ : ∃ w2, w2 = (w1.alloc (.cells #[.int .i64 by'] 3)).alloc (.cells #[.int .i64 0] 3) := ⟨_, rfl⟩
           rw [← hw2]
           have HK2 : Hid (Kept No w w2) := by
             rw [hw2]
             exact (HK1.out.alloc _).alloc _
           have HMb : Hid (Box w2 w1.heap.size 3 #[.int .i64 m]) := by
             rw [hw2, HMe.out]
             exact (Box.new _ _ _).alloc _
           have HCb : Hid (Box w2 (w1.heap.size + 1) 3 #[.int .i64 0]) := by
             have h1 : (w1.alloc (.cells #[.int .i64 by'] 3)).heap.size = w1.heap.size + 1 := by simp
             rw [hw2, ← h1]; exact Box.new _ _ _
           clear hw2
           refine Calls.mono (HLe.out w2 HK2.out) ?_
           rintro e w3 ⟨rfl, hg3, hk3⟩
           have HG3 : Hid (Box w3 w2.heap.size 3 ((lent zs).map (Value.int .i64)).toArray) := hg3
           have HK3 : Hid (Kept No w w3) := HK2.out.then hk3
           have HMb3 : Hid (Box w3 w1.heap.size 3 #[.int .i64 m]) := HMb.out.kept hk3 (fun e => e)
           have HCb3 : Hid (Box w3 (w1.heap.size + 1) 3 #[.int .i64 0]) := HCb.out.kept hk3 (fun e => e)
           have hlt2 : w1.heap.size + 1 < w2.heap.size := HCb.out.lt
           have hK1s : w.heap.size ≤ w1.heap.size := HK1.out.size
           clear hg3 hk3 HMb HCb HK2)
        | (go_at_call 18
           refine Calls.mono (bestM_any (w1.heap.size + 1) w1.heap.size w2.heap.size n (n + 1 + 67) m zs w3 HZ.out hn (by omega) hm1 (by omega) (by omega) (by omega) HCb3.out HMb3.out (by have := HG3.out.nums (n + 1); rw [show (lent zs).take (n + 1) = zs by rw [← HZ.out]; simp [lent]] at this; exact this)) ?_
           rintro e w4 ⟨rfl, hb4, hk4⟩
           rw [HZ.out] at hb4 ⊢
           rw [Nat.add_sub_cancel]
           have HCb4 : Hid (Box w4 (w1.heap.size + 1) 3 #[.int .i64 (n : Int)]) := by
             rw [show ((n + 1 : Nat) : Int) - 1 = (n : Int) by omega] at hb4
             exact hb4
           have HK4 : Hid (Kept No w w4) := HK3.out.trans hk4 (fun _ e => e) (fun i hi e => by have e : i = w1.heap.size + 1 := e; omega)
           have HMb4 : Hid (Box w4 w1.heap.size 3 #[.int .i64 m]) := HMb3.out.kept hk4 (fun e => by have e : w1.heap.size = w1.heap.size + 1 := e; omega)
           have HG4 : Hid (Box w4 w2.heap.size 3 ((lent zs).map (Value.int .i64)).toArray) := HG3.out.kept hk4 (fun e => by have e : w2.heap.size = w1.heap.size + 1 := e; omega)
           clear hb4 hk4 HG3 HCb3 HMb3 HK3)
        | (go_at_call 12
           refine Calls.mono (back_any w2.heap.size (n + 1) cap _ zs wr HZ.out hn (HG4.out.kept HK.out (fun e => e)) (H1.out.no (HK4.out.then HK.out))) ?_
           rintro e w5 ⟨rfl, hk5⟩
           have HK5 : Hid (Kept No w w5) := (HK4.out.then HK.out).then hk5
           clear hk5))
      go_loopw [11, 12] (fun vb vi wr => ∃ k : Nat, k ≤ n ∧ vb = .int .i64 (bi (ltM m zs) k) ∧ vi = .int .i64 (k + 1) ∧ Hid (Kept No w4 wr)) (fun _ i _ => n + 1 - (intOf i).toNat)
      case atStart => exact ⟨0, by omega, by simp [bi], by go_num, Kept.refl _ _⟩
      case round =>
        obtain ⟨k, hk, rfl, rfl, HK⟩ := hrel
        have hbl := bi_le (ltM m zs) k
        by_cases hlt : k < n
        · have hlt' : (k : Int) + 1 < (n : Int) + 1 := by omega
          obtain ⟨b, off, rfl, e1⟩ := (H1.out.no (HK4.out.then HK.out)) (k + 1) (by rw [HZ.out]; omega)
          obtain ⟨b', off', e, e2⟩ := (H1.out.no (HK4.out.then HK.out)) (bi (ltM m zs) k) (by rw [HZ.out]; omega)
          cases e
          have d0 := (HMb4.out.kept HK.out (fun e => e)).cell 0
          simp only [List.getElem?_toArray, List.getElem?_cons_zero] at d0
          have HY : Hid (∀ b, decide ((zs[bi (ltM m zs) k]?.getD 0).tmod m < (zs[k + 1]?.getD 0).tmod m) = b → (b = true → bi (ltM m zs) (k + 1) = k + 1) ∧ (b = false → bi (ltM m zs) (k + 1) = bi (ltM m zs) k)) := fun b hb => ⟨fun e => bi_yes (by subst e; exact hb), fun e => bi_no (by subst e; exact hb)⟩
          generalize zs[bi (ltM m zs) k]?.getD 0 = s at e2 HY
          generalize zs[k + 1]?.getD 0 = r at e1 HY
          have hbi : ((bi (ltM m zs) k : Nat) : Int) < (n : Int) + 1 := by omega
          have hbi2 : bi (ltM m zs) k < n + 1 := by omega
          generalize bi (ltM m zs) k = bk at e2 HY hbi hbi2 hbl ⊢
          have hm0 : ¬ m = 0 := by omega
          have hmb : (m == 0) = false := by simpa using hm0
          by_cases hb : s.tmod m < r.tmod m
          · have HU : Hid (bi (ltM m zs) (k + 1) = k + 1) := (HY.out true (decide_eq_true hb)).1 rfl
            clear HY hbl
            go_wp2
            go_quiet (fail)
            go_wp2
            go_roundw
            case rel => exact ⟨k + 1, by omega, by rw [HU.out]; go_num, by go_num, HK.out.drewN _⟩
            case measure => simp [intOf]; omega
          · have HU : Hid (bi (ltM m zs) (k + 1) = bk) := (HY.out false (decide_eq_false hb)).2 rfl
            clear HY hbl
            go_wp2
            go_quiet (fail)
            go_wp2
            go_roundw
            case rel => exact ⟨k + 1, by omega, by rw [HU.out], by go_num, HK.out.drewN _⟩
            case measure => simp [intOf]; omega
        · obtain rfl : k = n := by omega
          have hlt' : ¬ (k : Int) + 1 < (k : Int) + 1 := by omega
          obtain ⟨b, off, rfl, e2⟩ := (H1.out.no (HK4.out.then HK.out)) (bi (ltM m zs) k) (by rw [HZ.out]; omega)
          have c0 := (HCb4.out.kept HK.out (fun e => e)).cell 0
          simp only [List.getElem?_toArray, List.getElem?_cons_zero] at c0
          have HBk : Hid (∀ W, Kept No w W → Box W w2.heap.size 3 ((lent zs).map (Value.int .i64)).toArray → Calls Try.prog 12 #[.slice (some ⟨w2.heap.size, 0, none⟩) (k + 1) (k + 1 + 67), .slice (some ⟨b, off, none⟩) (k + 1) cap] W fun e w' => e = .returned (.bool true) ∧ Kept No W w') := fun W hk hb => back_any w2.heap.size (k + 1) cap _ zs W HZ.out hn hb (H1.out.no hk)
          have hbi : ((bi (ltM m zs) k : Nat) : Int) < (k : Int) + 1 := by omega
          have hbi2 : bi (ltM m zs) k < k + 1 := by omega
          change wr.cell? _ = some (.int .i64 (zAt zs (bi (ltM m zs) k))) at e2
          generalize zAt zs (bi (ltM m zs) k) = s at e2 ⊢
          generalize bi (ltM m zs) k = bk at e2 hbi hbi2 hbl ⊢
          clear hbl
          go_wp2_with (go_at_call 12
                       refine Calls.mono (HBk.out wr (HK4.out.then HK.out) (HG4.out.kept HK.out (fun e => e))) ?_
                       rintro e w5 ⟨rfl, hk5⟩
                       have HK5 : Hid (Kept No w w5) := (HK4.out.then HK.out).then hk5
                       clear hk5)
          all_goals go_ret
          all_goals exact ⟨rfl, HK5.out.below (Nat.le_refl _) (fun _ e => e.elim)⟩

end Go.Proofs.Ytmhjbkpojndhkaa
