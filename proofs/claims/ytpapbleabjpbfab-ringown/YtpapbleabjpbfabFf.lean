import Derived.Test.YtpapbleabjpbfabFe
namespace Go.Proofs.Ytpapbleabjpbfab
open Go.RowKit
set_option linter.unusedVariables false


theorem hb_succ {hi f k : Nat} {d : Array (Int × Int)} : Sort.heapBuild ltP hi f (k + 1) d = Sort.heapBuild ltP hi f k (Sort.siftDown ltP hi f k d) := rfl
theorem hp_succ {f k : Nat} {d : Array (Int × Int)} : Sort.heapPop ltP f (k + 1) d = Sort.heapPop ltP f k (Sort.siftDown ltP k f 0 (Sort.swp d f (f + k))) := rfl
theorem sd_size {hi f : Nat} : ∀ (m r : Nat) (d : Array (Int × Int)), hi - r ≤ m → (Sort.siftDown ltP hi f r d).size = d.size
  | 0, r, d, h => by rw [sd_end (by omega)]
  | m + 1, r, d, h => by
    by_cases h1 : 2 * r + 1 ≥ hi
    · rw [sd_end h1]
    · cases h2 : ltP d[f + r]! d[f + pickS hi f r d]! with
      | true =>
        rw [sd_go h1 h2, sd_size m _ _ (by unfold pickS; split <;> omega), size_swp']
      | false => rw [sd_stop h1 h2]

theorem sd_after (g cap j a q n : Nat) (dq : Array (Int × Int)) (sp : List Value) (w wq : World) {x y : Int × Int} (hs : dq.size = n) (hq : q = a + j) (hqn : q < n) (hm : n ≤ 4096) (hp : Pts wq g dq sp) (hx : dq[a]! = x) (hy : dq[q]! = y) (hk : Kept (Only g) w wq) :
    Calls Try.prog 77 #[.slice (some ⟨g, 0, none⟩) n cap, .int .i64 0, .int .i64 j, .int .i64 a, cmpV] ((((wq.setCell ⟨g, a * 2, none⟩ (.int .i64 y.1)).setCell ⟨g, a * 2 + 1, none⟩ (.int .i64 y.2)).setCell ⟨g, q * 2, none⟩ (.int .i64 x.1)).setCell ⟨g, q * 2 + 1, none⟩ (.int .i64 x.2)).drew
      fun e w' => e = .returned (.tuple #[]) ∧ Pts w' g (Sort.siftDown ltP j a 0 (Sort.swp dq a q)) sp ∧ Kept (Only g) w w' := by
  have hp' := hp.swap a q (by omega) (by omega) hx hy
  have hk' := (hk.swap a q (.int .i64 y.1) (.int .i64 y.2) (.int .i64 x.1) (.int .i64 x.2)).drew
  refine Calls.mono (siftDown_any g cap 0 j a n (Sort.swp dq a q) sp _ (by rw [size_swp']; exact hs) (by omega) (by omega) hm hp') ?_
  rintro e w' ⟨he, hpp, hkk⟩
  exact ⟨he, hpp, hk'.then hkk⟩

open Go.Sort in
set_option maxRecDepth 100000 in
set_option maxHeartbeats 4000000 in
theorem heapSort_any (g cap a l b n : Nat) (d : Array (Int × Int)) (sp : List Value) (w : World) (hn : d.size = n) (hl : 2 ≤ l) (hbl : b = a + l) (hb : b ≤ n) (hm : n ≤ 4096) (hp : Pts w g d sp) :
    Calls Try.prog 70 #[.slice (some ⟨g, 0, none⟩) n cap, .int .i64 a, .int .i64 b, cmpV] w fun e w' => e = .returned (.tuple #[]) ∧ Pts w' g (heapSort ltP d a b) sp ∧ Kept (Only g) w w' := by
  have HP : Hid (Pts w g d sp) := hp
  have HN : Hid (d.size = n) := hn
  clear hp hn
  have HT : Hid (heapSort ltP d a b = heapPop ltP a l (heapBuild ltP l a ((l - 1) / 2 + 1) d)) := by
    show _ = _
    rw [hbl]
    unfold heapSort
    rw [Nat.add_sub_cancel_left]
  have E0 : Hid (((b : Int) - (a : Int)) = (l : Int)) := by show _ = _; omega
  have hal : a + l ≤ n := by omega
  have hab : a + 2 ≤ b := by omega
  have HBL : Hid (b = a + l) := hbl
  clear hbl
  have E1 : Hid (((l : Int) - 1) / 2 = (((l - 1) / 2 + 1 : Nat) : Int) - 1) := by show _ = _; omega
  have hk0 : (l - 1) / 2 + 1 ≤ l := by omega
  go_enter Try.func70, Try.ntmps70
  go_wp2
  rw [E0.out]
  rw [E1.out]
  generalize (l - 1) / 2 + 1 = k0 at HT hk0 ⊢
  clear E0 E1
  go_loopw [11] (fun vi wr => ∃ (k : Nat) (dk : Array (Int × Int)), vi = .int .i64 ((k : Int) - 1) ∧ k ≤ k0 ∧ Hid (dk.size = n) ∧ Hid (Pts wr g dk sp) ∧ Hid (heapBuild ltP l a k dk = heapBuild ltP l a k0 d) ∧ Hid (Kept (Only g) w wr)) (fun i _ => (intOf i + 1).toNat)
  case atStart => exact ⟨k0, d, rfl, Nat.le_refl _, HN, HP, rfl, Kept.refl _ _⟩
  case round =>
    obtain ⟨k, dk, rfl, hk, HS, HPk, HE, HK⟩ := hrel
    clear HP
    by_cases hz : 0 < k
    · obtain ⟨j, rfl⟩ : ∃ j, k = j + 1 := ⟨k - 1, by omega⟩
      rw [show (((j + 1 : Nat) : Int) - 1) = (j : Int) by omega]
      have H1 : Hid _ := siftDown_any g cap j l a n dk sp wr HS.out (by omega) hal hm HPk.out
      go_wp2_with fail
      refine Calls.mono H1.out ?_
      rintro e w1 ⟨rfl, hp1, hk1⟩
      have HP1 : Hid _ := hp1
      have HK1 : Hid (Kept (Only g) w w1) := HK.out.then hk1
      clear hp1 hk1 H1 HPk HK
      go_wp2
      go_roundw
      case rel =>
        refine ⟨j, siftDown ltP l a j dk, rfl, by omega, ?_, HP1, ?_, HK1⟩
        · show _ = _; rw [sd_size l j dk (by omega)]; exact HS.out
        · show _ = _; rw [← HE.out, hb_succ]
      case measure => simp [intOf]
    · obtain rfl : k = 0 := by omega
      have hneg : ¬ (((0 : Nat) : Int) - 1 ≥ 0) := by omega
      have HD : Hid (heapBuild ltP l a k0 d = dk) := HE.out.symm
      go_wp2
      go_loopw [12] (fun vi wq => ∃ (k : Nat) (dq : Array (Int × Int)), vi = .int .i64 ((k : Int) - 1) ∧ k ≤ l ∧ Hid (dq.size = n) ∧ Hid (Pts wq g dq sp) ∧ Hid (heapPop ltP a k dq = heapPop ltP a l dk) ∧ Hid (Kept (Only g) w wq)) (fun i _ => (intOf i + 1).toNat)
      case atStart => exact ⟨l, dk, rfl, Nat.le_refl _, HS, HPk, rfl, HK⟩
      case round =>
        obtain ⟨k, dq, rfl, hk2, HSq, HPq, HEq, HKq⟩ := hrel
        clear HPk HK hneg
        by_cases hz2 : 0 < k
        · obtain ⟨j, rfl⟩ : ∃ j, k = j + 1 := ⟨k - 1, by omega⟩
          rw [show (((j + 1 : Nat) : Int) - 1) = (j : Int) by omega]
          obtain ⟨q, hq⟩ : ∃ q, q = a + j := ⟨_, rfl⟩
          have HQ : Hid (q = a + j) := hq
          have hqn : q < n := by omega
          have han : a < n := by omega
          have haq : a ≤ q := by omega
          have hwq : IntKind.i64.wrap ((a : Int) + (j : Int)) = (q : Int) := by rw [IntKind.wrap_i64]; omega
          have i1 : (q : Int) < (n : Int) := by omega
          have i2 : (a : Int) < (n : Int) := by omega
          have i3 : (0 : Int) ≤ (q : Int) := by omega
          have i4 : (0 : Int) ≤ (a : Int) := by omega
          have hsum : (a : Int) + (j : Int) = (q : Int) := by omega
          clear hq
          obtain ⟨x, hx⟩ : ∃ x, dq[a]! = x := ⟨_, rfl⟩
          obtain ⟨y, hy⟩ : ∃ y, dq[q]! = y := ⟨_, rfl⟩
          have HXx : Hid (dq[a]! = x) := hx
          have HXy : Hid (dq[q]! = y) := hy
          clear hx hy
          have sa := HPq.out.cell (a) (by have := HSq.out; omega)
          have sb := HPq.out.cell (q) (by have := HSq.out; omega)
          rw [HXx.out] at sa
          rw [HXy.out] at sb
          obtain ⟨sa1, sa2⟩ := sa
          obtain ⟨sb1, sb2⟩ := sb
          have f1 := HPq.out.frozen ((a) * 2)
          have f2 := HPq.out.frozen ((a) * 2 + 1)
          have f3 := HPq.out.frozen ((q) * 2)
          have f4 := HPq.out.frozen ((q) * 2 + 1)

          by_cases hj0 : q = a
          · subst hj0
            have hj : j = 0 := by omega
            subst hj
            have hxy : x = y := HXx.out.symm.trans HXy.out
            subst hxy
            go_wp2
            go_big_region
            all_goals go_wp2_with fail
            refine Calls.mono (sd_after g cap 0 q q n dq sp w wr HSq.out (by omega) hqn hm HPq.out HXx.out HXy.out HKq.out) ?_
            rintro e w1 ⟨rfl, hp1, hk1⟩
            have HP1 : Hid _ := hp1
            have HK1 : Hid _ := hk1
            clear hp1 hk1 HPq HKq sa1 sa2 sb1 sb2 f1 f2 f3 f4
            go_wp2
            go_roundw
            case rel =>
              refine ⟨0, siftDown ltP 0 q 0 (swp dq q q), by go_num, by omega, ?_, HP1, ?_, HK1⟩
              · show _ = _; rw [sd_size n _ _ (by omega), size_swp']; exact HSq.out
              · show _ = _; rw [← HEq.out, hp_succ]; rfl
            case measure => simp [intOf]
          · have hne : a ≠ q := fun e => hj0 e.symm
            go_wp2
            go_big_region
            all_goals go_wp2_with fail
            refine Calls.mono (sd_after g cap j a q n dq sp w wr HSq.out (by omega) hqn hm HPq.out HXx.out HXy.out HKq.out) ?_
            rintro e w1 ⟨rfl, hp1, hk1⟩
            have HP1 : Hid _ := hp1
            have HK1 : Hid _ := hk1
            clear hp1 hk1 HPq HKq sa1 sa2 sb1 sb2 f1 f2 f3 f4
            go_wp2
            go_roundw
            case rel =>
              refine ⟨j, siftDown ltP j a 0 (swp dq a q), by go_num, by omega, ?_, HP1, ?_, HK1⟩
              · show _ = _; rw [sd_size n _ _ (by omega), size_swp']; exact HSq.out
              · show _ = _; rw [← HEq.out, hp_succ]; rw [HQ.out]
            case measure => simp [intOf]
        · obtain rfl : k = 0 := by omega
          have hneg : ¬ (((0 : Nat) : Int) - 1 ≥ 0) := by omega
          go_wp2
          go_end0
          refine ⟨rfl, ?_, HKq.out⟩
          rw [HT.out, HD.out, ← HEq.out]
          exact HPq.out

end Go.Proofs.Ytpapbleabjpbfab
