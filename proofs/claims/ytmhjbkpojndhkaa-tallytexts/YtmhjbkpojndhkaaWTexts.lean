import Derived.Test.YtmhjbkpojndhkaaBa
namespace Go.Proofs.Ytmhjbkpojndhkaa
open Go.RowKit
set_option linter.unusedVariables false
set_option linter.unusedSimpArgs false

set_option maxRecDepth 100000 in
set_option maxHeartbeats 2000000 in
theorem textsWalk (a : Option Addr) (len cap : Nat) (ss : List ByteArray) (w : World) (hs : ss.length = len) (hlc : len ≤ cap) (hm : cap ≤ 9223372036854775807) (h : Strs w a ss) :
    Calls Try.prog 5 #[.slice a len cap] w fun e w' => e = .returned (.bool true) ∧ Below w.heap.size w w' := by
  have HS : Hid (ss.length = len) := hs
  have H1 : Hid (Strs w a ss) := h
  have HKn : Hid (∀ w : World, Calls Try.prog 9 #[] w fun e w' => e = .returned (.bool true) ∧ Kept No w w') := known_any
  clear hs h
  rcases Nat.eq_zero_or_pos len with h0 | h0
  · subst h0
    go_enter Try.func5, Try.ntmps5
    go_wp2_with (first
      | (go_at_call 9
         refine Calls.mono (HKn.out _) ?_
         rintro e w1 ⟨rfl, hk1⟩
         have HK1 : Hid (Kept No w w1) := hk1
         clear hk1)
      | (go_at_call 19
         refine Calls.mono (bestS_nil cap a w1) ?_
         rintro e w2 ⟨rfl, hw2⟩
         subst hw2))
    go_loopw [5, 6] (fun vb vi wr => vb = .int .i64 0 ∧ vi = .int .i64 1 ∧ Hid (Kept No w wr)) (fun _ _ _ => 0)
    case atStart => exact ⟨rfl, rfl, HK1⟩
    case round =>
      obtain ⟨rfl, rfl, HK⟩ := hrel
      have hx0 : ¬ ((1 : Int) < 0) := by omega
      go_wp2
      all_goals go_ret
      all_goals exact ⟨rfl, HK.out.below (Nat.le_refl _) (fun _ e => e.elim)⟩
  · obtain ⟨n, rfl⟩ : ∃ n, len = n + 1 := ⟨len - 1, by omega⟩
    obtain ⟨b, off, rfl, _⟩ := H1.out 0 (by rw [HS.out]; omega)
    have HC : Hid (∀ wr, Kept No w wr → ∀ i, i < n + 1 → wr.cell? ⟨b, off + i, none⟩ = some (.string (sAt ss i))) := fun wr hk i hi => by
      obtain ⟨b', o', e, hc⟩ := (H1.out.no hk) i (by rw [HS.out]; exact hi)
      cases e; exact hc
    have HBs : Hid (∀ W, Kept No w W → Calls Try.prog 19 #[.func (.func 20) #[] #[], .slice (some ⟨b, off, none⟩) (n + 1) cap] W (BestOutS W ss)) := fun W hk => bestS_any _ n cap ss W HS.out (by omega) hlc hm (H1.out.no hk)
    have hb0 : ((n : Int) + 1 == 0) = false := by simp; omega
    go_enter Try.func5, Try.ntmps5
    go_wp2_with (first
      | (go_at_call 9
         refine Calls.mono (HKn.out _) ?_
         rintro e w1 ⟨rfl, hk1⟩
         have HK1 : Hid (Kept No w w1) := hk1
         clear hk1)
      | (go_at_call 19
         refine Calls.mono (HBs.out w1 HK1.out) ?_
         rintro e w2 ⟨rfl, hk2⟩
         rw [HS.out, Nat.add_sub_cancel]
         have HK2 : Hid (Kept No w w2) := HK1.out.then hk2
         clear hk2))
    go_loopw [5, 6] (fun vb vi wr => ∃ k : Nat, k ≤ n ∧ vb = .int .i64 (bi (ltS ss) k) ∧ vi = .int .i64 (k + 1) ∧ Hid (Kept No w wr)) (fun _ i _ => n + 1 - (intOf i).toNat)
    case atStart => exact ⟨0, by omega, by simp [bi], by go_num, HK2⟩
    case round =>
      obtain ⟨k, hk, rfl, rfl, HK⟩ := hrel
      have hbl := bi_le (ltS ss) k
      by_cases hlt : k < n
      · have hlt' : (k : Int) + 1 < (n : Int) + 1 := by omega
        have e1 := HC.out wr HK.out (k + 1) (by omega)
        have e2 := HC.out wr HK.out (bi (ltS ss) k) (by omega)
        have HY : Hid (∀ b, decide ((sAt ss (k + 1)).size < (sAt ss (bi (ltS ss) k)).size) = b → (b = true → bi (ltS ss) (k + 1) = k + 1) ∧ (b = false → bi (ltS ss) (k + 1) = bi (ltS ss) k)) := fun b hb => ⟨fun e => bi_yes (by subst e; exact hb), fun e => bi_no (by subst e; exact hb)⟩
        generalize sAt ss (bi (ltS ss) k) = s at e2 HY
        generalize sAt ss (k + 1) = r at e1 HY
        have hbi : ((bi (ltS ss) k : Nat) : Int) < (n : Int) + 1 := by omega
        have hbi2 : bi (ltS ss) k < n + 1 := by omega
        generalize hbk : bi (ltS ss) k = bk at e2 HY hbi hbi2
        by_cases hb : r.size < s.size
        · have HU : Hid (bi (ltS ss) (k + 1) = k + 1) := (HY.out true (decide_eq_true hb)).1 rfl
          have hb' : (r.size : Int) < (s.size : Int) := by omega
          clear HY hbk hbl
          go_wp2
          go_quiet (fail)
          go_wp2
          go_roundw
          case rel => exact ⟨k + 1, by omega, by rw [HU.out]; go_num, by go_num, HK.out.drewN _⟩
          case measure => simp [intOf]; omega
        · have HU : Hid (bi (ltS ss) (k + 1) = bk) := (HY.out false (decide_eq_false hb)).2 rfl
          have hb' : ¬ (r.size : Int) < (s.size : Int) := by omega
          clear HY hbk hbl
          go_wp2
          go_quiet (fail)
          go_wp2
          go_roundw
          case rel => exact ⟨k + 1, by omega, by rw [HU.out], by go_num, HK.out.drewN _⟩
          case measure => simp [intOf]; omega
      · obtain rfl : k = n := by omega
        have hlt' : ¬ (k : Int) + 1 < (k : Int) + 1 := by omega
        have e2 := HC.out wr HK.out (bi (ltS ss) k) (by omega)
        have hbi : ((bi (ltS ss) k : Nat) : Int) < (k : Int) + 1 := by omega
        have hbi2 : bi (ltS ss) k < k + 1 := by omega
        generalize sAt ss (bi (ltS ss) k) = s at e2 ⊢
        generalize bi (ltS ss) k = bk at e2 hbi hbi2
        clear hbl
        go_wp2
        all_goals go_ret
        all_goals exact ⟨rfl, HK.out.below (Nat.le_refl _) (fun _ e => e.elim)⟩

end Go.Proofs.Ytmhjbkpojndhkaa
