import Derived.Test.YtmhjbkpojndhkabTg
namespace Go.Proofs.Ytmhjbkpojndhkab
open Go.RowKit
set_option linter.unusedVariables false
set_option linter.unusedSimpArgs false

/-- The first k are alike. -/
def AlK (xs ys : List Int) (k : Nat) : Prop := ∀ i, i < k → xs[i]?.getD 0 = ys[i]?.getD 0
theorem alk_all {xs ys : List Int} (h : xs.length = ys.length) (ha : AlK xs ys xs.length) : xs = ys := by
  refine List.ext_getElem h fun i h1 h2 => ?_
  have := ha i h1
  simpa [List.getElem?_eq_getElem h1, List.getElem?_eq_getElem h2] using this
theorem alk_succ {xs ys : List Int} {k : Nat} (ha : AlK xs ys k) (h : xs[k]?.getD 0 = ys[k]?.getD 0) : AlK xs ys (k + 1) := fun i hi => by
  rcases Nat.lt_or_ge i k with h1 | h1
  · exact ha i h1
  · obtain rfl : i = k := by omega
    exact h

def SameOut (w : World) (xs ys : List Int) (e : Ending) (w' : World) : Prop := e = .returned (.bool (decide (xs = ys))) ∧ Kept No w w'

set_option maxHeartbeats 1000000 in
theorem same_any (a b : Option Addr) (n m c d : Nat) (xs ys : List Int) (w : World) (hx : xs.length = n) (hy : ys.length = m) (hn : n ≤ 9223372036854775807) (hm : m ≤ 9223372036854775807) (h1 : Nums .i64 w a xs) (h2 : Nums .i64 w b ys) :
    Calls Try.prog 20 #[.slice a n c, .slice b m d] w (SameOut w xs ys) := by
  have HX : Hid (xs.length = n) := hx
  have HY : Hid (ys.length = m) := hy
  have H1 : Hid (Nums .i64 w a xs) := h1
  have H2 : Hid (Nums .i64 w b ys) := h2
  clear hx hy h1 h2
  by_cases hnm : n = m
  · subst hnm
    go_enter Try.func20, Try.ntmps20
    go_wp2
    go_loopw [5] (fun vi wr => ∃ k : Nat, vi = .int .i64 k ∧ k ≤ n ∧ Hid (AlK xs ys k) ∧ Hid (∃ q, wr = w.drewN q)) (fun i _ => n - (intOf i).toNat)
    case atStart => exact ⟨0, by go_num, by omega, (fun i hi => absurd hi (Nat.not_lt_zero _) : AlK xs ys 0), ⟨0, rfl⟩⟩
    case round =>
      obtain ⟨k, rfl, hk, HA, HW⟩ := hrel
      have HKq : Hid (Kept No w wr) := by obtain ⟨q, hq⟩ := HW.out; rw [hq]; exact Kept.no_drewN w q
      by_cases hlt : k < n
      · have hlt' : (k : Int) < (n : Int) := by omega
        obtain ⟨b1, o1, rfl, e1⟩ := (H1.out.no HKq.out) k (by rw [HX.out]; exact hlt)
        obtain ⟨b2, o2, rfl, e2⟩ := (H2.out.no HKq.out) k (by rw [HY.out]; exact hlt)
        have HS : Hid (xs[k]?.getD 0 = ys[k]?.getD 0 → AlK xs ys (k + 1)) := fun h => alk_succ HA.out h
        have HN : Hid (¬ xs[k]?.getD 0 = ys[k]?.getD 0 → decide (xs = ys) = false) := fun h => decide_eq_false (fun e => h (by rw [e]))
        generalize xs[k]?.getD 0 = x at e1 HS HN
        generalize ys[k]?.getD 0 = y at e2 HS HN
        by_cases hxy : x = y
        · subst hxy
          have HA1 : Hid (AlK xs ys (k + 1)) := HS.out rfl
          clear HS HN
          go_wp2
          go_quiet (fail)
          go_wp2
          go_roundw
          case rel => exact ⟨k + 1, by go_num, by omega, HA1, by obtain ⟨q, hq⟩ := HW.out; exact ⟨_, by rw [hq, drewN2]⟩⟩
          case measure => simp [intOf]; omega
        · have HF : Hid (decide (xs = ys) = false) := HN.out hxy
          have hb : (x == y) = false := by simpa using hxy
          clear HS HN
          go_wp2
          go_quiet (fail)
          go_wp2
          all_goals go_ret
          exact ⟨ret_bool HF.out.symm, HKq.out.drewN _⟩
      · have hlt' : ¬ (k : Int) < (n : Int) := by omega
        obtain rfl : k = n := by omega
        have HT : Hid (decide (xs = ys) = true) := decide_eq_true (alk_all (by rw [HX.out, HY.out]) (by rw [HX.out]; exact HA.out))
        go_wp2
        go_ret
        exact ⟨ret_bool HT.out.symm, HKq.out⟩
  · have HF : Hid (decide (xs = ys) = false) := decide_eq_false (fun e => hnm (by rw [← HX.out, ← HY.out, e]))
    have hb : ((n : Int) == (m : Int)) = false := by simp; omega
    go_enter Try.func20, Try.ntmps20
    go_wp2
    all_goals go_ret
    all_goals exact ⟨ret_bool HF.out.symm, Kept.refl _ _⟩

def StandsOut (w : World) (xs : List Int) (v : Int) (e : Ending) (w' : World) : Prop := e = .returned (.bool (decide (v ∈ xs))) ∧ Kept No w w'
theorem not_in_take {xs : List Int} {k : Nat} {v : Int} (h : v ∉ xs.take k) (hk : k < xs.length) (hv : xs[k]?.getD 0 ≠ v) : v ∉ xs.take (k + 1) := by
  rw [take_snoc hk]
  simp only [List.mem_append, List.mem_singleton, not_or]
  exact ⟨h, fun e => hv e.symm⟩

set_option maxHeartbeats 1000000 in
theorem stands_any (a : Option Addr) (n c : Nat) (xs : List Int) (v : Int) (w : World) (hx : xs.length = n) (hn : n ≤ 9223372036854775807) (h1 : Nums .i64 w a xs) :
    Calls Try.prog 10 #[.slice a n c, .int .i64 v] w (StandsOut w xs v) := by
  have HX : Hid (xs.length = n) := hx
  have H1 : Hid (Nums .i64 w a xs) := h1
  clear hx h1
  go_enter Try.func10, Try.ntmps10
  go_wp2
  go_loopw [5] (fun vi wr => ∃ k : Nat, vi = .int .i64 k ∧ k ≤ n ∧ Hid (v ∉ xs.take k) ∧ Hid (∃ q, wr = w.drewN q)) (fun i _ => n - (intOf i).toNat)
  case atStart => exact ⟨0, by go_num, by omega, (by simp : v ∉ xs.take 0), ⟨0, rfl⟩⟩
  case round =>
    obtain ⟨k, rfl, hk, HA, HW⟩ := hrel
    have HKq : Hid (Kept No w wr) := by obtain ⟨q, hq⟩ := HW.out; rw [hq]; exact Kept.no_drewN w q
    by_cases hlt : k < n
    · have hlt' : (k : Int) < (n : Int) := by omega
      obtain ⟨b1, o1, rfl, e1⟩ := (H1.out.no HKq.out) k (by rw [HX.out]; exact hlt)
      have HS : Hid (¬ xs[k]?.getD 0 = v → v ∉ xs.take (k + 1)) := fun h => not_in_take HA.out (by rw [HX.out]; exact hlt) h
      have HN : Hid (xs[k]?.getD 0 = v → decide (v ∈ xs) = true) := fun h => decide_eq_true (by rw [← h]; exact mem_at (by rw [HX.out]; exact hlt))
      generalize xs[k]?.getD 0 = x at e1 HS HN
      by_cases hxy : x = v
      · subst hxy
        have HF : Hid (decide (x ∈ xs) = true) := HN.out rfl
        clear HS HN
        go_wp2
        all_goals go_ret
        all_goals exact ⟨ret_bool HF.out.symm, by first | exact HKq.out | exact HKq.out.drewN _⟩
      · have HA1 : Hid (v ∉ xs.take (k + 1)) := HS.out hxy
        have hb : (x == v) = false := by simpa using hxy
        clear HS HN
        go_wp2
        go_roundw
        case rel => exact ⟨k + 1, by go_num, by omega, HA1, HW⟩
        case measure => simp [intOf]; omega
    · have hlt' : ¬ (k : Int) < (n : Int) := by omega
      obtain rfl : k = n := by omega
      have HT : Hid (decide (v ∈ xs) = false) := decide_eq_false (by have := HA.out; rw [List.take_of_length_le (by rw [HX.out]; omega)] at this; exact this)
      go_wp2
      go_ret
      exact ⟨ret_bool HT.out.symm, HKq.out⟩

end Go.Proofs.Ytmhjbkpojndhkab
