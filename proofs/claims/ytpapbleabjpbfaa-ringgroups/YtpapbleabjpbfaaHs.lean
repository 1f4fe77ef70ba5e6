import Derived.Test.YtpapbleabjpbfaaCn
import Derived.Test.YtpapbleabjpbfaaNu
import Derived.Test.YtpapbleabjpbfaaGr
import Derived.Deep.RegionHeld3
namespace Go.Proofs.Ytpapbleabjpbfaa
open Go.RowKit
set_option linter.unusedVariables false

set_option maxRecDepth 100000 in
set_option maxHeartbeats 1000000 in
theorem has_any (a : Option Addr) (cap n : Nat) (zs : List Int) (s : Int) (hn : zs.length = n) (w : World) (hm : n ≤ 1000) (hb : Nums .i64 w a zs) :
    Calls Try.prog 38 #[.slice a n cap, .int .i64 s] w fun e w' => e = .returned (.bool (decide (s ∈ zs))) ∧ w' = w := by
  have HB : Hid (Nums .i64 w a zs) := hb
  have HN : Hid (zs.length = n) := hn
  clear hb hn
  go_enter Try.func38, Try.ntmps38
  go_wp2
  go_loop [5] (fun i => ∃ k : Nat, k ≤ n ∧ i = .int .i64 k ∧ Hid (¬ s ∈ zs.take k)) (fun i => n - (intOf i).toNat)
  case atStart => exact ⟨0, Nat.zero_le _, rfl, by simp [Hid]⟩
  case round =>
    obtain ⟨k, hk, rfl, HE⟩ := hrel
    by_cases hlt : k < n
    · have hl : k < zs.length := by rw [HN.out]; exact hlt
      obtain ⟨b, off, rfl, hcell⟩ := HB.out k hl
      have HS : Hid (s ∈ zs.take (k + 1) ↔ (s ∈ zs.take k ∨ s = zs[k]?.getD 0)) := by
        show _ ↔ _
        rw [List.take_succ_eq_append_getElem hl, List.mem_append, List.getElem?_eq_getElem hl]
        simp
      have HZ : Hid (zs[k]?.getD 0 ∈ zs) := by show _ ∈ _; rw [List.getElem?_eq_getElem hl]; exact List.getElem_mem hl
      generalize zs[k]?.getD 0 = z at hcell HS HZ
      have hk' : (k : Int) < (n : Int) := by omega
      clear hl
      by_cases hz : z = s
      · subst hz
        have HT : Hid (decide (z ∈ zs) = true) := decide_eq_true HZ.out
        clear HS HZ HE
        go_wp2
        go_ret
        exact ⟨ret_bool HT.out.symm, rfl⟩
      · have HT : Hid (¬ s ∈ zs.take (k + 1)) := by
          intro h
          rcases HS.out.1 h with h | h
          · exact HE.out h
          · exact hz h.symm
        have hz' : (z == s) = false := by simpa using hz
        clear hz HS HE HZ
        go_wp2
        go_round
        case rel => exact ⟨k + 1, by omega, by go_num, HT⟩
        case measure => simp [intOf]; omega
    · have hk' : ¬ (k : Int) < (n : Int) := by omega
      have HT : Hid (decide (s ∈ zs) = false) := by
        have := HE.out
        rw [List.take_of_length_le (by rw [HN.out]; omega)] at this
        exact decide_eq_false this
      clear HE
      go_wp2
      go_ret
      exact ⟨ret_bool HT.out.symm, rfl⟩

/-- The first point not below a hash, from k on; behind the last one the first. -/
def firstR (ps : List (Int × Int)) (hash : Int) : Nat → Nat → Nat
  | _, 0 => 0
  | k, n + 1 => if (ps[k]?.getD (0, 0)).1 ≥ hash then k else firstR ps hash (k + 1) n

theorem firstR_lt (ps : List (Int × Int)) (hash : Int) (k n : Nat) : firstR ps hash k n = 0 ∨ firstR ps hash k n < k + n := by
  induction n generalizing k with
  | zero => exact .inl rfl
  | succ n ih =>
    unfold firstR
    split
    · right; omega
    · rcases ih (k + 1) with h | h
      · exact .inl h
      · right; omega

theorem countP_range_lt (q : Nat → Bool) (n k : Nat) (hk : k ≤ n) (h1 : ∀ i, i < k → q i = true) (h2 : ∀ i, k ≤ i → i < n → q i = false) : (List.range n).countP q = k := by
  induction n with
  | zero => simp; omega
  | succ n ih =>
    rw [List.range_succ, List.countP_append]
    by_cases e : k = n + 1
    · subst e
      have : (List.range n).countP q = n := by
        rw [List.countP_eq_length.2]
        · simp
        · intro i hi; exact h1 i (by have := List.mem_range.1 hi; omega)
      rw [this]
      simp [h1 n (by omega)]
    · rw [ih (by omega) (fun i hi hn => h2 i hi (by omega))]
      simp [h2 n (by omega) (by omega)]

/-- Both begin at the same point. -/
theorem firstR_N {ps : List (Int × Int)} (hR : Rising ps) (hash : Int) : ∀ (n k : Nat), k + n = ps.length → (∀ i, i < k → (ps[i]?.getD (0, 0)).1 < hash) → (firstR ps hash k n = firstN ps hash ∨ (firstR ps hash k n = 0 ∧ firstN ps hash = ps.length))
  | 0, k, hk, h => by
    right
    refine ⟨rfl, ?_⟩
    apply countP_range_lt _ _ _ (Nat.le_refl _)
    · intro i hi
      have := h i (by omega)
      simp; omega
    · intro i h1 h2; omega
  | n + 1, k, hk, h => by
    unfold firstR
    by_cases hc : (ps[k]?.getD (0, 0)).1 ≥ hash
    · rw [if_pos hc]
      left
      symm
      apply countP_range_lt _ _ _ (by omega)
      · intro i hi
        have := h i hi
        simp; omega
      · intro i h1 h2
        have := hR k i h1 h2
        simp; omega
    · rw [if_neg hc]
      refine firstR_N hR hash n (k + 1) (by omega) ?_
      intro i hi
      by_cases e : i = k
      · subst e; omega
      · exact h i (by omega)

theorem srvAt_same {ps : List (Int × Int)} {a b : Nat} (h : a = b ∨ (a = 0 ∧ b = ps.length)) (k : Nat) : srvAt ps a k = srvAt ps b k := by
  rcases h with rfl | ⟨rfl, rfl⟩
  · rfl
  · unfold srvAt; rw [Nat.add_mod_left, Nat.zero_add]
theorem grpN_same {ps : List (Int × Int)} {a b : Nat} (h : a = b ∨ (a = 0 ∧ b = ps.length)) (want k : Nat) : grpN ps a want k = grpN ps b want k := by
  induction k with
  | zero => rfl
  | succ k ih => rw [grpN, grpN, ih, srvAt_same h]

set_option maxRecDepth 100000 in
set_option maxHeartbeats 1000000 in
theorem refFirst_any (q : Nat) (sv : Value) (f p bu bl ro : Int) (pg pc m : Nat) (ps : List (Int × Int)) (hash : Int) (w : World) (hr : RefV w q sv f p bu bl ro pg pc m ps) (hm : m ≤ 4096) :
    Calls Try.prog 37 #[.pointer (some ⟨q, 0, none⟩), .int .i64 hash] w fun e w' => e = .returned (.int .i64 (firstR ps hash 0 m : Nat)) ∧ w' = w := by
  have HR : Hid (RefV w q sv f p bu bl ro pg pc m ps) := hr
  have c6 := hr.box.cell 6
  simp only [List.getElem?_toArray, List.getElem?_cons_zero, List.getElem?_cons_succ] at c6
  clear hr
  go_enter Try.func37, Try.ntmps37
  go_wp2
  go_loop [5] (fun i => ∃ k : Nat, k ≤ m ∧ i = .int .i64 k ∧ Hid (firstR ps hash 0 m = firstR ps hash k (m - k))) (fun i => m - (intOf i).toNat)
  case atStart => exact ⟨0, Nat.zero_le _, rfl, rfl⟩
  case round =>
    obtain ⟨k, hk, rfl, HE⟩ := hrel
    by_cases hlt : k < m
    · have ca := (HR.out.cell k hlt).1
      have HS : Hid (firstR ps hash k (m - k) = if (ps[k]?.getD (0, 0)).1 ≥ hash then k else firstR ps hash (k + 1) (m - (k + 1))) := by
        show _ = _
        rw [show m - k = (m - (k + 1)) + 1 by omega]; rfl
      generalize (ps[k]?.getD (0, 0)).1 = x at ca HS
      have hk' : (k : Int) < (m : Int) := by omega
      by_cases hx : hash ≤ x
      · have HT : Hid (firstR ps hash 0 m = k) := HE.out.trans (by rw [HS.out, if_pos hx])
        clear HS HE
        go_wp2
        go_ret
        refine ⟨ret_int ?_, rfl⟩
        rw [HT.out]
      · have HT : Hid (firstR ps hash 0 m = firstR ps hash (k + 1) (m - (k + 1))) := HE.out.trans (by rw [HS.out, if_neg hx])
        clear HS HE
        go_wp2
        go_round
        case rel => exact ⟨k + 1, by omega, by go_num, HT⟩
        case measure => simp [intOf]; omega
    · have hk' : ¬ (k : Int) < (m : Int) := by omega
      have HT : Hid (firstR ps hash 0 m = 0) := by have := HE.out; rw [show m - k = 0 by omega] at this; exact this
      clear HE
      go_wp2
      go_ret
      refine ⟨ret_int ?_, rfl⟩
      rw [HT.out]; rfl

end Go.Proofs.Ytpapbleabjpbfaa
