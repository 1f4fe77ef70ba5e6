import Derived.Test.YtpapbleabjpbfabSp
import Derived.Laws.FloatArith
namespace Go.Proofs.Ytpapbleabjpbfab
open Go.RowKit
set_option linter.unusedVariables false

theorem spanOf_bd {ps : List (Int × Int)} (hH : HashI ps) (i : Nat) : -8589934592 ≤ spanOf ps i ∧ spanOf ps i ≤ 8589934592 := by
  unfold spanOf
  have h1 := hH i
  have h2 := hH (i - 1)
  have h3 := hH 0
  have h4 := hH (ps.length - 1)
  split <;> omega

theorem cntN_bd {ps : List (Int × Int)} (hH : HashI ps) (s : Int) (k : Nat) : -((k : Int) * 8589934592) ≤ cntN ps s k ∧ cntN ps s k ≤ (k : Int) * 8589934592 := by
  induction k with
  | zero => simp [cntN]
  | succ k ih =>
    have := spanOf_bd hH k
    unfold cntN
    split <;> omega

/-- The part of all hashes, as a float's bits. -/
def shareF (n : Int) : Option Nat := floatBits .quo .f64 (floatOfInt .f64 n) 4751297606875873280

set_option maxRecDepth 100000 in
set_option maxHeartbeats 2000000 in
theorem share_any (r : Nat) (sa : Option Addr) (sn sc : Nat) (f p bu bl ro : Int) (pg pc m : Nat) (ps : List (Int × Int)) (s : Int) (w : World) (hr : RingV w r sa sn sc f p bu bl ro pg pc m ps) (hm : m ≤ 4096) (hH : HashI ps) (bits : Nat) (hd : shareF (cntN ps s m) = some bits) :
    Calls Try.prog 16 #[.pointer (some ⟨r, 0, none⟩), .int .i64 s] w fun e w' => e = .returned (.float .f64 bits) ∧ Kept No w w' := by
  have HR : Hid (RingV w r sa sn sc f p bu bl ro pg pc m ps) := hr
  have HH : Hid (HashI ps) := hH
  have HL : Hid (ps.length = m) := hr.len
  have c6 := hr.box.cell 6
  simp only [List.getElem?_toArray, List.getElem?_cons_zero, List.getElem?_cons_succ] at c6
  have HD : Hid (shareF (cntN ps s m) = some bits) := hd
  clear hr hH hd
  go_enter Try.func16, Try.ntmps16
  go_wp2
  clear c6
  go_loopw [5, 13] (fun h i wr => ∃ k : Nat, k ≤ m ∧ i = .int .i64 k ∧ h = .int .i64 (cntN ps s k) ∧ Hid (Kept No w wr)) (fun _ i _ => m - (intOf i).toNat)
  case atStart => exact ⟨0, Nat.zero_le _, rfl, rfl, Kept.refl _ _⟩
  case round =>
    obtain ⟨k, hk, rfl, rfl, HK⟩ := hrel
    have hbd := cntN_bd HH.out s k
    by_cases hlt : k < m
    · have hv := HR.out.no HK.out
      have ce := hv.cell k hlt
      have HSp : Hid (∀ w', Kept No w w' → Calls Try.prog 33 #[.pointer (some ⟨r, 0, none⟩), .int .i64 k] w' fun e w'' => e = .returned (.int .i64 (spanOf ps k)) ∧ ∃ q, w'' = w'.drewN q) := fun w' h => span_any r sa sn sc f p bu bl ro pg pc m k ps w' (HR.out.no h) hlt hm HH.out
      have hsb := spanOf_bd HH.out k
      have HC : Hid (cntN ps s (k + 1) = if (ps[k]?.getD (0, 0)).2 = s then cntN ps s k + spanOf ps k else cntN ps s k) := rfl
      obtain ⟨ca, cb⟩ := ce
      generalize (ps[k]?.getD (0, 0)).1 = x at ca
      generalize (ps[k]?.getD (0, 0)).2 = y at cb HC
      generalize spanOf ps k = sp at HSp hsb HC
      generalize cntN ps s k = cn at hbd HC
      have h1 : (k : Int) < (m : Int) := by omega
      have hw1 : IntKind.i64.wrap (cn + sp) = cn + sp := by rw [IntKind.wrap_i64]; omega
      clear hv
      by_cases hy : y = s
      · subst hy
        have HC2 : Hid (cntN ps y (k + 1) = cn + sp) := by have := HC.out; rwa [if_pos rfl] at this
        go_wp2_with (go_at_call 33
                     refine Calls.mono (HSp.out _ (HK.out.alloc _)) ?_
                     rintro e w2 ⟨rfl, q, rfl⟩)
        go_roundw
        case rel => exact ⟨k + 1, by omega, by go_num, by rw [HC2.out], (HK.out.alloc _).drewN _⟩
        case measure => simp [intOf]; omega
      · have HC2 : Hid (cntN ps s (k + 1) = cn) := by have := HC.out; rwa [if_neg hy] at this
        have hy' : (y == s) = false := by simpa using hy
        clear hy
        go_wp2
        go_roundw
        case rel => exact ⟨k + 1, by omega, by go_num, by rw [HC2.out], HK.out.alloc _⟩
        case measure => simp [intOf]; omega
    · obtain rfl : k = m := by omega
      go_wp2
      rw [run_float_arith _ _ _ _ _ _ bits HD.out]
      go_wp2
      go_ret
      exact ⟨rfl, HK.out⟩

end Go.Proofs.Ytpapbleabjpbfab
