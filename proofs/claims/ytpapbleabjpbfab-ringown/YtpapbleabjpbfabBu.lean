import Derived.Test.YtpapbleabjpbfabFi
namespace Go.Proofs.Ytpapbleabjpbfab
open Go.RowKit
set_option linter.unusedVariables false

/-- A text's bytes. -/
def strB (s : ByteArray) : List Int := s.data.toList.map (fun b => (b.toNat : Int))
theorem strB_len (s : ByteArray) : (strB s).length = s.size := by simp [strB]
theorem strB_at (s : ByteArray) (i : Nat) (h : i < s.size) : (strB s)[i]?.getD 0 = (s[i].toNat : Int) := by
  simp only [strB, List.getElem?_map]
  rw [List.getElem?_eq_getElem (by simpa using h)]
  rfl

set_option maxRecDepth 100000 in
set_option maxHeartbeats 1000000 in
theorem hashS_any (s : ByteArray) (w : World) (hm : s.size ≤ 9223372036854775806) :
    Calls Try.prog 35 #[.string s] w fun e w' => e = .returned (.int .i64 (fnv (strB s))) ∧ w' = w := by
  go_enter Try.func35, Try.ntmps35
  go_wp2
  go_loop [3, 7] (fun h i => ∃ k : Nat, k ≤ s.size ∧ i = .int .i64 k ∧ h = .int .u32 (fnv ((strB s).take k))) (fun _ i => s.size - (intOf i).toNat)
  case atStart => exact ⟨0, Nat.zero_le _, rfl, rfl⟩
  case round =>
    obtain ⟨k, hk, rfl, rfl⟩ := hrel
    have hc := fnv_bd ((strB s).take k)
    by_cases hlt : k < s.size
    · have HS : Hid (fnv ((strB s).take (k + 1)) = fnvS (fnv ((strB s).take k)) (s[k].toNat : Int)) := by
        show _ = _
        rw [fnv_snoc (strB s) k (by rw [strB_len]; exact hlt), strB_at s k hlt]
      generalize fnv ((strB s).take k) = h at hc HS
      go_wp2
      go_round
      case rel =>
        refine ⟨k + 1, by omega, by go_num, ?_⟩
        rw [HS.out, fnvS, show ((s[k].toNat : Int) % 4294967296) = (s[k].toNat : Int) by have := s[k].toNat_lt; omega]
      case measure => simp [intOf]; omega
    · go_wp2
      go_ret
      refine ⟨ret_int ?_, rfl⟩
      rw [List.take_of_length_le (by rw [strB_len]; omega)]

set_option maxRecDepth 100000 in
set_option maxHeartbeats 1000000 in
theorem bucket_any (r : Nat) (sa : Option Addr) (sn sc : Nat) (f p bu bl ro : Int) (pg pc m : Nat) (ps : List (Int × Int)) (s : ByteArray) (w : World) (hr : RingV w r sa sn sc f p bu bl ro pg pc m ps) (hb1 : 1 ≤ bu) (hb2 : bu ≤ 256) (hm : s.size ≤ 9223372036854775806) :
    Calls Try.prog 21 #[.pointer (some ⟨r, 0, none⟩), .string s] w fun e w' => e = .returned (.int .i64 (fnv (strB s) % bu)) ∧ Kept No w w' := by
  have hh := fun w => hashS_any s w hm
  have hbd := fnv_bd (strB s)
  generalize fnv (strB s) = h at hh hbd
  have HH : Hid _ := hh
  have hmod : h.tmod bu = h % bu := Int.tmod_eq_emod_of_nonneg hbd.1
  have r3 := hr.box.cell 3
  simp only [List.getElem?_toArray, List.getElem?_cons_zero, List.getElem?_cons_succ] at r3
  have hbz : ¬ bu = 0 := by omega
  have HR : Hid (RingV w r sa sn sc f p bu bl ro pg pc m ps) := hr
  clear hh hr
  go_enter Try.func21, Try.ntmps21
  go_wp2
  refine wp_region_still_lit (by kernel_rfl) (by kernel_rfl) ?_
  obtain ⟨w1, hw1⟩ : ∃ w1 : World, w1 = { w with drawn := w.drawn + 1 } := ⟨_, rfl⟩
  rw [← hw1]
  have HK : Hid (Kept No w w1) := by rw [hw1]; exact (Kept.refl No w).drew
  have r3' := (HR.out.no HK.out).box.cell 3
  simp only [List.getElem?_toArray, List.getElem?_cons_zero, List.getElem?_cons_succ] at r3'
  clear hw1 r3
  still_step
  still_call (HH.out _)
  still_step
  still_step
  still_step
  still_step
  still_step
  still_step
  still_step
  refine wpStill_nil ?_
  go_wp2
  go_ret
  exact ⟨rfl, HK.out⟩

end Go.Proofs.Ytpapbleabjpbfab
