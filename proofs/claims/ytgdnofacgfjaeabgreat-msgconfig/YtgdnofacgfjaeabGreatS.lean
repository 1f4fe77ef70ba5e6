import Derived.Test.YtgdnofacgfjaeabGreatRows
import Derived.Test.YtgdnofacgfjaeabGreatM
import Derived.WalkKit
namespace Go.Proofs.YtgdnofacgfjaeabGreat
open Go.RowKit
set_option linter.unusedVariables false

theorem ret_int {k : IntKind} {a b : Int} (h : a = b) : Ending.returned (.int k a) = .returned (.int k b) := by rw [h]

theorem shf_t {s : Int} (h : (bits .and .u32 s 1 == 1) = true) : bits .xor .u32 (s / 2) 2197175160 = shf s := by simp only [shf, if_pos h]
theorem shf_f {s : Int} (h : (bits .and .u32 s 1 == 1) = false) : s / 2 = shf s := by simp [shf, h]

theorem shift_any (s : Int) (w : World) (h0 : 0 ≤ s) (h1 : s ≤ 4294967295) :
    Calls Tryz.prog 106 #[.int .u32 s] w fun e w' => e = .returned (.int .u32 (shf s)) ∧ w' = w := by
  go_enter Tryz.func106, Tryz.ntmps106
  go_wp2
  all_goals go_ret
  · exact ⟨ret_int (shf_t ‹_›), rfl⟩
  · exact ⟨ret_int (shf_f ‹_›), rfl⟩

set_option maxRecDepth 1000000 in
set_option maxHeartbeats 400000 in
theorem sum_any (a : Option Addr) (cap : Nat) (zs : List Int) (w : World) (hm : zs.length ≤ 140737488355328) (hb : Bytes w a zs) (h8 : U8 zs) :
    Calls Tryz.prog 53 #[.slice a zs.length cap] w fun e w' => e = .returned (.int .i64 (sumOf zs)) ∧ w' = w := by
  have HB : Hid (Bytes w a zs) := hb
  have H8 : Hid (U8 zs) := h8
  clear hb h8
  go_enter Tryz.func53, Tryz.ntmps53
  go_wp2
  go_loop [3, 8] (fun s i => ∃ k : Nat, k ≤ zs.length ∧ i = .int .i64 k ∧ s = .int .u32 (crc (zs.take k))) (fun _ i => zs.length - (intOf i).toNat)
  case atStart => exact ⟨0, Nat.zero_le _, rfl, rfl⟩
  case round =>
    obtain ⟨k, hk, rfl, rfl⟩ := hrel
    have hc := crc_bd (zs.take k)
    by_cases hlt : k < zs.length
    · obtain ⟨b, off, rfl, hcell⟩ := HB.out k hlt
      have hz := H8.out k
      have HS : Hid (crc (zs.take (k + 1)) = upd (crc (zs.take k)) (zs[k]?.getD 0)) := crc_snoc zs k hlt
      generalize zs[k]?.getD 0 = z at hcell hz HS
      go_wp2
      go_loop [3, 16] (fun s i => ∃ j : Nat, j ≤ 8 ∧ i = .int .i64 j ∧ s = .int .u32 (shfN j (bits .xor .u32 (crc (zs.take k)) z))) (fun _ i => 8 - (intOf i).toNat)
      case atStart => exact ⟨0, Nat.zero_le _, rfl, rfl⟩
      case round =>
        obtain ⟨j, hj, rfl, rfl⟩ := hrel
        have hs := shfN_bd j (bits .xor .u32 (crc (zs.take k)) z) (bits_lo_u32 _ _ _) (bits_hi_u32 _ _ _)
        by_cases hjlt : j < 8
        · go_wp2_with (go_at_call 106; refine (shift_any _ _ (by omega) (by omega)).mono ?_; rintro e w' ⟨rfl, rfl⟩)
          go_round
          case rel => exact ⟨j + 1, by omega, by go_num, rfl⟩
          case measure => simp [intOf]; omega
        · obtain rfl : j = 8 := by omega
          go_wp2
          go_round
          case rel => exact ⟨k + 1, by omega, by go_num, by rw [HS.out]; rfl⟩
          case measure => simp [intOf]; omega
    · go_wp2
      go_ret
      refine ⟨ret_int ?_, rfl⟩
      rw [IntWalk.wrap64_in _ ⟨by have := bits_lo_u32 .xor IntKind.u32.max (crc (zs.take k)); omega, by have := bits_hi_u32 .xor IntKind.u32.max (crc (zs.take k)); omega⟩, bits_xor_comm, List.take_of_length_le (by omega)]
      rfl

end Go.Proofs.YtgdnofacgfjaeabGreat
