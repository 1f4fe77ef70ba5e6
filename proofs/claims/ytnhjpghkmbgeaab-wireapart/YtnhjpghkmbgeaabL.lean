import Derived.Test.YtnhjpghkmbgeaabE
import Derived.Test.YtnhjpghkmbgeaabLa
import Derived.Deep.DeepMust
namespace Go.Proofs.Ytnhjpghkmbgeaab
open Go.RowKit
set_option linter.unusedVariables false

set_option maxHeartbeats 400000 in
theorem lend_any (a : Option Addr) (cap : Nat) (zs : List Int) (w : World) (hm : zs.length ≤ 140737488355328) (hb : Bytes w a zs) :
    Calls Try.prog 8 #[.slice a zs.length cap] w fun e w' => e = .returned (.slice (some ⟨w.heap.size, 0, none⟩) zs.length (zs.length + 5)) ∧ Blk w' w.heap.size (lent zs 5) ∧ Kept No w w' := by
  have HB : Hid (Bytes w a zs) := hb
  clear hb
  obtain ⟨i0, hi, hz0, hz1, hz2⟩ := info_parts Try.info5
  go_enter Try.func8, Try.ntmps8
  go_wp2_with (first
    | (at_make; go_must (refine wpList_make_full _ rfl (.tmp 7) (.tmp 7) 22 rfl w.heap.size 5 i0 (.int .u8 0) 1 Try.underlying22 hi hz0 hz1 .i64 .i64 _ _ (zs.length + 5) rfl rfl (by omega) (by omega) (by rw [hz2]; omega) (by unfold maxLen; omega) (Nat.le_refl _) ?_; intro w1 hown hgrow; have HG : Hid _ := lend_made hown; have HK : Hid _ := kept_grown hgrow; clear hown hgrow))
    | (refine wpList_copy_splice rfl (.tmp 9) (.tmp 10) 22 22 rfl 5 Try.underlying22 Try.size5 _ a (zs.length + 5) (zs.length + 5) zs.length cap rfl rfl w.heap.size 0 ((List.replicate (zs.length + 5) (0 : Int)).map (Value.int .u8)) 5 HG.out (zs.map (Value.int .u8)) (by rw [List.length_map]; exact (Nat.min_eq_left (by omega)).symm) (fun h0 => ⟨rfl, (HB.out.no HK.out).src h0⟩) (by simp) (u8_one zs) w.heap.size w (HK.out.below (Nat.le_refl _) (fun _ e => e.elim)) (Nat.le_refl _) ?_; intro w2 HG2 hbel; have HB2 : Hid (Blk w2 w.heap.size (lent zs 0)) := (by have := HG2.out; rw [lent_0] at this; exact this); have HK2 : Hid (Kept No w w2) := Kept.of_below hbel; clear HG2 hbel HK HG))
  go_loopw [4] (fun i wr => ∃ j : Nat, j ≤ 5 ∧ i = .int .i64 ((zs.length + j : Nat) : Int) ∧ Hid (Blk wr w.heap.size (lent zs j)) ∧ Hid (Kept No w wr)) (fun i _ => zs.length + 5 - (intOf i).toNat)
  case atStart => exact ⟨0, Nat.zero_le _, rfl, HB2, HK2⟩
  case round =>
    obtain ⟨j, hj, rfl, HBr, HKr⟩ := hrel
    clear HB2 HK2
    by_cases hlt : j < 5
    · have hfr := HBr.out.frozen (zs.length + j)
      have hcl := HBr.out.cell (zs.length + j) (by rw [lent_len _ _ hj]; omega)
      generalize (lent zs j)[zs.length + j]?.getD 0 = z at hcl
      have HBn : Hid (Blk (wr.setCell ⟨w.heap.size, zs.length + j, none⟩ (.int .u8 169)) w.heap.size (lent zs (j + 1))) := by
        have := HBr.out.set (zs.length + j) 169
        rw [lent_set _ _ hlt] at this
        exact this
      have HKn : Hid (Kept No w (wr.setCell ⟨w.heap.size, zs.length + j, none⟩ (.int .u8 169))) := HKr.out.setCell (fun h => absurd h (Nat.lt_irrefl _)) _
      clear HBr HKr
      go_wp2
      go_roundw
      case rel => exact ⟨j + 1, by omega, by go_num, HBn, HKn⟩
      case measure => simp [intOf]; omega
    · obtain rfl : j = 5 := by omega
      go_wp2
      go_ret
      exact ⟨rfl, HBr.out, HKr.out⟩

end Go.Proofs.Ytnhjpghkmbgeaab
