import Derived.Test.YtnhjpghkmbgeaabL
namespace Go.Proofs.Ytnhjpghkmbgeaab
open Go.RowKit
set_option linter.unusedVariables false

theorem lent_take (zs : List Int) : (lent zs 5).take zs.length = zs := by simp [lent]
theorem lent_mark (zs : List Int) (j : Nat) (h : j < 5) : (lent zs 5)[zs.length + j]?.getD 0 = 169 := by
  rw [lent, List.getElem?_append_right (by omega), List.getElem?_append_left (by simp; omega), List.getElem?_replicate, if_pos (by omega)]
  rfl

theorem Kept.no_drewN (w : World) (n : Nat) : Kept No w (w.drewN n) := (Kept.refl No w).drewN n

set_option maxHeartbeats 400000 in
theorem back_any (g : Nat) (a : Option Addr) (cap : Nat) (zs : List Int) (w : World) (hm : zs.length ≤ 140737488355328) (hB : Blk w g (lent zs 5)) (hb : Bytes w a zs) :
    Calls Try.prog 33 #[.slice (some ⟨g, 0, none⟩) zs.length (zs.length + 5), .slice a zs.length cap] w fun e w' => e = .returned (.bool true) ∧ Kept (Only g) w w' := by
  have HB : Hid (Bytes w a zs) := hb
  have HG : Hid (Blk w g (lent zs 5)) := hB
  clear hb hB
  have HS : Hid (Bytes w (some ⟨g, 0, none⟩) zs) := (by have := HG.out.bytes0 zs.length; rw [lent_take] at this; exact this)
  go_enter Try.func33, Try.ntmps33
  go_wp2_with fail
  refine (same_any _ _ _ _ zs zs _ (by omega) (by omega) HS.out HB.out).mono ?_
  rintro e w1 ⟨rfl, n, rfl⟩
  rw [eqB_refl]
  have HG1 : Hid (Blk (w.drewN n) g (lent zs 5)) := HG.out
  have HK1 : Hid (Kept (Only g) w (w.drewN n)) := (Kept.no_drewN w n).of_no
  clear HG HB HS
  generalize w.drewN n = w1 at HG1 HK1
  go_wp2
  go_loop [5, 7] (fun o i => ∃ j : Nat, j ≤ 5 ∧ i = .int .i64 ((zs.length + j : Nat) : Int) ∧ o = .bool true) (fun _ i => zs.length + 5 - (intOf i).toNat)
  case atStart => exact ⟨0, Nat.zero_le _, rfl, rfl⟩
  case round =>
    obtain ⟨j, hj, rfl, rfl⟩ := hrel
    by_cases hlt : j < 5
    · have hcl := HG1.out.cell (zs.length + j) (by rw [lent_len _ _ (Nat.le_refl _)]; omega)
      rw [lent_mark _ _ hlt] at hcl
      go_wp2
      go_round
      case rel => exact ⟨j + 1, by omega, by go_num, rfl⟩
      case measure => simp [intOf]; omega
    · obtain rfl : j = 5 := by omega
      go_wp2
      go_loopw [8] (fun i wr => ∃ k : Nat, k ≤ zs.length + 5 ∧ i = .int .i64 (k : Int) ∧ Hid (∃ ms : List Int, ms.length = zs.length + 5 ∧ Blk wr g ms) ∧ Hid (Kept (Only g) w wr)) (fun i _ => zs.length + 5 - (intOf i).toNat)
      case atStart => exact ⟨0, Nat.zero_le _, rfl, ⟨_, lent_len _ _ (Nat.le_refl _), HG1.out⟩, HK1⟩
      case round =>
        obtain ⟨k, hk, rfl, HM, HK⟩ := hrel
        clear HG1 HK1
        by_cases hlt2 : k < zs.length + 5
        · obtain ⟨ms, hml, hmb⟩ := HM.out
          have hfr := hmb.frozen k
          have hcl := hmb.cell k (by omega)
          generalize ms[k]?.getD 0 = z at hcl
          have HMn : Hid (∃ ms : List Int, ms.length = zs.length + 5 ∧ Blk (wr.setCell ⟨g, k, none⟩ (.int .u8 94)) g ms) := ⟨_, by rw [List.length_set]; exact hml, hmb.set k 94⟩
          have HKn : Hid (Kept (Only g) w (wr.setCell ⟨g, k, none⟩ (.int .u8 94))) := HK.out.setCell (p := ⟨g, k, none⟩) (fun _ => (rfl : g = g)) _
          clear HM HK hml hmb
          go_wp2
          go_roundw
          case rel => exact ⟨k + 1, by omega, by go_num, HMn, HKn⟩
          case measure => simp [intOf]; omega
        · go_wp2
          go_ret
          exact ⟨rfl, HK.out⟩

end Go.Proofs.Ytnhjpghkmbgeaab
