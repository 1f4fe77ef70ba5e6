import Derived.Test.YtpapbleabjpbfaaSf
namespace Go.Proofs.Ytpapbleabjpbfaa
open Go.RowKit
set_option linter.unusedVariables false
set_option linter.unusedSimpArgs false

/-- What Rising has gathered of the numbers up to k. -/
def risN (zs : List Int) : Nat → List Int
  | 0 => []
  | k + 1 => risN zs k ++ zs.filter (fun z => decide (z = ((k + 1 : Nat) : Int)))
/-- .. and of the next number, of the first j. -/
def risJ (zs : List Int) (k j : Nat) : List Int := risN zs k ++ (zs.take j).filter (fun z => decide (z = ((k + 1 : Nat) : Int)))
theorem risJ_0 (zs : List Int) (k : Nat) : risJ zs k 0 = risN zs k := by simp [risJ]
theorem risJ_all (zs : List Int) (k : Nat) : risJ zs k zs.length = risN zs (k + 1) := by simp [risJ, risN]
theorem risJ_yes {zs : List Int} {k j : Nat} (h : j < zs.length) (hz : zs[j]?.getD 0 = ((k + 1 : Nat) : Int)) : risJ zs k (j + 1) = risJ zs k j ++ [((k + 1 : Nat) : Int)] := by
  unfold risJ
  rw [List.take_succ_eq_append_getElem h, List.filter_append, List.append_assoc]
  rw [List.getElem?_eq_getElem h, Option.getD_some] at hz
  simp [hz]
theorem risJ_no {zs : List Int} {k j : Nat} (h : j < zs.length) (hz : ¬ zs[j]?.getD 0 = ((k + 1 : Nat) : Int)) : risJ zs k (j + 1) = risJ zs k j := by
  unfold risJ
  rw [List.take_succ_eq_append_getElem h, List.filter_append]
  rw [List.getElem?_eq_getElem h, Option.getD_some] at hz
  rw [List.filter_cons_of_neg (by simpa using hz)]
  simp
theorem risN_len (zs : List Int) (k : Nat) : (risN zs k).length ≤ k * zs.length := by
  induction k with
  | zero => simp [risN]
  | succ k ih =>
    have := List.length_filter_le (fun z => decide (z = ((k + 1 : Nat) : Int))) zs
    simp only [risN, List.length_append, Nat.add_mul, Nat.one_mul]
    omega
theorem risJ_len (zs : List Int) (k j : Nat) (hk : k < 255) (hn : zs.length ≤ 64) : (risJ zs k j).length ≤ 16384 := by
  have h1 := risN_len zs k
  have h2 := List.length_filter_le (fun z => decide (z = ((k + 1 : Nat) : Int))) (zs.take j)
  have h3 : (zs.take j).length ≤ zs.length := by simp; omega
  have h4 : k * zs.length ≤ 254 * 64 := Nat.mul_le_mul (by omega) hn
  simp only [risJ, List.length_append]
  omega

theorem own_block {w : World} {base : Nat} {t : TypeId} {c n : Nat} {v : Value} {xs : List Value} (h : w.ownsRow base t c v n xs) (k : Nat) (hk : v.ownBlock = some k) : base ≤ k := by
  rcases h.2 with ⟨e, _⟩ | ⟨g, cap, cur, e, hb, _⟩
  · rw [e] at hk; cases hk
  · rw [e] at hk; cases hk; exact hb

theorem owns_no {w w' : World} {base : Nat} {t : TypeId} {c n : Nat} {v : Value} {xs : List Value} (h : w.ownsRow base t c v n xs) (hk : Kept No w w') : w'.ownsRow base t c v n xs := by
  refine ⟨h.1, ?_⟩
  rcases h.2 with e | ⟨g, cap, cur, e, hb, hheap, hr⟩
  · exact .inl e
  · exact .inr ⟨g, cap, cur, e, hb, Box.kept hheap hk (fun e => e), hr⟩

set_option maxRecDepth 100000 in
set_option maxHeartbeats 2000000 in
theorem rising_any (a : Option Addr) (cap n : Nat) (zs : List Int) (w : World) (hn : zs.length = n) (hm : n ≤ 64) (hb : Nums .i64 w a zs) :
    Calls Try.prog 52 #[.slice a n cap] w fun e w' => ∃ v, e = .returned v ∧ w'.ownsRow w.heap.size 3 1 v (risN zs 255).length ((risN zs 255).map (Value.int .i64)) ∧ Kept No w w' := by
  have HB : Hid (Nums .i64 w a zs) := hb
  have HN : Hid (zs.length = n) := hn
  clear hb hn
  obtain ⟨i0, hi, hz0, hz1, hz2⟩ := info_parts Try.info3
  go_enter Try.func52, Try.ntmps52
  go_wp2
  go_loopw [3, 4] (fun v vk wr => ∃ (k : Nat), vk = .int .i64 ((k : Int) + 1) ∧ k ≤ 255 ∧ Hid (wr.ownsRow w.heap.size 3 1 v (risN zs k).length ((risN zs k).map (Value.int .i64))) ∧ Hid (Kept No w wr)) (fun _ k _ => 256 - (intOf k).toNat)
  case atStart => exact ⟨0, by go_num, by omega, ⟨rfl, .inl ⟨rfl, rfl⟩⟩, Kept.refl _ _⟩
  case round =>
    obtain ⟨k, rfl, hk, HO, HK⟩ := hrel
    by_cases hlt : k < 255
    · have hlt' : (k : Int) + 1 ≤ 255 := by omega
      go_wp2
      go_loopw [3, 5] (fun v vj wr => ∃ (j : Nat), vj = .int .i64 j ∧ j ≤ n ∧ Hid (wr.ownsRow w.heap.size 3 1 v (risJ zs k j).length ((risJ zs k j).map (Value.int .i64))) ∧ Hid (Kept No w wr)) (fun _ j _ => n - (intOf j).toNat)
      case atStart => exact ⟨0, by go_num, by omega, by rw [risJ_0]; exact HO, HK⟩
      case round =>
        obtain ⟨j, rfl, hj, HOj, HKj⟩ := hrel
        clear HO HK
        by_cases hjl : j < n
        · have hjl' : (j : Int) < (n : Int) := by omega
          have HJL : Hid (j < zs.length) := by show _ < _; rw [HN.out]; exact hjl
          obtain ⟨b, off, rfl, hcell⟩ := (HB.out.no HKj.out) j HJL.out
          have HY : Hid (zs[j]?.getD 0 = ((k + 1 : Nat) : Int) → _) := risJ_yes (k := k) HJL.out
          have HNo : Hid (¬ zs[j]?.getD 0 = ((k + 1 : Nat) : Int) → _) := risJ_no (k := k) HJL.out
          have HLn : Hid ((risJ zs k j).length ≤ 16384) := risJ_len zs k j hlt (by rw [HN.out]; exact hm)
          generalize zs[j]?.getD 0 = z at hcell HY HNo
          by_cases hz : z = (k : Int) + 1
          · have HJ : Hid (risJ zs k (j + 1) = risJ zs k j ++ [((k + 1 : Nat) : Int)]) := HY.out (by rw [hz]; omega)
            have HOa : Hid (∀ o, (wr.alloc o).ownsRow w.heap.size 3 1 u3 (risJ zs k j).length ((risJ zs k j).map (Value.int .i64))) := fun o => owns_no HOj.out ((Kept.refl No wr).alloc o)
            have HOB : Hid (∀ q, u3.ownBlock = some q → w.heap.size ≤ q) := fun q e => own_block HOj.out q e
            have HSz : Hid (w.heap.size ≤ wr.heap.size) := HKj.out.size
            clear HY HNo HOj
            go_wp2_with (first
              | (at_builtin
                 refine wpList_append_own _ rfl (.tmp 22) (.tmp 24) 27 rfl w.heap.size 3 i0 (.int .i64 0) 1 8 Try.underlying27 hi hz0 hz1 hz2 rfl (by decide) _ _ _ rfl (HOa.out _) ⟨wr.heap.size, 0, none⟩ 1 1 [.int .i64 ((k : Int) + 1)] rfl rfl (cell_new1 _ _ _) (by simp [Value.oneCell']) (by have := HLn.out; unfold maxLen; omega) (by have := HLn.out; omega) (by have := HSz.out; simp; omega) ?_
                 intro v2 w2 hown2 hgrow2 hnil2
                 have HO2 : Hid (w2.ownsRow w.heap.size 3 1 v2 (risJ zs k (j + 1)).length ((risJ zs k (j + 1)).map (Value.int .i64))) := (by
                   rw [HJ.out, List.length_append, List.map_append]; exact hown2)
                 have HK2 : Hid (Kept No w w2) := (HKj.out.alloc _).grown hgrow2 (fun q e hq => absurd (HOB.out q e) (by omega))
                 clear hown2 hgrow2 hnil2 HOa HKj)
              | fail)
            go_roundw
            case rel => exact ⟨j + 1, by go_num, by omega, HO2, HK2⟩
            case measure => simp [intOf]; omega
          · have HJ : Hid (risJ zs k (j + 1) = risJ zs k j) := HNo.out (by intro e; apply hz; rw [e]; omega)
            clear HY HNo
            go_wp2
            go_roundw
            case rel => exact ⟨j + 1, by go_num, by omega, by rw [HJ.out]; exact HOj, HKj⟩
            case measure => simp [intOf]; omega
        · have hjl' : ¬ (j : Int) < (n : Int) := by omega
          have HJ : Hid (risJ zs k j = risN zs (k + 1)) := by show _ = _; rw [← risJ_all, HN.out, show j = n by omega]
          go_wp2
          go_roundw
          case rel => exact ⟨k + 1, by go_num, by omega, by rw [← HJ.out]; exact HOj, HKj⟩
          case measure => simp [intOf]; omega
    · have hlt' : ¬ (k : Int) + 1 ≤ 255 := by omega
      go_wp2
      go_ret
      obtain rfl : k = 255 := by omega
      exact ⟨_, rfl, HO.out, HK.out⟩

end Go.Proofs.Ytpapbleabjpbfaa
