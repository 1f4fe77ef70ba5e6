import Derived.Test.YtpapbleabjpbfaaMx
import Derived.Test.YtpapbleabjpbfaaFa
namespace Go.Proofs.Ytpapbleabjpbfaa
open Go.RowKit
set_option linter.unusedVariables false

set_option maxRecDepth 100000 in
set_option maxHeartbeats 1000000 in
theorem number_any (h n : Int) (h0 : 0 ≤ h) (h1 : h ≤ 4294967295) (w : World) :
    Calls Try.prog 41 #[.int .i64 h, .int .i64 n] w fun e w' => e = .returned (.int .i64 (numH h n)) ∧ w' = w := by
  go_enter Try.func41, Try.ntmps41
  go_wp2
  go_loop [0, 5] (fun s i => ∃ k : Nat, k ≤ 8 ∧ i = .int .i64 k ∧ s = .int .i64 ((eightN n k).foldl fnvS h)) (fun _ i => 8 - (intOf i).toNat)
  case atStart => exact ⟨0, by omega, rfl, rfl⟩
  case round =>
    obtain ⟨k, hk, rfl, rfl⟩ := hrel
    have hc := foldS_bd (eightN n k) h h0 h1
    by_cases hlt : k < 8
    · have hb := byteAt_bd n k
      have HS : Hid ((eightN n (k + 1)).foldl fnvS h = fnvS ((eightN n k).foldl fnvS h) (byteAt n k)) := eightN_step h n k
      have HB : Hid (bits .and .i64 (n / 2 ^ (8 * k)) 255 = byteAt n k) := by show _ = _; rw [and_i64_255, byteAt_shr n k hlt]
      generalize (eightN n k).foldl fnvS h = s at hc HS
      generalize byteAt n k = y at hb HS HB
      have HM : Hid _ := mix_any s y hc.1 hc.2 hb.1 hb.2 w
      have h8 : ((8 * (k : Int)).toNat) = 8 * k := by omega
      have hr : (0 : Int) ≤ 8 * (k : Int) := by omega
      have hr2 : 8 * (k : Int) ≤ 64 := by omega
      go_wp2_with fail
      rw [HB.out]
      refine Calls.mono HM.out ?_
      rintro e w1 ⟨rfl, rfl⟩
      clear HM HB
      go_wp2
      go_round
      case rel => exact ⟨k + 1, by omega, by go_num, by rw [HS.out]⟩
      case measure => simp [intOf]; omega
    · go_wp2
      go_ret
      obtain rfl : k = 8 := by omega
      exact ⟨rfl, rfl⟩

theorem numberB (h n : Int) (h0 : 0 ≤ h) (h1 : h ≤ 4294967295) (W : World) :
    Calls Try.prog 41 #[.int .i64 h, .int .i64 n] W fun e w' => e = .returned (.int .i64 (numH h n)) ∧ Below W.heap.size W w' :=
  (number_any h n h0 h1 W).mono fun _ _ ⟨he, hw⟩ => ⟨he, by rw [hw]; exact (Kept.refl No W).below (Nat.le_refl _) (fun _ e => e.elim)⟩

theorem hashK_num (kd a b c : Int) : hashK kd a b c = numH (numH (numH (numH 2166136261 kd) a) b) c := by
  unfold hashK fnv eightsOf numH
  simp only [List.map_cons, List.map_nil, List.flatten_cons, List.flatten_nil, List.foldl_append, List.foldl_nil]

attribute [local irreducible] numH hashK

set_option maxRecDepth 100000 in
set_option maxHeartbeats 1000000 in
theorem refHash_any (kd a b c : Int) (w : World) : Calls Try.prog 18 #[keyV kd a b c] w fun e w' => e = .returned (.int .i64 (hashK kd a b c)) ∧ Kept No w w' := by
  have b1 := numH_bd 2166136261 kd (by omega) (by omega)
  have b2 := numH_bd (numH 2166136261 kd) a b1.1 b1.2
  have b3 := numH_bd (numH (numH 2166136261 kd) a) b b2.1 b2.2
  have H1 : Hid _ := fun w => number_any 2166136261 kd (by omega) (by omega) w
  have H2 : Hid _ := fun w => number_any (numH 2166136261 kd) a b1.1 b1.2 w
  have H3 : Hid _ := fun w => number_any (numH (numH 2166136261 kd) a) b b2.1 b2.2 w
  have H4 : Hid _ := fun w => number_any (numH (numH (numH 2166136261 kd) a) b) c b3.1 b3.2 w
  rw [hashK_num]
  clear b1 b2 b3
  generalize numH (numH (numH (numH 2166136261 kd) a) b) c = r4 at H4
  generalize numH (numH (numH 2166136261 kd) a) b = r3 at H3 H4
  generalize numH (numH 2166136261 kd) a = r2 at H2 H3
  generalize numH 2166136261 kd = r1 at H1 H2
  have hmix : Try.prog.follows .mixedOrders = true := by kernel_rfl
  unfold keyV
  go_enter Try.func18, Try.ntmps18
  go_wp2
  obtain ⟨w0, hw0⟩ : ∃ w0, w0 = w.alloc (.cells #[.int .i64 kd, .int .i64 a, .int .i64 b, .int .i64 c] 43) := ⟨_, rfl⟩
  rw [← hw0]
  have HX : Hid (Box w0 w.heap.size 43 #[.int .i64 kd, .int .i64 a, .int .i64 b, .int .i64 c]) := by rw [hw0]; exact Box.new w 43 _
  have HK : Hid (Kept No w w0) := by rw [hw0]; exact (Kept.refl No w).alloc _
  clear hw0
  refine wp_region_still_tail 12 (by kernel_rfl) (by kernel_rfl) ?_
  simp only [List.take_succ_cons, List.take_zero, List.drop_succ_cons, List.drop_zero]
  obtain ⟨w1, hw1⟩ : ∃ w1 : World, w1 = { w0 with drawn := w0.drawn + 1 } := ⟨_, rfl⟩
  rw [← hw1]
  have HX1 : Hid (Box w1 w.heap.size 43 #[.int .i64 kd, .int .i64 a, .int .i64 b, .int .i64 c]) := by rw [hw1]; exact HX.out
  have HK1 : Hid (Kept No w w1) := by rw [hw1]; exact HK.out.drew
  clear hw1 HX HK
  have c0 := HX1.out.cell 0
  have c1 := HX1.out.cell 1
  have c2 := HX1.out.cell 2
  have c3 := HX1.out.cell 3
  simp only [List.getElem?_toArray, List.getElem?_cons_zero, List.getElem?_cons_succ] at c0 c1 c2 c3
  still_step
  still_step
  still_call (H1.out _)
  still_step
  still_step
  still_call (H2.out _)
  still_step
  still_step
  still_call (H3.out _)
  still_step
  still_step
  still_call (H4.out _)
  refine wpStill_nil ?_
  go_wp2
  go_ret
  exact ⟨rfl, HK1.out⟩

/-- The order of keys, as the document's. -/
def lessK (k1 a1 b1 c1 k2 a2 b2 c2 : Int) : Bool := if k1 = k2 then (if a1 = a2 then (if b1 = b2 then decide (c1 < c2) else decide (b1 < b2)) else decide (a1 < a2)) else decide (k1 < k2)

set_option maxRecDepth 100000 in
set_option maxHeartbeats 1000000 in
theorem refLess_any (k1 a1 b1 c1 k2 a2 b2 c2 : Int) (w : World) : Calls Try.prog 20 #[keyV k1 a1 b1 c1, keyV k2 a2 b2 c2] w fun e w' => e = .returned (.bool (lessK k1 a1 b1 c1 k2 a2 b2 c2)) ∧ Kept No w w' := by
  have HK : Hid (∀ o p : Obj, Kept No w ((w.alloc o).alloc p)) := fun o p => ((Kept.refl No w).alloc o).alloc p
  unfold keyV
  by_cases e1 : k1 = k2
  · by_cases e2 : a1 = a2
    · by_cases e3 : b1 = b2
      · have HL : Hid (lessK k1 a1 b1 c1 k2 a2 b2 c2 = decide (c1 < c2)) := by show _ = _; simp [lessK, e1, e2, e3]
        go_enter Try.func20, Try.ntmps20
        go_wp2
        go_ret
        rw [HL.out]
        exact ⟨rfl, HK.out _ _⟩
      · have HL : Hid (lessK k1 a1 b1 c1 k2 a2 b2 c2 = decide (b1 < b2)) := by show _ = _; simp [lessK, e1, e2, e3]
        go_enter Try.func20, Try.ntmps20
        go_wp2
        go_ret
        rw [HL.out]
        exact ⟨rfl, HK.out _ _⟩
    · have HL : Hid (lessK k1 a1 b1 c1 k2 a2 b2 c2 = decide (a1 < a2)) := by show _ = _; simp [lessK, e1, e2]
      go_enter Try.func20, Try.ntmps20
      go_wp2
      go_ret
      rw [HL.out]
      exact ⟨rfl, HK.out _ _⟩
  · have HL : Hid (lessK k1 a1 b1 c1 k2 a2 b2 c2 = decide (k1 < k2)) := by show _ = _; simp [lessK, e1]
    go_enter Try.func20, Try.ntmps20
    go_wp2
    go_ret
    rw [HL.out]
    exact ⟨rfl, HK.out _ _⟩

end Go.Proofs.Ytpapbleabjpbfaa
