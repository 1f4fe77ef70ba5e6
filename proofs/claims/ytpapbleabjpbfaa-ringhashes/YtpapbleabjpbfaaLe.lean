import Derived.Test.YtpapbleabjpbfaaNu
namespace Go.Proofs.Ytpapbleabjpbfaa
open Go.RowKit
set_option linter.unusedVariables false

theorem orOf_less (k1 a1 b1 c1 k2 a2 b2 c2 : Int) : decide (orOf [Lib.compareInt k1 k2, Lib.compareInt a1 a2, Lib.compareInt b1 b2, Lib.compareInt c1 c2] < 0) = lessK k1 a1 b1 c1 k2 a2 b2 c2 := by
  have h : ∀ x y : Int, (x = y ∧ Lib.compareInt x y = 0) ∨ (x < y ∧ ¬ x = y ∧ Lib.compareInt x y = -1) ∨ (¬ x < y ∧ ¬ x = y ∧ Lib.compareInt x y = 1) := by
    intro x y
    unfold Lib.compareInt
    by_cases h1 : x < y
    · exact .inr (.inl ⟨h1, by omega, by rw [if_pos h1]⟩)
    · by_cases h2 : x > y
      · exact .inr (.inr ⟨h1, by omega, by rw [if_neg h1, if_pos h2]⟩)
      · exact .inl ⟨by omega, by rw [if_neg h1, if_neg h2]⟩
  unfold lessK
  rcases h k1 k2 with ⟨e1, f1⟩ | ⟨e1, g1, f1⟩ | ⟨e1, g1, f1⟩
  · rw [f1, if_pos e1]
    rcases h a1 a2 with ⟨e2, f2⟩ | ⟨e2, g2, f2⟩ | ⟨e2, g2, f2⟩
    · rw [f2, if_pos e2]
      rcases h b1 b2 with ⟨e3, f3⟩ | ⟨e3, g3, f3⟩ | ⟨e3, g3, f3⟩
      · rw [f3, if_pos e3]
        rcases h c1 c2 with ⟨e4, f4⟩ | ⟨e4, g4, f4⟩ | ⟨e4, g4, f4⟩ <;> (rw [f4]; simp [orOf, e4])
      · simp [orOf, f3, e3, g3]
      · simp [orOf, f3, e3, g3]
    · simp [orOf, f2, e2, g2]
    · simp [orOf, f2, e2, g2]
  · simp [orOf, f1, e1, g1]
  · simp [orOf, f1, e1, g1]

set_option maxRecDepth 100000 in
set_option maxHeartbeats 2000000 in
theorem less_any (k1 a1 b1 c1 k2 a2 b2 c2 : Int) (w : World) : Calls Try.prog 19 #[keyV k1 a1 b1 c1, keyV k2 a2 b2 c2] w fun e w' => e = .returned (.bool (lessK k1 a1 b1 c1 k2 a2 b2 c2)) ∧ Kept No w w' := by
  have H1 : Hid _ := fun w => compareI_any k1 k2 w
  have H2 : Hid _ := fun w => compareI_any a1 a2 w
  have H3 : Hid _ := fun w => compareI_any b1 b2 w
  have H4 : Hid _ := fun w => compareI_any c1 c2 w
  rw [← orOf_less]
  generalize Lib.compareInt k1 k2 = x1 at H1
  generalize Lib.compareInt a1 a2 = x2 at H2
  generalize Lib.compareInt b1 b2 = x3 at H3
  generalize Lib.compareInt c1 c2 = x4 at H4
  obtain ⟨r, hr⟩ : ∃ r, orOf [x1, x2, x3, x4] = r := ⟨_, rfl⟩
  have HR : Hid (orOf [x1, x2, x3, x4] = r) := hr
  rw [hr]
  clear hr
  unfold keyV
  go_enter Try.func19, Try.ntmps19
  go_wp2
  obtain ⟨w0, hw0⟩ : ∃ w0, w0 = (w.alloc (.cells #[.int .i64 k1, .int .i64 a1, .int .i64 b1, .int .i64 c1] 43)).alloc (.cells #[.int .i64 k2, .int .i64 a2, .int .i64 b2, .int .i64 c2] 43) := ⟨_, rfl⟩
  rw [← hw0]
  refine wp_region_still_tail 20 (by kernel_rfl) (by kernel_rfl) ?_
  simp only [List.take_succ_cons, List.take_zero, List.drop_succ_cons, List.drop_zero]
  obtain ⟨w1, hw1⟩ : ∃ w1 : World, w1 = { w0 with drawn := w0.drawn + 1 } := ⟨_, rfl⟩
  rw [← hw1]
  have HX : Hid (Box w1 w.heap.size 43 #[.int .i64 k1, .int .i64 a1, .int .i64 b1, .int .i64 c1]) := by
    rw [hw1, hw0]; exact (Box.new w 43 #[.int .i64 k1, .int .i64 a1, .int .i64 b1, .int .i64 c1]).alloc _
  have HY : Hid (Box w1 (w.heap.size + 1) 43 #[.int .i64 k2, .int .i64 a2, .int .i64 b2, .int .i64 c2]) := by
    rw [hw1, hw0]; show Box _ _ _ _
    have := Box.new (w.alloc (.cells #[.int .i64 k1, .int .i64 a1, .int .i64 b1, .int .i64 c1] 43)) 43 #[.int .i64 k2, .int .i64 a2, .int .i64 b2, .int .i64 c2]
    simpa [Box] using this
  have HK : Hid (Kept No w w1) := by
    rw [hw1, hw0]; exact (((Kept.refl No w).alloc _).alloc _).drew
  clear hw1 hw0
  have p0 := HX.out.cell 0
  have p1 := HX.out.cell 1
  have p2 := HX.out.cell 2
  have p3 := HX.out.cell 3
  have q0 := HY.out.cell 0
  have q1 := HY.out.cell 1
  have q2 := HY.out.cell 2
  have q3 := HY.out.cell 3
  simp only [List.getElem?_toArray, List.getElem?_cons_zero, List.getElem?_cons_succ] at p0 p1 p2 p3 q0 q1 q2 q3
  still_step
  still_step
  still_step
  still_step
  still_call (H1.out _)
  still_step
  still_step
  still_step
  still_step
  still_call (H2.out _)
  still_step
  still_step
  still_step
  still_step
  still_call (H3.out _)
  still_step
  still_step
  still_step
  still_step
  still_call (H4.out _)
  refine wpStill_nil ?_
  have HN : Hid (Nums .i64 (w1.alloc (.cells #[.int .i64 x1, .int .i64 x2, .int .i64 x3, .int .i64 x4] 3)) (some ⟨w1.heap.size, 0, none⟩) [x1, x2, x3, x4]) := built_nums w1 3 [x1, x2, x3, x4]
  go_wp2_with (go_at_call 42
               refine (or_any _ _ _ [x1, x2, x3, x4] rfl _ (by simp) HN.out).mono ?_
               rintro e w2 ⟨rfl, h2⟩
               rw [h2, HR.out]
               clear h2 w2)
  go_ret
  exact ⟨rfl, HK.out.alloc _⟩

end Go.Proofs.Ytpapbleabjpbfaa
