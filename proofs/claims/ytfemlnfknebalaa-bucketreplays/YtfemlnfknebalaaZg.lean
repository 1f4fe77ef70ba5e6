import Derived.Test.YtfemlnfknebalaaZf
namespace Go.Proofs.Ytfemlnfknebalaa
open Go.RowKit
set_option linter.unusedVariables false
set_option linter.unusedSimpArgs false

theorem badC_in (c : Cm) : badC c = (!inB c.k 1 7 || (!inB c.cl 1 255 || !inB c.op 1 1099511627776)) := by
  rw [Bool.eq_iff_iff]
  simp only [badC, inB, Bool.or_eq_true, Bool.not_eq_true', Bool.and_eq_false_iff, decide_eq_true_eq, decide_eq_false_iff_not]
  omega
set_option maxRecDepth 100000 in
set_option maxHeartbeats 4000000 in
theorem refApply_no (up : Int) (ea : Option Addr) (en ec : Nat) (la : Option Addr) (ln lc : Nat) (c : Cm) (room : Int) (w : World) (hr : refS up c ≠ 0) : Calls Try.prog 26 #[.agg (Bv.cells ⟨up, ⟨ea, en, ec⟩, ⟨la, ln, lc⟩⟩), .agg (Cm.cells c), .int .i64 room] w (fun e w' => e = .returned (.tuple #[.agg (Bv.cells bvZ), .agg (Av.cells avZ), .int .i64 (refS up c)]) ∧ Kept No w w') := by
  obtain ⟨C, hC⟩ : ∃ C : Ending → World → Prop, C = (fun e w' => e = .returned (.tuple #[.agg (Bv.cells bvZ), .agg (Av.cells avZ), .int .i64 (refS up c)]) ∧ Kept No w w') := ⟨_, rfl⟩
  have HC : Hid (C = (fun e w' => e = .returned (.tuple #[.agg (Bv.cells bvZ), .agg (Av.cells avZ), .int .i64 (refS up c)]) ∧ Kept No w w')) := hC
  rw [← hC]
  clear hC
  have HRF : Hid (refS up c ≠ 0) := hr
  clear hr
  have HF : Hid (Fr No w w []) := Fr.start _ _
  go_enter Try.func26, Try.ntmps26
  go_upto_region 0 with fail
  refine WL.start ?_
  refine wp_runW (.pointer (some ⟨w.heap.size, 0, none⟩)) (w.alloc (.cells (Bv.cells ⟨up, ⟨ea, en, ec⟩, ⟨la, ln, lc⟩⟩) 25)) (exec_box 25 _ rfl (Bv.cells ⟨up, ⟨ea, en, ec⟩, ⟨la, ln, lc⟩⟩) (by kernel_rfl)) (by kernel_rfl) ?_
  try simp only [pA, pB, p1, p2, p3]
  have HF : Hid (Fr No w (w.alloc (.cells (Bv.cells ⟨up, ⟨ea, en, ec⟩, ⟨la, ln, lc⟩⟩) 25)) [(w.heap.size, 25, Bv.cells ⟨up, ⟨ea, en, ec⟩, ⟨la, ln, lc⟩⟩)]) := HF.out.alloc _ _
  generalize w.alloc (.cells (Bv.cells ⟨up, ⟨ea, en, ec⟩, ⟨la, ln, lc⟩⟩) 25) = wk2 at HF ⊢
  generalize w.heap.size = gk1 at HF ⊢
  refine wp_runW (.pointer (some ⟨wk2.heap.size, 0, none⟩)) (wk2.alloc (.cells (Cm.cells c) 29)) (exec_box 29 _ rfl (Cm.cells c) (by kernel_rfl)) (by kernel_rfl) ?_
  try simp only [pA, pB, p1, p2, p3]
  have HF : Hid (Fr No w (wk2.alloc (.cells (Cm.cells c) 29)) [(gk1, 25, Bv.cells ⟨up, ⟨ea, en, ec⟩, ⟨la, ln, lc⟩⟩), (wk2.heap.size, 29, Cm.cells c)]) := HF.out.alloc _ _
  generalize wk2.alloc (.cells (Cm.cells c) 29) = wk4 at HF ⊢
  generalize wk2.heap.size = gk3 at HF ⊢
  refine wp_runW (.pointer (some ⟨wk4.heap.size, 0, none⟩)) (wk4.alloc (.cells (Bv.cells bvZ) 25)) (exec_alloc 25 rfl (Bv.cells bvZ) zero25) (by kernel_rfl) ?_
  try simp only [pA, pB, p1, p2, p3]
  have HF : Hid (Fr No w (wk4.alloc (.cells (Bv.cells bvZ) 25)) [(gk1, 25, Bv.cells ⟨up, ⟨ea, en, ec⟩, ⟨la, ln, lc⟩⟩), (gk3, 29, Cm.cells c), (wk4.heap.size, 25, Bv.cells bvZ)]) := HF.out.alloc _ _
  generalize wk4.alloc (.cells (Bv.cells bvZ) 25) = wk6 at HF ⊢
  generalize wk4.heap.size = gk5 at HF ⊢
  refine wp_runW (.pointer (some ⟨wk6.heap.size, 0, none⟩)) (wk6.alloc (.cells (Av.cells avZ) 56)) (exec_alloc 56 rfl (Av.cells avZ) zero56) (by kernel_rfl) ?_
  try simp only [pA, pB, p1, p2, p3]
  have HF : Hid (Fr No w (wk6.alloc (.cells (Av.cells avZ) 56)) [(gk1, 25, Bv.cells ⟨up, ⟨ea, en, ec⟩, ⟨la, ln, lc⟩⟩), (gk3, 29, Cm.cells c), (gk5, 25, Bv.cells bvZ), (wk6.heap.size, 56, Av.cells avZ)]) := HF.out.alloc _ _
  generalize wk6.alloc (.cells (Av.cells avZ) 56) = wk8 at HF ⊢
  generalize wk6.heap.size = gk7 at HF ⊢
  refine tK (.int .i64 0) ?_
  try simp only [pA, pB, p1, p2, p3]
  refine WL.nil ?_
  try simp only [pA, pB, p1, p2, p3]
  go_upto_region 1 with fail
  refine WL.start ?_
  refine tK (.pointer (some ⟨gk3, 0, none⟩)) ?_
  try simp only [pA, pB, p1, p2, p3]
  refine tW (.int .i64 c.k) (exec_load 3 _ rfl ⟨gk3, 0, none⟩ (by kernel_rfl) (.int .i64 c.k) (ld3 ((HF.out.box 1 _ _ _ rfl).cell 0))) ?_
  try simp only [pA, pB, p1, p2, p3]
  cases q1 : (inB c.k 1 7)
  ·skip
   refine wp_callW 28 #[.int .i64 c.k, .int .i64 1, .int .i64 7] (by kernel_rfl) _ (within_any _ _ _ _) (by kernel_rfl) ?_
   rintro e wq ⟨rfl, hwq⟩
   rw [hwq]
   clear hwq wq
   refine ⟨.bool false, by rw [q1], ?_⟩
   try simp only [pA, pB, p1, p2, p3]
   refine tK (.bool true) ?_
   try simp only [pA, pB, p1, p2, p3]
   refine tK (.bool true) ?_
   try simp only [pA, pB, p1, p2, p3]
   refine sK ?_
   try simp only [pA, pB, p1, p2, p3]
   refine sK ?_
   try simp only [pA, pB, p1, p2, p3]
   refine sK ?_
   try simp only [pA, pB, p1, p2, p3]
   refine sK ?_
   try simp only [pA, pB, p1, p2, p3]
   refine tK (.bool true) ?_
   try simp only [pA, pB, p1, p2, p3]
   refine tK (.bool true) ?_
   try simp only [pA, pB, p1, p2, p3]
   refine sK ?_
   try simp only [pA, pB, p1, p2, p3]
   refine sK ?_
   try simp only [pA, pB, p1, p2, p3]
   refine sK ?_
   try simp only [pA, pB, p1, p2, p3]
   refine sK ?_
   try simp only [pA, pB, p1, p2, p3]
   refine tK (.bool true) ?_
   try simp only [pA, pB, p1, p2, p3]
   refine WL.nil ?_
   try simp only [pA, pB, p1, p2, p3]
   go_upto_region 2 with fail
   refine WL.start ?_
   refine tW (.agg (Bv.cells bvZ)) (exec_build 25 _ rfl (Bv.cells bvZ) (by kernel_rfl)) ?_
   try simp only [pA, pB, p1, p2, p3]
   refine tW (.agg (Av.cells avZ)) (exec_build 56 _ rfl (Av.cells avZ) (by kernel_rfl)) ?_
   try simp only [pA, pB, p1, p2, p3]
   refine wp_storeW 25 _ _ rfl ⟨gk5, 0, none⟩ (.agg (Bv.cells bvZ)) (by kernel_rfl) (by kernel_rfl) (wk8.setRow gk5 (Bv.cells bvZ)) (st25 (HF.out.box 2 _ _ _ rfl) rfl) (by kernel_rfl) ?_
   try simp only [pA, pB, p1, p2, p3]
   have HF : Hid (Fr No w (wk8.setRow gk5 (Bv.cells bvZ)) [(gk1, 25, Bv.cells ⟨up, ⟨ea, en, ec⟩, ⟨la, ln, lc⟩⟩), (gk3, 29, Cm.cells c), (gk5, 25, Bv.cells bvZ), (gk7, 56, Av.cells avZ)]) := HF.out.set 2 rfl _
   generalize wk8.setRow gk5 (Bv.cells bvZ) = wk9 at HF ⊢
   refine wp_storeW 56 _ _ rfl ⟨gk7, 0, none⟩ (.agg (Av.cells avZ)) (by kernel_rfl) (by kernel_rfl) (wk9.setRow gk7 (Av.cells avZ)) (st56 (HF.out.box 3 _ _ _ rfl) rfl) (by kernel_rfl) ?_
   try simp only [pA, pB, p1, p2, p3]
   have HF : Hid (Fr No w (wk9.setRow gk7 (Av.cells avZ)) [(gk1, 25, Bv.cells ⟨up, ⟨ea, en, ec⟩, ⟨la, ln, lc⟩⟩), (gk3, 29, Cm.cells c), (gk5, 25, Bv.cells bvZ), (gk7, 56, Av.cells avZ)]) := HF.out.set 3 rfl _
   generalize wk9.setRow gk7 (Av.cells avZ) = wk10 at HF ⊢
   refine tK (.int .i64 105) ?_
   try simp only [pA, pB, p1, p2, p3]
   refine WL.nil ?_
   try simp only [pA, pB, p1, p2, p3]
   have hv : refS up c = 105 := by unfold refS; rw [badC_in, q1]; rfl
   go_wp2
   rw [HC.out]
   refine bodyPost_ret (results_row2_tmp (by rfl) _ _ gk5 gk7 (Bv.cells bvZ) (Av.cells avZ) (by rfl) (by rfl) (ld25 (HF.out.box 2 _ _ _ rfl)) (ld56 (HF.out.box 3 _ _ _ rfl))) rfl ?_
   rw [hv]
   exact ⟨rfl, HF.out.kept⟩
  ·skip
   refine wp_callW 28 #[.int .i64 c.k, .int .i64 1, .int .i64 7] (by kernel_rfl) _ (within_any _ _ _ _) (by kernel_rfl) ?_
   rintro e wq ⟨rfl, hwq⟩
   rw [hwq]
   clear hwq wq
   refine ⟨.bool true, by rw [q1], ?_⟩
   try simp only [pA, pB, p1, p2, p3]
   refine tK (.bool false) ?_
   try simp only [pA, pB, p1, p2, p3]
   refine tK (.bool false) ?_
   try simp only [pA, pB, p1, p2, p3]
   refine tK (.pointer (some ⟨gk3, 1, none⟩)) ?_
   try simp only [pA, pB, p1, p2, p3]
   refine tW (.int .i64 c.cl) (exec_load 3 _ rfl ⟨gk3, 1, none⟩ (by kernel_rfl) (.int .i64 c.cl) (ld3 ((HF.out.box 1 _ _ _ rfl).cell 1))) ?_
   try simp only [pA, pB, p1, p2, p3]
   cases q2 : (inB c.cl 1 255)
   ·skip
    refine wp_callW 28 #[.int .i64 c.cl, .int .i64 1, .int .i64 255] (by kernel_rfl) _ (within_any _ _ _ _) (by kernel_rfl) ?_
    rintro e wq ⟨rfl, hwq⟩
    rw [hwq]
    clear hwq wq
    refine ⟨.bool false, by rw [q2], ?_⟩
    try simp only [pA, pB, p1, p2, p3]
    refine tK (.bool true) ?_
    try simp only [pA, pB, p1, p2, p3]
    refine tK (.bool true) ?_
    try simp only [pA, pB, p1, p2, p3]
    refine tK (.bool true) ?_
    try simp only [pA, pB, p1, p2, p3]
    refine sK ?_
    try simp only [pA, pB, p1, p2, p3]
    refine sK ?_
    try simp only [pA, pB, p1, p2, p3]
    refine sK ?_
    try simp only [pA, pB, p1, p2, p3]
    refine sK ?_
    try simp only [pA, pB, p1, p2, p3]
    refine tK (.bool true) ?_
    try simp only [pA, pB, p1, p2, p3]
    refine WL.nil ?_
    try simp only [pA, pB, p1, p2, p3]
    go_upto_region 2 with fail
    refine WL.start ?_
    refine tW (.agg (Bv.cells bvZ)) (exec_build 25 _ rfl (Bv.cells bvZ) (by kernel_rfl)) ?_
    try simp only [pA, pB, p1, p2, p3]
    refine tW (.agg (Av.cells avZ)) (exec_build 56 _ rfl (Av.cells avZ) (by kernel_rfl)) ?_
    try simp only [pA, pB, p1, p2, p3]
    refine wp_storeW 25 _ _ rfl ⟨gk5, 0, none⟩ (.agg (Bv.cells bvZ)) (by kernel_rfl) (by kernel_rfl) (wk8.setRow gk5 (Bv.cells bvZ)) (st25 (HF.out.box 2 _ _ _ rfl) rfl) (by kernel_rfl) ?_
    try simp only [pA, pB, p1, p2, p3]
    have HF : Hid (Fr No w (wk8.setRow gk5 (Bv.cells bvZ)) [(gk1, 25, Bv.cells ⟨up, ⟨ea, en, ec⟩, ⟨la, ln, lc⟩⟩), (gk3, 29, Cm.cells c), (gk5, 25, Bv.cells bvZ), (gk7, 56, Av.cells avZ)]) := HF.out.set 2 rfl _
    generalize wk8.setRow gk5 (Bv.cells bvZ) = wk11 at HF ⊢
    refine wp_storeW 56 _ _ rfl ⟨gk7, 0, none⟩ (.agg (Av.cells avZ)) (by kernel_rfl) (by kernel_rfl) (wk11.setRow gk7 (Av.cells avZ)) (st56 (HF.out.box 3 _ _ _ rfl) rfl) (by kernel_rfl) ?_
    try simp only [pA, pB, p1, p2, p3]
    have HF : Hid (Fr No w (wk11.setRow gk7 (Av.cells avZ)) [(gk1, 25, Bv.cells ⟨up, ⟨ea, en, ec⟩, ⟨la, ln, lc⟩⟩), (gk3, 29, Cm.cells c), (gk5, 25, Bv.cells bvZ), (gk7, 56, Av.cells avZ)]) := HF.out.set 3 rfl _
    generalize wk11.setRow gk7 (Av.cells avZ) = wk12 at HF ⊢
    refine tK (.int .i64 105) ?_
    try simp only [pA, pB, p1, p2, p3]
    refine WL.nil ?_
    try simp only [pA, pB, p1, p2, p3]
    have hv : refS up c = 105 := by unfold refS; rw [badC_in, q1, q2]; rfl
    go_wp2
    rw [HC.out]
    refine bodyPost_ret (results_row2_tmp (by rfl) _ _ gk5 gk7 (Bv.cells bvZ) (Av.cells avZ) (by rfl) (by rfl) (ld25 (HF.out.box 2 _ _ _ rfl)) (ld56 (HF.out.box 3 _ _ _ rfl))) rfl ?_
    rw [hv]
    exact ⟨rfl, HF.out.kept⟩
   ·skip
    refine wp_callW 28 #[.int .i64 c.cl, .int .i64 1, .int .i64 255] (by kernel_rfl) _ (within_any _ _ _ _) (by kernel_rfl) ?_
    rintro e wq ⟨rfl, hwq⟩
    rw [hwq]
    clear hwq wq
    refine ⟨.bool true, by rw [q2], ?_⟩
    try simp only [pA, pB, p1, p2, p3]
    refine tK (.bool false) ?_
    try simp only [pA, pB, p1, p2, p3]
    refine tK (.bool false) ?_
    try simp only [pA, pB, p1, p2, p3]
    refine tK (.bool false) ?_
    try simp only [pA, pB, p1, p2, p3]
    refine tK (.pointer (some ⟨gk3, 2, none⟩)) ?_
    try simp only [pA, pB, p1, p2, p3]
    refine tW (.int .i64 c.op) (exec_load 3 _ rfl ⟨gk3, 2, none⟩ (by kernel_rfl) (.int .i64 c.op) (ld3 ((HF.out.box 1 _ _ _ rfl).cell 2))) ?_
    try simp only [pA, pB, p1, p2, p3]
    cases q3 : (inB c.op 1 1099511627776)
    ·skip
     refine wp_callW 28 #[.int .i64 c.op, .int .i64 1, .int .i64 1099511627776] (by kernel_rfl) _ (within_any _ _ _ _) (by kernel_rfl) ?_
     rintro e wq ⟨rfl, hwq⟩
     rw [hwq]
     clear hwq wq
     refine ⟨.bool false, by rw [q3], ?_⟩
     try simp only [pA, pB, p1, p2, p3]
     refine tK (.bool true) ?_
     try simp only [pA, pB, p1, p2, p3]
     refine tK (.bool true) ?_
     try simp only [pA, pB, p1, p2, p3]
     refine WL.nil ?_
     try simp only [pA, pB, p1, p2, p3]
     go_upto_region 2 with fail
     refine WL.start ?_
     refine tW (.agg (Bv.cells bvZ)) (exec_build 25 _ rfl (Bv.cells bvZ) (by kernel_rfl)) ?_
     try simp only [pA, pB, p1, p2, p3]
     refine tW (.agg (Av.cells avZ)) (exec_build 56 _ rfl (Av.cells avZ) (by kernel_rfl)) ?_
     try simp only [pA, pB, p1, p2, p3]
     refine wp_storeW 25 _ _ rfl ⟨gk5, 0, none⟩ (.agg (Bv.cells bvZ)) (by kernel_rfl) (by kernel_rfl) (wk8.setRow gk5 (Bv.cells bvZ)) (st25 (HF.out.box 2 _ _ _ rfl) rfl) (by kernel_rfl) ?_
     try simp only [pA, pB, p1, p2, p3]
     have HF : Hid (Fr No w (wk8.setRow gk5 (Bv.cells bvZ)) [(gk1, 25, Bv.cells ⟨up, ⟨ea, en, ec⟩, ⟨la, ln, lc⟩⟩), (gk3, 29, Cm.cells c), (gk5, 25, Bv.cells bvZ), (gk7, 56, Av.cells avZ)]) := HF.out.set 2 rfl _
     generalize wk8.setRow gk5 (Bv.cells bvZ) = wk13 at HF ⊢
     refine wp_storeW 56 _ _ rfl ⟨gk7, 0, none⟩ (.agg (Av.cells avZ)) (by kernel_rfl) (by kernel_rfl) (wk13.setRow gk7 (Av.cells avZ)) (st56 (HF.out.box 3 _ _ _ rfl) rfl) (by kernel_rfl) ?_
     try simp only [pA, pB, p1, p2, p3]
     have HF : Hid (Fr No w (wk13.setRow gk7 (Av.cells avZ)) [(gk1, 25, Bv.cells ⟨up, ⟨ea, en, ec⟩, ⟨la, ln, lc⟩⟩), (gk3, 29, Cm.cells c), (gk5, 25, Bv.cells bvZ), (gk7, 56, Av.cells avZ)]) := HF.out.set 3 rfl _
     generalize wk13.setRow gk7 (Av.cells avZ) = wk14 at HF ⊢
     refine tK (.int .i64 105) ?_
     try simp only [pA, pB, p1, p2, p3]
     refine WL.nil ?_
     try simp only [pA, pB, p1, p2, p3]
     have hv : refS up c = 105 := by unfold refS; rw [badC_in, q1, q2, q3]; rfl
     go_wp2
     rw [HC.out]
     refine bodyPost_ret (results_row2_tmp (by rfl) _ _ gk5 gk7 (Bv.cells bvZ) (Av.cells avZ) (by rfl) (by rfl) (ld25 (HF.out.box 2 _ _ _ rfl)) (ld56 (HF.out.box 3 _ _ _ rfl))) rfl ?_
     rw [hv]
     exact ⟨rfl, HF.out.kept⟩
    ·skip
     refine wp_callW 28 #[.int .i64 c.op, .int .i64 1, .int .i64 1099511627776] (by kernel_rfl) _ (within_any _ _ _ _) (by kernel_rfl) ?_
     rintro e wq ⟨rfl, hwq⟩
     rw [hwq]
     clear hwq wq
     refine ⟨.bool true, by rw [q3], ?_⟩
     try simp only [pA, pB, p1, p2, p3]
     refine tK (.bool false) ?_
     try simp only [pA, pB, p1, p2, p3]
     refine tK (.bool false) ?_
     try simp only [pA, pB, p1, p2, p3]
     refine WL.nil ?_
     try simp only [pA, pB, p1, p2, p3]
     go_upto_region 3 with fail
     refine WL.start ?_
     refine tK (.pointer (some ⟨gk1, 0, none⟩)) ?_
     try simp only [pA, pB, p1, p2, p3]
     refine tW (.int .i64 up) (exec_load 3 _ rfl ⟨gk1, 0, none⟩ (by kernel_rfl) (.int .i64 up) (ld3 ((HF.out.box 0 _ _ _ rfl).cell 0))) ?_
     try simp only [pA, pB, p1, p2, p3]
     cases q4 : (decide (1048576 ≤ up))
     ·skip
      refine tW (.bool false) (exec_bin .geq 3 _ _ _ rfl (.int .i64 up) (.int .i64 1048576) (.bool false) (by kernel_rfl) (by kernel_rfl) (by kernel_rfl) (by rw [b_geq, q4]; try rfl)) ?_
      try simp only [pA, pB, p1, p2, p3]
      refine WL.nil ?_
      try simp only [pA, pB, p1, p2, p3]
      exact absurd (by unfold refS; rw [badC_in, q1, q2, q3, q4]; rfl) HRF.out
     ·skip
      refine tW (.bool true) (exec_bin .geq 3 _ _ _ rfl (.int .i64 up) (.int .i64 1048576) (.bool true) (by kernel_rfl) (by kernel_rfl) (by kernel_rfl) (by rw [b_geq, q4]; try rfl)) ?_
      try simp only [pA, pB, p1, p2, p3]
      refine WL.nil ?_
      try simp only [pA, pB, p1, p2, p3]
      go_upto_region 4 with fail
      refine WL.start ?_
      refine tW (.agg (Bv.cells bvZ)) (exec_build 25 _ rfl (Bv.cells bvZ) (by kernel_rfl)) ?_
      try simp only [pA, pB, p1, p2, p3]
      refine tW (.agg (Av.cells avZ)) (exec_build 56 _ rfl (Av.cells avZ) (by kernel_rfl)) ?_
      try simp only [pA, pB, p1, p2, p3]
      refine wp_storeW 25 _ _ rfl ⟨gk5, 0, none⟩ (.agg (Bv.cells bvZ)) (by kernel_rfl) (by kernel_rfl) (wk8.setRow gk5 (Bv.cells bvZ)) (st25 (HF.out.box 2 _ _ _ rfl) rfl) (by kernel_rfl) ?_
      try simp only [pA, pB, p1, p2, p3]
      have HF : Hid (Fr No w (wk8.setRow gk5 (Bv.cells bvZ)) [(gk1, 25, Bv.cells ⟨up, ⟨ea, en, ec⟩, ⟨la, ln, lc⟩⟩), (gk3, 29, Cm.cells c), (gk5, 25, Bv.cells bvZ), (gk7, 56, Av.cells avZ)]) := HF.out.set 2 rfl _
      generalize wk8.setRow gk5 (Bv.cells bvZ) = wk15 at HF ⊢
      refine wp_storeW 56 _ _ rfl ⟨gk7, 0, none⟩ (.agg (Av.cells avZ)) (by kernel_rfl) (by kernel_rfl) (wk15.setRow gk7 (Av.cells avZ)) (st56 (HF.out.box 3 _ _ _ rfl) rfl) (by kernel_rfl) ?_
      try simp only [pA, pB, p1, p2, p3]
      have HF : Hid (Fr No w (wk15.setRow gk7 (Av.cells avZ)) [(gk1, 25, Bv.cells ⟨up, ⟨ea, en, ec⟩, ⟨la, ln, lc⟩⟩), (gk3, 29, Cm.cells c), (gk5, 25, Bv.cells bvZ), (gk7, 56, Av.cells avZ)]) := HF.out.set 3 rfl _
      generalize wk15.setRow gk7 (Av.cells avZ) = wk16 at HF ⊢
      refine tK (.int .i64 4) ?_
      try simp only [pA, pB, p1, p2, p3]
      refine WL.nil ?_
      try simp only [pA, pB, p1, p2, p3]
      have hv : refS up c = 4 := by unfold refS; rw [badC_in, q1, q2, q3, q4]; rfl
      go_wp2
      rw [HC.out]
      refine bodyPost_ret (results_row2_tmp (by rfl) _ _ gk5 gk7 (Bv.cells bvZ) (Av.cells avZ) (by rfl) (by rfl) (ld25 (HF.out.box 2 _ _ _ rfl)) (ld56 (HF.out.box 3 _ _ _ rfl))) rfl ?_
      rw [hv]
      exact ⟨rfl, HF.out.kept⟩

end Go.Proofs.Ytfemlnfknebalaa
