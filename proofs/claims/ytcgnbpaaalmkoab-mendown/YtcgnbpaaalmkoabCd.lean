import Derived.Test.YtcgnbpaaalmkoabCc
namespace Go.Proofs.Ytcgnbpaaalmkoab
open Go.RowKit
set_option linter.unusedVariables false
set_option linter.unusedSimpArgs false

theorem tab_succ {α : Type} (n : Nat) (f : Nat → α) : tab (n + 1) f = tab n f ++ [f n] := by simp [tab, List.range_succ]
theorem OwC.kept {S : Nat → Prop} {w w' : World} {base : Nat} {s : Sl} {es : List Cm} (h : OwC w base s es) (hk : Kept S w w') (hS : ∀ k, At s.a k → ¬ S k) : OwC w' base s es := ⟨h.own.kept hk hS, h.len⟩
theorem OwC.no {w w' : World} {base : Nat} {s : Sl} {es : List Cm} (h : OwC w base s es) (hk : Kept No w w') : OwC w' base s es := h.kept hk (fun _ _ e => e)
theorem cell_cs (e : Cm) (j : Nat) (u : Value) (h : e.cs[j]? = some u) : e.cells[j]? = some u := by unfold Cm.cells; rw [List.getElem?_toArray]; exact h
set_option maxRecDepth 100000 in
set_option maxHeartbeats 4000000 in
theorem refHave_zero (a : Mg) (h : Hd) (w : World) (hz : (a.k == 21 && (a.ky.k == 1 || (a.ky.k == 2 && askB a.st.n))) = false) : Calls Try.prog 8 #[.agg (Mg.cells a), .agg (Hd.cells h)] w (fun e w' => e = .returned (.agg (Mg.cells mgZ)) ∧ Kept No w w') := by
  obtain ⟨C, hC⟩ : ∃ C : Ending → World → Prop, C = (fun e w' => e = .returned (.agg (Mg.cells mgZ)) ∧ Kept No w w') := ⟨_, rfl⟩
  have HC : Hid (C = (fun e w' => e = .returned (.agg (Mg.cells mgZ)) ∧ Kept No w w')) := hC
  rw [← hC]
  clear hC
  have HF : Hid (Fr No w w []) := Fr.start _ _
  go_enter Try.func8, Try.ntmps8
  go_upto_region 0 with fail
  refine WL.start ?_
  refine wp_runW (.pointer (some ⟨w.heap.size, 0, none⟩)) (w.alloc (.cells (Mg.cells a) 46)) (exec_box 46 _ rfl (Mg.cells a) (by kernel_rfl)) (by kernel_rfl) ?_
  try simp only [pS]
  have HF : Hid (Fr No w _ [(w.heap.size, 46, Mg.cells a)]) := HF.out.alloc _ _
  generalize w.alloc (.cells (Mg.cells a) 46) = wk2 at HF ⊢
  generalize w.heap.size = gk1 at HF ⊢
  refine wp_runW (.pointer (some ⟨wk2.heap.size, 0, none⟩)) (wk2.alloc (.cells (Hd.cells h) 33)) (exec_box 33 _ rfl (Hd.cells h) (by kernel_rfl)) (by kernel_rfl) ?_
  try simp only [pS]
  have HF : Hid (Fr No w _ [(gk1, 46, Mg.cells a), (wk2.heap.size, 33, Hd.cells h)]) := HF.out.alloc _ _
  generalize wk2.alloc (.cells (Hd.cells h) 33) = wk4 at HF ⊢
  generalize wk2.heap.size = gk3 at HF ⊢
  refine wp_runW (.pointer (some ⟨wk4.heap.size, 0, none⟩)) (wk4.alloc (.cells (Mg.cells mgZ) 46)) (exec_alloc 46 rfl (Mg.cells mgZ) zero50) (by kernel_rfl) ?_
  try simp only [pS]
  have HF : Hid (Fr No w _ [(gk1, 46, Mg.cells a), (gk3, 33, Hd.cells h), (wk4.heap.size, 46, Mg.cells mgZ)]) := HF.out.alloc _ _
  generalize wk4.alloc (.cells (Mg.cells mgZ) 46) = wk6 at HF ⊢
  generalize wk4.heap.size = gk5 at HF ⊢
  refine WL.nil ?_
  try simp only [pS]
  go_upto_region 1 with fail
  refine WL.start ?_
  refine tK (.pointer (some ⟨gk1, 3, none⟩)) ?_
  refine tW (.agg (Ad.cells a.to)) (eL 37 _ rfl ⟨gk1, 3, none⟩ (run_load_part (cs := Mg.cs a) (sub := Ad.cs a.to) (HF.out.box 0 _ _ _ rfl) (part_of (by kernel_rfl)) Try.und43 rfl Try.size43)) ?_
  refine tK (.pointer (some ⟨gk1, 1, none⟩)) ?_
  refine tW (.agg (Ad.cells a.fr)) (eL 37 _ rfl ⟨gk1, 1, none⟩ (run_load_part (cs := Mg.cs a) (sub := Ad.cs a.fr) (HF.out.box 0 _ _ _ rfl) (part_of (by kernel_rfl)) Try.und43 rfl Try.size43)) ?_
  refine tK (.pointer (some ⟨gk1, 7, none⟩)) ?_
  refine tW (.agg (Ky.cells a.ky)) (eL 39 _ rfl ⟨gk1, 7, none⟩ (run_load_part (cs := Mg.cs a) (sub := Ky.cs a.ky) (HF.out.box 0 _ _ _ rfl) (part_of (by kernel_rfl)) Try.und23 rfl Try.size23)) ?_
  refine tW (.agg (Mg.cells ⟨22, a.to, a.fr, 0, 0, a.ky, spZ, spZ, slZ, cZ, bvZ, slZ, false⟩)) (exec_build 46 _ rfl (Mg.cells ⟨22, a.to, a.fr, 0, 0, a.ky, spZ, spZ, slZ, cZ, bvZ, slZ, false⟩) (by kernel_rfl)) ?_
  try simp only [pS]
  refine wp_runW (.pointer (some ⟨wk6.heap.size, 0, none⟩)) (wk6.alloc (.cells (Mg.cells mgZ) 46)) (exec_alloc 46 rfl (Mg.cells mgZ) zero50) (by kernel_rfl) ?_
  try simp only [pS]
  have HF : Hid (Fr No w _ [(gk1, 46, Mg.cells a), (gk3, 33, Hd.cells h), (gk5, 46, Mg.cells mgZ), (wk6.heap.size, 46, Mg.cells mgZ)]) := HF.out.alloc _ _
  generalize wk6.alloc (.cells (Mg.cells mgZ) 46) = wk8 at HF ⊢
  generalize wk6.heap.size = gk7 at HF ⊢
  refine wp_storeW 46 _ _ rfl ⟨gk7, 0, none⟩ (.agg (Mg.cells ⟨22, a.to, a.fr, 0, 0, a.ky, spZ, spZ, slZ, cZ, bvZ, slZ, false⟩)) (by kernel_rfl) (by kernel_rfl) (wk8.setRow gk7 (Mg.cells ⟨22, a.to, a.fr, 0, 0, a.ky, spZ, spZ, slZ, cZ, bvZ, slZ, false⟩)) (run_store_to (cur := Mg.cs mgZ) (vs := Mg.cs ⟨22, a.to, a.fr, 0, 0, a.ky, spZ, spZ, slZ, cZ, bvZ, slZ, false⟩) (new := Mg.cs ⟨22, a.to, a.fr, 0, 0, a.ky, spZ, spZ, slZ, cZ, bvZ, slZ, false⟩) (HF.out.box 3 _ _ _ rfl) (by kernel_rfl) Try.size50 (Nat.le_of_ble_eq_true (by kernel_rfl)) (Mg.oneL _) (by kernel_rfl)) (by kernel_rfl) ?_
  try simp only [pS]
  have HF : Hid (Fr No w _ [(gk1, 46, Mg.cells a), (gk3, 33, Hd.cells h), (gk5, 46, Mg.cells mgZ), (gk7, 46, Mg.cells ⟨22, a.to, a.fr, 0, 0, a.ky, spZ, spZ, slZ, cZ, bvZ, slZ, false⟩)]) := HF.out.set 3 rfl _
  generalize wk8.setRow gk7 (Mg.cells ⟨22, a.to, a.fr, 0, 0, a.ky, spZ, spZ, slZ, cZ, bvZ, slZ, false⟩) = wk9 at HF ⊢
  refine WL.nil ?_
  try simp only [pS]
  go_upto_region 2 with fail
  refine WL.start ?_
  refine tK (.pointer (some ⟨gk1, 0, none⟩)) ?_
  refine tW (.int .i64 a.k) (eL 3 _ rfl ⟨gk1, 0, none⟩ (load_one ((HF.out.box 0 _ _ _ rfl).cell 0 |>.trans (by kernel_rfl)) Try.und3 rfl)) ?_
  try simp only [pS]
  cases q1 : (a.k == 21)
  ·skip
   refine tW (.bool false) (eB .eql 3 _ _ _ rfl (.int .i64 a.k) (.int .i64 21) _ (by rw [b_eql, q1]; try rfl)) ?_
   refine tK (.bool false) ?_
   refine sK ?_
   refine sK ?_
   refine sK ?_
   refine sK ?_
   refine tK (.bool false) ?_
   try simp only [pS]
   refine WL.nil ?_
   try simp only [pS]
   go_upto_region 7 with fail
   refine WL.start ?_
   refine tK (.pointer (some ⟨gk1, 11, none⟩)) ?_
   refine tK (.pointer (some ⟨gk1, 11, none⟩)) ?_
   refine tW (.int .i64 a.st.n) (eL 3 _ rfl ⟨gk1, 11, none⟩ (load_one ((HF.out.box 0 _ _ _ rfl).cell 11 |>.trans (by kernel_rfl)) Try.und3 rfl)) ?_
   refine tK (.int .i64 a.st.n) ?_
   try simp only [pS]
   refine WL.nil ?_
   try simp only [pS]
   go_upto_region 8 with fail
   refine WL.start ?_
   refine tK (.pointer (some ⟨gk1, 0, none⟩)) ?_
   refine tW (.int .i64 a.k) (eL 3 _ rfl ⟨gk1, 0, none⟩ (load_one ((HF.out.box 0 _ _ _ rfl).cell 0 |>.trans (by kernel_rfl)) Try.und3 rfl)) ?_
   refine tW (.bool true) (eB .neq 3 _ _ _ rfl (.int .i64 a.k) (.int .i64 21) _ (by rw [b_neq, q1]; try rfl)) ?_
   refine tK (.bool true) ?_
   refine sK ?_
   refine sK ?_
   refine sK ?_
   refine sK ?_
   refine tK (.bool true) ?_
   refine tK (.bool true) ?_
   refine sK ?_
   refine sK ?_
   refine tK (.bool true) ?_
   refine tK (.bool true) ?_
   refine sK ?_
   refine sK ?_
   refine tK (.bool true) ?_
   try simp only [pS]
   refine WL.nil ?_
   try simp only [pS]
   go_upto_region 9 with fail
   refine WL.start ?_
   refine tW (.agg (Mg.cells mgZ)) (exec_build 46 _ rfl (Mg.cells mgZ) (by kernel_rfl)) ?_
   try simp only [pS]
   refine wp_storeW 46 _ _ rfl ⟨gk5, 0, none⟩ (.agg (Mg.cells mgZ)) (by kernel_rfl) (by kernel_rfl) (wk9.setRow gk5 (Mg.cells mgZ)) (run_store_to (cur := Mg.cs mgZ) (vs := Mg.cs mgZ) (new := Mg.cs mgZ) (HF.out.box 2 _ _ _ rfl) (by kernel_rfl) Try.size50 (Nat.le_of_ble_eq_true (by kernel_rfl)) (Mg.oneL _) (by kernel_rfl)) (by kernel_rfl) ?_
   try simp only [pS]
   have HF : Hid (Fr No w _ [(gk1, 46, Mg.cells a), (gk3, 33, Hd.cells h), (gk5, 46, Mg.cells mgZ), (gk7, 46, Mg.cells ⟨22, a.to, a.fr, 0, 0, a.ky, spZ, spZ, slZ, cZ, bvZ, slZ, false⟩)]) := HF.out.set 2 rfl _
   generalize wk9.setRow gk5 (Mg.cells mgZ) = wk10 at HF ⊢
   refine WL.nil ?_
   try simp only [pS]
   go_wp2
   rw [HC.out]
   refine bodyPost_ret (results_row1 (by rfl) _ _ gk5 (Mg.cells mgZ) (by rfl) (run_load_part (cs := Mg.cs mgZ) (sub := Mg.cs mgZ) (HF.out.box 2 _ _ _ rfl) (Part.all _) Try.und50 rfl Try.size50)) rfl ?_
   exact ⟨rfl, HF.out.kept⟩
  ·skip
   refine tW (.bool true) (eB .eql 3 _ _ _ rfl (.int .i64 a.k) (.int .i64 21) _ (by rw [b_eql, q1]; try rfl)) ?_
   refine tK (.bool true) ?_
   refine tK (.pointer (some ⟨gk1, 7, none⟩)) ?_
   refine tK (.pointer (some ⟨gk1, 7, none⟩)) ?_
   refine tW (.int .i64 a.ky.k) (eL 3 _ rfl ⟨gk1, 7, none⟩ (load_one ((HF.out.box 0 _ _ _ rfl).cell 7 |>.trans (by kernel_rfl)) Try.und3 rfl)) ?_
   try simp only [pS]
   cases q2 : (a.ky.k == 1)
   ·skip
    refine tW (.bool false) (eB .eql 3 _ _ _ rfl (.int .i64 a.ky.k) (.int .i64 1) _ (by rw [b_eql, q2]; try rfl)) ?_
    refine tK (.bool false) ?_
    try simp only [pS]
    refine WL.nil ?_
    try simp only [pS]
    go_upto_region 7 with fail
    refine WL.start ?_
    refine tK (.pointer (some ⟨gk1, 11, none⟩)) ?_
    refine tK (.pointer (some ⟨gk1, 11, none⟩)) ?_
    refine tW (.int .i64 a.st.n) (eL 3 _ rfl ⟨gk1, 11, none⟩ (load_one ((HF.out.box 0 _ _ _ rfl).cell 11 |>.trans (by kernel_rfl)) Try.und3 rfl)) ?_
    refine tK (.int .i64 a.st.n) ?_
    try simp only [pS]
    refine WL.nil ?_
    try simp only [pS]
    go_upto_region 8 with fail
    refine WL.start ?_
    refine tK (.pointer (some ⟨gk1, 0, none⟩)) ?_
    refine tW (.int .i64 a.k) (eL 3 _ rfl ⟨gk1, 0, none⟩ (load_one ((HF.out.box 0 _ _ _ rfl).cell 0 |>.trans (by kernel_rfl)) Try.und3 rfl)) ?_
    refine tW (.bool false) (eB .neq 3 _ _ _ rfl (.int .i64 a.k) (.int .i64 21) _ (by rw [b_neq, q1]; try rfl)) ?_
    refine tK (.bool false) ?_
    refine tK (.pointer (some ⟨gk1, 7, none⟩)) ?_
    refine tK (.pointer (some ⟨gk1, 7, none⟩)) ?_
    refine tW (.int .i64 a.ky.k) (eL 3 _ rfl ⟨gk1, 7, none⟩ (load_one ((HF.out.box 0 _ _ _ rfl).cell 7 |>.trans (by kernel_rfl)) Try.und3 rfl)) ?_
    try simp only [pS]
    cases q3 : (a.ky.k == 2)
    ·skip
     refine tW (.bool true) (eB .neq 3 _ _ _ rfl (.int .i64 a.ky.k) (.int .i64 2) _ (by rw [b_neq, q3]; try rfl)) ?_
     refine tK (.bool true) ?_
     refine tK (.bool true) ?_
     refine sK ?_
     refine sK ?_
     refine tK (.bool true) ?_
     refine tK (.bool true) ?_
     refine sK ?_
     refine sK ?_
     refine tK (.bool true) ?_
     try simp only [pS]
     refine WL.nil ?_
     try simp only [pS]
     go_upto_region 9 with fail
     refine WL.start ?_
     refine tW (.agg (Mg.cells mgZ)) (exec_build 46 _ rfl (Mg.cells mgZ) (by kernel_rfl)) ?_
     try simp only [pS]
     refine wp_storeW 46 _ _ rfl ⟨gk5, 0, none⟩ (.agg (Mg.cells mgZ)) (by kernel_rfl) (by kernel_rfl) (wk9.setRow gk5 (Mg.cells mgZ)) (run_store_to (cur := Mg.cs mgZ) (vs := Mg.cs mgZ) (new := Mg.cs mgZ) (HF.out.box 2 _ _ _ rfl) (by kernel_rfl) Try.size50 (Nat.le_of_ble_eq_true (by kernel_rfl)) (Mg.oneL _) (by kernel_rfl)) (by kernel_rfl) ?_
     try simp only [pS]
     have HF : Hid (Fr No w _ [(gk1, 46, Mg.cells a), (gk3, 33, Hd.cells h), (gk5, 46, Mg.cells mgZ), (gk7, 46, Mg.cells ⟨22, a.to, a.fr, 0, 0, a.ky, spZ, spZ, slZ, cZ, bvZ, slZ, false⟩)]) := HF.out.set 2 rfl _
     generalize wk9.setRow gk5 (Mg.cells mgZ) = wk11 at HF ⊢
     refine WL.nil ?_
     try simp only [pS]
     go_wp2
     rw [HC.out]
     refine bodyPost_ret (results_row1 (by rfl) _ _ gk5 (Mg.cells mgZ) (by rfl) (run_load_part (cs := Mg.cs mgZ) (sub := Mg.cs mgZ) (HF.out.box 2 _ _ _ rfl) (Part.all _) Try.und50 rfl Try.size50)) rfl ?_
     exact ⟨rfl, HF.out.kept⟩
    ·skip
     refine tW (.bool false) (eB .neq 3 _ _ _ rfl (.int .i64 a.ky.k) (.int .i64 2) _ (by rw [b_neq, q3]; try rfl)) ?_
     refine tK (.bool false) ?_
     refine tK (.bool false) ?_
     refine tK (.int .i64 a.st.n) ?_
     try simp only [pS]
     cases q4 : (decide (a.st.n < 1))
     ·skip
      refine tW (.bool false) (eB .lss 3 _ _ _ rfl (.int .i64 a.st.n) (.int .i64 1) _ (by rw [b_lss, q4]; try rfl)) ?_
      refine tK (.bool false) ?_
      refine tK (.bool false) ?_
      refine tK (.int .i64 a.st.n) ?_
      try simp only [pS]
      cases q5 : (decide (1048577 < a.st.n))
      · exact absurd hz (by have u1 := of_decide_eq_false q4; have u2 := of_decide_eq_false q5; simp [askB, q1, q2, q3]; omega)
      ·skip
       refine tW (.bool true) (eB .gtr 3 _ _ _ rfl (.int .i64 a.st.n) (.int .i64 1048577) _ (by rw [b_gtr, q5]; try rfl)) ?_
       refine tK (.bool true) ?_
       try simp only [pS]
       refine WL.nil ?_
       try simp only [pS]
       go_upto_region 9 with fail
       refine WL.start ?_
       refine tW (.agg (Mg.cells mgZ)) (exec_build 46 _ rfl (Mg.cells mgZ) (by kernel_rfl)) ?_
       try simp only [pS]
       refine wp_storeW 46 _ _ rfl ⟨gk5, 0, none⟩ (.agg (Mg.cells mgZ)) (by kernel_rfl) (by kernel_rfl) (wk9.setRow gk5 (Mg.cells mgZ)) (run_store_to (cur := Mg.cs mgZ) (vs := Mg.cs mgZ) (new := Mg.cs mgZ) (HF.out.box 2 _ _ _ rfl) (by kernel_rfl) Try.size50 (Nat.le_of_ble_eq_true (by kernel_rfl)) (Mg.oneL _) (by kernel_rfl)) (by kernel_rfl) ?_
       try simp only [pS]
       have HF : Hid (Fr No w _ [(gk1, 46, Mg.cells a), (gk3, 33, Hd.cells h), (gk5, 46, Mg.cells mgZ), (gk7, 46, Mg.cells ⟨22, a.to, a.fr, 0, 0, a.ky, spZ, spZ, slZ, cZ, bvZ, slZ, false⟩)]) := HF.out.set 2 rfl _
       generalize wk9.setRow gk5 (Mg.cells mgZ) = wk12 at HF ⊢
       refine WL.nil ?_
       try simp only [pS]
       go_wp2
       rw [HC.out]
       refine bodyPost_ret (results_row1 (by rfl) _ _ gk5 (Mg.cells mgZ) (by rfl) (run_load_part (cs := Mg.cs mgZ) (sub := Mg.cs mgZ) (HF.out.box 2 _ _ _ rfl) (Part.all _) Try.und50 rfl Try.size50)) rfl ?_
       exact ⟨rfl, HF.out.kept⟩
     ·skip
      refine tW (.bool true) (eB .lss 3 _ _ _ rfl (.int .i64 a.st.n) (.int .i64 1) _ (by rw [b_lss, q4]; try rfl)) ?_
      refine tK (.bool true) ?_
      refine tK (.bool true) ?_
      refine sK ?_
      refine sK ?_
      refine tK (.bool true) ?_
      try simp only [pS]
      refine WL.nil ?_
      try simp only [pS]
      go_upto_region 9 with fail
      refine WL.start ?_
      refine tW (.agg (Mg.cells mgZ)) (exec_build 46 _ rfl (Mg.cells mgZ) (by kernel_rfl)) ?_
      try simp only [pS]
      refine wp_storeW 46 _ _ rfl ⟨gk5, 0, none⟩ (.agg (Mg.cells mgZ)) (by kernel_rfl) (by kernel_rfl) (wk9.setRow gk5 (Mg.cells mgZ)) (run_store_to (cur := Mg.cs mgZ) (vs := Mg.cs mgZ) (new := Mg.cs mgZ) (HF.out.box 2 _ _ _ rfl) (by kernel_rfl) Try.size50 (Nat.le_of_ble_eq_true (by kernel_rfl)) (Mg.oneL _) (by kernel_rfl)) (by kernel_rfl) ?_
      try simp only [pS]
      have HF : Hid (Fr No w _ [(gk1, 46, Mg.cells a), (gk3, 33, Hd.cells h), (gk5, 46, Mg.cells mgZ), (gk7, 46, Mg.cells ⟨22, a.to, a.fr, 0, 0, a.ky, spZ, spZ, slZ, cZ, bvZ, slZ, false⟩)]) := HF.out.set 2 rfl _
      generalize wk9.setRow gk5 (Mg.cells mgZ) = wk13 at HF ⊢
      refine WL.nil ?_
      try simp only [pS]
      go_wp2
      rw [HC.out]
      refine bodyPost_ret (results_row1 (by rfl) _ _ gk5 (Mg.cells mgZ) (by rfl) (run_load_part (cs := Mg.cs mgZ) (sub := Mg.cs mgZ) (HF.out.box 2 _ _ _ rfl) (Part.all _) Try.und50 rfl Try.size50)) rfl ?_
      exact ⟨rfl, HF.out.kept⟩
   · exact absurd hz (by simp [q1, q2])
set_option maxRecDepth 100000 in
set_option maxHeartbeats 4000000 in
theorem refHave_bucket (a : Mg) (h : Hd) (ps : List Pl) (w : World) (hk21 : (a.k == 21) = true) (hk1 : (a.ky.k == 1) = false) (hk2 : (a.ky.k == 2) = true) (hab : askB a.st.n = true) (hup : decide (a.st.n ≤ h.k.up) = true) (hr : RdP w h.r ps) (hm : ps.length ≤ 10000000000000) : Calls Try.prog 8 #[.agg (Mg.cells a), .agg (Hd.cells h)] w (fun e w' => e = .returned (.agg (Mg.cells { haveM a with bk := h.k, mo := decide (h.k.up < topF h.k.up (decd ps)) })) ∧ Kept No w w') := by
  obtain ⟨C, hC⟩ : ∃ C : Ending → World → Prop, C = (fun e w' => e = .returned (.agg (Mg.cells { haveM a with bk := h.k, mo := decide (h.k.up < topF h.k.up (decd ps)) })) ∧ Kept No w w') := ⟨_, rfl⟩
  have HC : Hid (C = (fun e w' => e = .returned (.agg (Mg.cells { haveM a with bk := h.k, mo := decide (h.k.up < topF h.k.up (decd ps)) })) ∧ Kept No w w')) := hC
  rw [← hC]
  clear hC
  have hn : 1 ≤ a.st.n ∧ a.st.n ≤ 1048577 := by simp [askB] at hab; omega
  have hn1 : decide (a.st.n < 1) = false := decide_eq_false (by omega)
  have hn2 : decide (1048577 < a.st.n) = false := decide_eq_false (by omega)
  have HR : Hid (RdP w h.r ps) := hr
  clear hr hab
  obtain ⟨tp, htp⟩ : ∃ t, t = topF h.k.up (decd ps) := ⟨_, rfl⟩
  rw [← htp] at HC
  have HTP : Hid (topF h.k.up (decd ps) = tp) := htp.symm
  clear htp
  have HF : Hid (Fr No w w []) := Fr.start _ _
  go_enter Try.func8, Try.ntmps8
  go_upto_region 0 with fail
  refine WL.start ?_
  refine wp_runW (.pointer (some ⟨w.heap.size, 0, none⟩)) (w.alloc (.cells (Mg.cells a) 46)) (exec_box 46 _ rfl (Mg.cells a) (by kernel_rfl)) (by kernel_rfl) ?_
  try simp only [pS]
  have HF : Hid (Fr No w _ [(w.heap.size, 46, Mg.cells a)]) := HF.out.alloc _ _
  generalize w.alloc (.cells (Mg.cells a) 46) = wk2 at HF ⊢
  generalize w.heap.size = gk1 at HF ⊢
  refine wp_runW (.pointer (some ⟨wk2.heap.size, 0, none⟩)) (wk2.alloc (.cells (Hd.cells h) 33)) (exec_box 33 _ rfl (Hd.cells h) (by kernel_rfl)) (by kernel_rfl) ?_
  try simp only [pS]
  have HF : Hid (Fr No w _ [(gk1, 46, Mg.cells a), (wk2.heap.size, 33, Hd.cells h)]) := HF.out.alloc _ _
  generalize wk2.alloc (.cells (Hd.cells h) 33) = wk4 at HF ⊢
  generalize wk2.heap.size = gk3 at HF ⊢
  refine wp_runW (.pointer (some ⟨wk4.heap.size, 0, none⟩)) (wk4.alloc (.cells (Mg.cells mgZ) 46)) (exec_alloc 46 rfl (Mg.cells mgZ) zero50) (by kernel_rfl) ?_
  try simp only [pS]
  have HF : Hid (Fr No w _ [(gk1, 46, Mg.cells a), (gk3, 33, Hd.cells h), (wk4.heap.size, 46, Mg.cells mgZ)]) := HF.out.alloc _ _
  generalize wk4.alloc (.cells (Mg.cells mgZ) 46) = wk6 at HF ⊢
  generalize wk4.heap.size = gk5 at HF ⊢
  refine WL.nil ?_
  try simp only [pS]
  go_upto_region 1 with fail
  refine WL.start ?_
  refine tK (.pointer (some ⟨gk1, 3, none⟩)) ?_
  refine tW (.agg (Ad.cells a.to)) (eL 37 _ rfl ⟨gk1, 3, none⟩ (run_load_part (cs := Mg.cs a) (sub := Ad.cs a.to) (HF.out.box 0 _ _ _ rfl) (part_of (by kernel_rfl)) Try.und43 rfl Try.size43)) ?_
  refine tK (.pointer (some ⟨gk1, 1, none⟩)) ?_
  refine tW (.agg (Ad.cells a.fr)) (eL 37 _ rfl ⟨gk1, 1, none⟩ (run_load_part (cs := Mg.cs a) (sub := Ad.cs a.fr) (HF.out.box 0 _ _ _ rfl) (part_of (by kernel_rfl)) Try.und43 rfl Try.size43)) ?_
  refine tK (.pointer (some ⟨gk1, 7, none⟩)) ?_
  refine tW (.agg (Ky.cells a.ky)) (eL 39 _ rfl ⟨gk1, 7, none⟩ (run_load_part (cs := Mg.cs a) (sub := Ky.cs a.ky) (HF.out.box 0 _ _ _ rfl) (part_of (by kernel_rfl)) Try.und23 rfl Try.size23)) ?_
  refine tW (.agg (Mg.cells ⟨22, a.to, a.fr, 0, 0, a.ky, spZ, spZ, slZ, cZ, bvZ, slZ, false⟩)) (exec_build 46 _ rfl (Mg.cells ⟨22, a.to, a.fr, 0, 0, a.ky, spZ, spZ, slZ, cZ, bvZ, slZ, false⟩) (by kernel_rfl)) ?_
  try simp only [pS]
  refine wp_runW (.pointer (some ⟨wk6.heap.size, 0, none⟩)) (wk6.alloc (.cells (Mg.cells mgZ) 46)) (exec_alloc 46 rfl (Mg.cells mgZ) zero50) (by kernel_rfl) ?_
  try simp only [pS]
  have HF : Hid (Fr No w _ [(gk1, 46, Mg.cells a), (gk3, 33, Hd.cells h), (gk5, 46, Mg.cells mgZ), (wk6.heap.size, 46, Mg.cells mgZ)]) := HF.out.alloc _ _
  generalize wk6.alloc (.cells (Mg.cells mgZ) 46) = wk8 at HF ⊢
  generalize wk6.heap.size = gk7 at HF ⊢
  refine wp_storeW 46 _ _ rfl ⟨gk7, 0, none⟩ (.agg (Mg.cells ⟨22, a.to, a.fr, 0, 0, a.ky, spZ, spZ, slZ, cZ, bvZ, slZ, false⟩)) (by kernel_rfl) (by kernel_rfl) (wk8.setRow gk7 (Mg.cells ⟨22, a.to, a.fr, 0, 0, a.ky, spZ, spZ, slZ, cZ, bvZ, slZ, false⟩)) (run_store_to (cur := Mg.cs mgZ) (vs := Mg.cs ⟨22, a.to, a.fr, 0, 0, a.ky, spZ, spZ, slZ, cZ, bvZ, slZ, false⟩) (new := Mg.cs ⟨22, a.to, a.fr, 0, 0, a.ky, spZ, spZ, slZ, cZ, bvZ, slZ, false⟩) (HF.out.box 3 _ _ _ rfl) (by kernel_rfl) Try.size50 (Nat.le_of_ble_eq_true (by kernel_rfl)) (Mg.oneL _) (by kernel_rfl)) (by kernel_rfl) ?_
  try simp only [pS]
  have HF : Hid (Fr No w _ [(gk1, 46, Mg.cells a), (gk3, 33, Hd.cells h), (gk5, 46, Mg.cells mgZ), (gk7, 46, Mg.cells ⟨22, a.to, a.fr, 0, 0, a.ky, spZ, spZ, slZ, cZ, bvZ, slZ, false⟩)]) := HF.out.set 3 rfl _
  generalize wk8.setRow gk7 (Mg.cells ⟨22, a.to, a.fr, 0, 0, a.ky, spZ, spZ, slZ, cZ, bvZ, slZ, false⟩) = wk9 at HF ⊢
  refine WL.nil ?_
  try simp only [pS]
  go_upto_region 2 with fail
  refine WL.start ?_
  refine tK (.pointer (some ⟨gk1, 0, none⟩)) ?_
  refine tW (.int .i64 a.k) (eL 3 _ rfl ⟨gk1, 0, none⟩ (load_one ((HF.out.box 0 _ _ _ rfl).cell 0 |>.trans (by kernel_rfl)) Try.und3 rfl)) ?_
  refine tW (.bool true) (eB .eql 3 _ _ _ rfl (.int .i64 a.k) (.int .i64 21) _ (by rw [b_eql, hk21]; try rfl)) ?_
  refine tK (.bool true) ?_
  refine tK (.pointer (some ⟨gk1, 7, none⟩)) ?_
  refine tK (.pointer (some ⟨gk1, 7, none⟩)) ?_
  refine tW (.int .i64 a.ky.k) (eL 3 _ rfl ⟨gk1, 7, none⟩ (load_one ((HF.out.box 0 _ _ _ rfl).cell 7 |>.trans (by kernel_rfl)) Try.und3 rfl)) ?_
  refine tW (.bool false) (eB .eql 3 _ _ _ rfl (.int .i64 a.ky.k) (.int .i64 1) _ (by rw [b_eql, hk1]; try rfl)) ?_
  refine tK (.bool false) ?_
  try simp only [pS]
  refine WL.nil ?_
  try simp only [pS]
  go_upto_region 7 with fail
  refine WL.start ?_
  refine tK (.pointer (some ⟨gk1, 11, none⟩)) ?_
  refine tK (.pointer (some ⟨gk1, 11, none⟩)) ?_
  refine tW (.int .i64 a.st.n) (eL 3 _ rfl ⟨gk1, 11, none⟩ (load_one ((HF.out.box 0 _ _ _ rfl).cell 11 |>.trans (by kernel_rfl)) Try.und3 rfl)) ?_
  refine tK (.int .i64 a.st.n) ?_
  try simp only [pS]
  refine WL.nil ?_
  try simp only [pS]
  go_upto_region 8 with fail
  refine WL.start ?_
  refine tK (.pointer (some ⟨gk1, 0, none⟩)) ?_
  refine tW (.int .i64 a.k) (eL 3 _ rfl ⟨gk1, 0, none⟩ (load_one ((HF.out.box 0 _ _ _ rfl).cell 0 |>.trans (by kernel_rfl)) Try.und3 rfl)) ?_
  refine tW (.bool false) (eB .neq 3 _ _ _ rfl (.int .i64 a.k) (.int .i64 21) _ (by rw [b_neq, hk21]; try rfl)) ?_
  refine tK (.bool false) ?_
  refine tK (.pointer (some ⟨gk1, 7, none⟩)) ?_
  refine tK (.pointer (some ⟨gk1, 7, none⟩)) ?_
  refine tW (.int .i64 a.ky.k) (eL 3 _ rfl ⟨gk1, 7, none⟩ (load_one ((HF.out.box 0 _ _ _ rfl).cell 7 |>.trans (by kernel_rfl)) Try.und3 rfl)) ?_
  refine tW (.bool false) (eB .neq 3 _ _ _ rfl (.int .i64 a.ky.k) (.int .i64 2) _ (by rw [b_neq, hk2]; try rfl)) ?_
  refine tK (.bool false) ?_
  refine tK (.bool false) ?_
  refine tK (.int .i64 a.st.n) ?_
  refine tW (.bool false) (eB .lss 3 _ _ _ rfl (.int .i64 a.st.n) (.int .i64 1) _ (by rw [b_lss, hn1]; try rfl)) ?_
  refine tK (.bool false) ?_
  refine tK (.bool false) ?_
  refine tK (.int .i64 a.st.n) ?_
  refine tW (.bool false) (eB .gtr 3 _ _ _ rfl (.int .i64 a.st.n) (.int .i64 1048577) _ (by rw [b_gtr, hn2]; try rfl)) ?_
  refine tK (.bool false) ?_
  try simp only [pS]
  refine WL.nil ?_
  try simp only [pS]
  go_upto_region 10 with fail
  refine WL.start ?_
  refine tW (.agg (Hd.cells h)) (eL 33 _ rfl ⟨gk3, 0, none⟩ (run_load_part (cs := Hd.cs h) (sub := Hd.cs h) (HF.out.box 1 _ _ _ rfl) (Part.all _) Try.und35 rfl Try.size35)) ?_
  try simp only [pS]
  refine wp_callW 24 #[.agg (Hd.cells h)] (by kernel_rfl) _ (refTop_any h ps _ (HR.out.no HF.out.kept) hm) (by kernel_rfl) ?_
  rintro e wk10 ⟨rfl, hk⟩
  rw [HTP.out]
  have HF : Hid (Fr No w (wk10) [(gk1, 46, Mg.cells a), (gk3, 33, Hd.cells h), (gk5, 46, Mg.cells mgZ), (gk7, 46, Mg.cells ⟨22, a.to, a.fr, 0, 0, a.ky, spZ, spZ, slZ, cZ, bvZ, slZ, false⟩)]) := HF.out.no hk
  clear hk
  refine ⟨.int .i64 tp, rfl, ?_⟩
  try simp only [pS]
  refine tK (.int .i64 tp) ?_
  try simp only [pS]
  refine WL.nil ?_
  try simp only [pS]
  go_upto_region 11 with fail
  refine WL.start ?_
  refine tK (.pointer (some ⟨gk3, 3, none⟩)) ?_
  refine tK (.pointer (some ⟨gk3, 3, none⟩)) ?_
  refine tW (.int .i64 h.k.up) (eL 3 _ rfl ⟨gk3, 3, none⟩ (load_one ((HF.out.box 1 _ _ _ rfl).cell 3 |>.trans (by kernel_rfl)) Try.und3 rfl)) ?_
  refine tK (.int .i64 a.st.n) ?_
  refine tW (.bool true) (eB .geq 3 _ _ _ rfl (.int .i64 h.k.up) (.int .i64 a.st.n) _ (by rw [b_geq, hup]; try rfl)) ?_
  try simp only [pS]
  refine WL.nil ?_
  try simp only [pS]
  go_upto_region 12 with fail
  refine WL.start ?_
  refine tK (.pointer (some ⟨gk3, 3, none⟩)) ?_
  refine tW (.agg (Bv.cells h.k)) (eL 30 _ rfl ⟨gk3, 3, none⟩ (run_load_part (cs := Hd.cs h) (sub := Bv.cs h.k) (HF.out.box 1 _ _ _ rfl) (part_of (by kernel_rfl)) Try.und32 rfl Try.size32)) ?_
  refine tK (.pointer (some ⟨gk7, 25, none⟩)) ?_
  try simp only [pS]
  refine wp_storeW 30 _ _ rfl ⟨gk7, 25, none⟩ (.agg (Bv.cells h.k)) (by kernel_rfl) (by kernel_rfl) (wk10.setRow gk7 (Mg.cells ⟨22, a.to, a.fr, 0, 0, a.ky, spZ, spZ, slZ, cZ, h.k, slZ, false⟩)) (run_store_to (cur := Mg.cs ⟨22, a.to, a.fr, 0, 0, a.ky, spZ, spZ, slZ, cZ, bvZ, slZ, false⟩) (vs := Bv.cs h.k) (new := Mg.cs ⟨22, a.to, a.fr, 0, 0, a.ky, spZ, spZ, slZ, cZ, h.k, slZ, false⟩) (HF.out.box 3 _ _ _ rfl) (by kernel_rfl) Try.size32 (Nat.le_of_ble_eq_true (by kernel_rfl)) (Bv.oneL _) (by kernel_rfl)) (by kernel_rfl) ?_
  try simp only [pS]
  have HF : Hid (Fr No w _ [(gk1, 46, Mg.cells a), (gk3, 33, Hd.cells h), (gk5, 46, Mg.cells mgZ), (gk7, 46, Mg.cells ⟨22, a.to, a.fr, 0, 0, a.ky, spZ, spZ, slZ, cZ, h.k, slZ, false⟩)]) := HF.out.set 3 rfl _
  generalize wk10.setRow gk7 (Mg.cells ⟨22, a.to, a.fr, 0, 0, a.ky, spZ, spZ, slZ, cZ, h.k, slZ, false⟩) = wk11 at HF ⊢
  refine WL.nil ?_
  try simp only [pS]
  go_upto_region 13 with fail
  refine WL.start ?_
  refine tK (.int .i64 tp) ?_
  refine tK (.pointer (some ⟨gk3, 3, none⟩)) ?_
  refine tK (.pointer (some ⟨gk3, 3, none⟩)) ?_
  refine tW (.int .i64 h.k.up) (eL 3 _ rfl ⟨gk3, 3, none⟩ (load_one ((HF.out.box 1 _ _ _ rfl).cell 3 |>.trans (by kernel_rfl)) Try.und3 rfl)) ?_
  refine tW (.bool (decide (h.k.up < tp))) (eB .gtr 3 _ _ _ rfl (.int .i64 tp) (.int .i64 h.k.up) _ (b_gtr _ _ _)) ?_
  refine tK (.pointer (some ⟨gk7, 29, none⟩)) ?_
  try simp only [pS]
  refine wp_storeW 4 _ _ rfl ⟨gk7, 29, none⟩ (.bool (decide (h.k.up < tp))) (by kernel_rfl) (by kernel_rfl) (wk11.setRow gk7 (Mg.cells ⟨22, a.to, a.fr, 0, 0, a.ky, spZ, spZ, slZ, cZ, h.k, slZ, (decide (h.k.up < tp))⟩)) (run_store_to (cur := Mg.cs ⟨22, a.to, a.fr, 0, 0, a.ky, spZ, spZ, slZ, cZ, h.k, slZ, false⟩) (vs := [.bool (decide (h.k.up < tp))]) (new := Mg.cs ⟨22, a.to, a.fr, 0, 0, a.ky, spZ, spZ, slZ, cZ, h.k, slZ, (decide (h.k.up < tp))⟩) (HF.out.box 3 _ _ _ rfl) (by kernel_rfl) Try.size4 (Nat.le_of_ble_eq_true (by kernel_rfl)) (by simp [Value.oneCell', Sl.v]) (by kernel_rfl)) (by kernel_rfl) ?_
  try simp only [pS]
  have HF : Hid (Fr No w _ [(gk1, 46, Mg.cells a), (gk3, 33, Hd.cells h), (gk5, 46, Mg.cells mgZ), (gk7, 46, Mg.cells ⟨22, a.to, a.fr, 0, 0, a.ky, spZ, spZ, slZ, cZ, h.k, slZ, (decide (h.k.up < tp))⟩)]) := HF.out.set 3 rfl _
  generalize wk11.setRow gk7 (Mg.cells ⟨22, a.to, a.fr, 0, 0, a.ky, spZ, spZ, slZ, cZ, h.k, slZ, (decide (h.k.up < tp))⟩) = wk12 at HF ⊢
  refine WL.nil ?_
  try simp only [pS]
  go_upto_region 14 with fail
  refine WL.start ?_
  refine tW (.agg (Mg.cells ⟨22, a.to, a.fr, 0, 0, a.ky, spZ, spZ, slZ, cZ, h.k, slZ, (decide (h.k.up < tp))⟩)) (eL 46 _ rfl ⟨gk7, 0, none⟩ (run_load_part (cs := Mg.cs ⟨22, a.to, a.fr, 0, 0, a.ky, spZ, spZ, slZ, cZ, h.k, slZ, (decide (h.k.up < tp))⟩) (sub := Mg.cs ⟨22, a.to, a.fr, 0, 0, a.ky, spZ, spZ, slZ, cZ, h.k, slZ, (decide (h.k.up < tp))⟩) (HF.out.box 3 _ _ _ rfl) (Part.all _) Try.und50 rfl Try.size50)) ?_
  try simp only [pS]
  refine wp_storeW 46 _ _ rfl ⟨gk5, 0, none⟩ (.agg (Mg.cells ⟨22, a.to, a.fr, 0, 0, a.ky, spZ, spZ, slZ, cZ, h.k, slZ, (decide (h.k.up < tp))⟩)) (by kernel_rfl) (by kernel_rfl) (wk12.setRow gk5 (Mg.cells ⟨22, a.to, a.fr, 0, 0, a.ky, spZ, spZ, slZ, cZ, h.k, slZ, (decide (h.k.up < tp))⟩)) (run_store_to (cur := Mg.cs mgZ) (vs := Mg.cs ⟨22, a.to, a.fr, 0, 0, a.ky, spZ, spZ, slZ, cZ, h.k, slZ, (decide (h.k.up < tp))⟩) (new := Mg.cs ⟨22, a.to, a.fr, 0, 0, a.ky, spZ, spZ, slZ, cZ, h.k, slZ, (decide (h.k.up < tp))⟩) (HF.out.box 2 _ _ _ rfl) (by kernel_rfl) Try.size50 (Nat.le_of_ble_eq_true (by kernel_rfl)) (Mg.oneL _) (by kernel_rfl)) (by kernel_rfl) ?_
  try simp only [pS]
  have HF : Hid (Fr No w _ [(gk1, 46, Mg.cells a), (gk3, 33, Hd.cells h), (gk5, 46, Mg.cells ⟨22, a.to, a.fr, 0, 0, a.ky, spZ, spZ, slZ, cZ, h.k, slZ, (decide (h.k.up < tp))⟩), (gk7, 46, Mg.cells ⟨22, a.to, a.fr, 0, 0, a.ky, spZ, spZ, slZ, cZ, h.k, slZ, (decide (h.k.up < tp))⟩)]) := HF.out.set 2 rfl _
  generalize wk12.setRow gk5 (Mg.cells ⟨22, a.to, a.fr, 0, 0, a.ky, spZ, spZ, slZ, cZ, h.k, slZ, (decide (h.k.up < tp))⟩) = wk13 at HF ⊢
  refine WL.nil ?_
  try simp only [pS]
  go_wp2
  rw [HC.out]
  refine bodyPost_ret (results_row1 (by rfl) _ _ gk5 (Mg.cells ⟨22, a.to, a.fr, 0, 0, a.ky, spZ, spZ, slZ, cZ, h.k, slZ, (decide (h.k.up < tp))⟩) (by rfl) (run_load_part (cs := Mg.cs ⟨22, a.to, a.fr, 0, 0, a.ky, spZ, spZ, slZ, cZ, h.k, slZ, (decide (h.k.up < tp))⟩) (sub := Mg.cs ⟨22, a.to, a.fr, 0, 0, a.ky, spZ, spZ, slZ, cZ, h.k, slZ, (decide (h.k.up < tp))⟩) (HF.out.box 2 _ _ _ rfl) (Part.all _) Try.und50 rfl Try.size50)) rfl ?_
  exact ⟨rfl, HF.out.kept⟩
set_option maxRecDepth 100000 in
set_option maxHeartbeats 4000000 in
theorem refHave_cmds (a : Mg) (h : Hd) (ps : List Pl) (c : Nat) (w : World) (hk21 : (a.k == 21) = true) (hk1 : (a.ky.k == 1) = false) (hk2 : (a.ky.k == 2) = true) (hab : askB a.st.n = true) (hup : decide (a.st.n ≤ h.k.up) = false) (hr : RdP w h.r ps) (hm : ps.length ≤ 10000000000000) (hc : c = (min (topF h.k.up (decd ps)) (a.st.n + 63) - a.st.n + 1).toNat) (ht : 0 ≤ topF h.k.up (decd ps) ∧ topF h.k.up (decd ps) ≤ 1048576) : Calls Try.prog 8 #[.agg (Mg.cells a), .agg (Hd.cells h)] w (fun e w' => ∃ s' : Sl, e = .returned (.agg (Mg.cells { haveM a with st := ⟨a.st.n, 0⟩, mo := decide (min (topF h.k.up (decd ps)) (a.st.n + 63) < topF h.k.up (decd ps)), cm := s' })) ∧ OwC w' w.heap.size s' (tab c (fun j => cmdAt ps (a.st.n + ((j : Nat) : Int)))) ∧ Kept No w w') := by
  obtain ⟨C, hC⟩ : ∃ C : Ending → World → Prop, C = (fun e w' => ∃ s' : Sl, e = .returned (.agg (Mg.cells { haveM a with st := ⟨a.st.n, 0⟩, mo := decide (min (topF h.k.up (decd ps)) (a.st.n + 63) < topF h.k.up (decd ps)), cm := s' })) ∧ OwC w' w.heap.size s' (tab c (fun j => cmdAt ps (a.st.n + ((j : Nat) : Int)))) ∧ Kept No w w') := ⟨_, rfl⟩
  have HC : Hid (C = (fun e w' => ∃ s' : Sl, e = .returned (.agg (Mg.cells { haveM a with st := ⟨a.st.n, 0⟩, mo := decide (min (topF h.k.up (decd ps)) (a.st.n + 63) < topF h.k.up (decd ps)), cm := s' })) ∧ OwC w' w.heap.size s' (tab c (fun j => cmdAt ps (a.st.n + ((j : Nat) : Int)))) ∧ Kept No w w')) := hC
  rw [← hC]
  clear hC
  have hn : 1 ≤ a.st.n ∧ a.st.n ≤ 1048577 := by simp [askB] at hab; omega
  have hn1 : decide (a.st.n < 1) = false := decide_eq_false (by omega)
  have hn2 : decide (1048577 < a.st.n) = false := decide_eq_false (by omega)
  have HR : Hid (RdP w h.r ps) := hr
  clear hr hab
  obtain ⟨tp, htp⟩ : ∃ t, t = topF h.k.up (decd ps) := ⟨_, rfl⟩
  rw [← htp] at HC hc ht
  have HTP : Hid (topF h.k.up (decd ps) = tp) := htp.symm
  clear htp
  have HF : Hid (Fr No w w []) := Fr.start _ _
  go_enter Try.func8, Try.ntmps8
  go_upto_region 0 with fail
  refine WL.start ?_
  refine wp_runW (.pointer (some ⟨w.heap.size, 0, none⟩)) (w.alloc (.cells (Mg.cells a) 46)) (exec_box 46 _ rfl (Mg.cells a) (by kernel_rfl)) (by kernel_rfl) ?_
  try simp only [pS]
  have HF : Hid (Fr No w _ [(w.heap.size, 46, Mg.cells a)]) := HF.out.alloc _ _
  generalize w.alloc (.cells (Mg.cells a) 46) = wk2 at HF ⊢
  generalize w.heap.size = gk1 at HF ⊢
  refine wp_runW (.pointer (some ⟨wk2.heap.size, 0, none⟩)) (wk2.alloc (.cells (Hd.cells h) 33)) (exec_box 33 _ rfl (Hd.cells h) (by kernel_rfl)) (by kernel_rfl) ?_
  try simp only [pS]
  have HF : Hid (Fr No w _ [(gk1, 46, Mg.cells a), (wk2.heap.size, 33, Hd.cells h)]) := HF.out.alloc _ _
  generalize wk2.alloc (.cells (Hd.cells h) 33) = wk4 at HF ⊢
  generalize wk2.heap.size = gk3 at HF ⊢
  refine wp_runW (.pointer (some ⟨wk4.heap.size, 0, none⟩)) (wk4.alloc (.cells (Mg.cells mgZ) 46)) (exec_alloc 46 rfl (Mg.cells mgZ) zero50) (by kernel_rfl) ?_
  try simp only [pS]
  have HF : Hid (Fr No w _ [(gk1, 46, Mg.cells a), (gk3, 33, Hd.cells h), (wk4.heap.size, 46, Mg.cells mgZ)]) := HF.out.alloc _ _
  generalize wk4.alloc (.cells (Mg.cells mgZ) 46) = wk6 at HF ⊢
  generalize wk4.heap.size = gk5 at HF ⊢
  refine WL.nil ?_
  try simp only [pS]
  go_upto_region 1 with fail
  refine WL.start ?_
  refine tK (.pointer (some ⟨gk1, 3, none⟩)) ?_
  refine tW (.agg (Ad.cells a.to)) (eL 37 _ rfl ⟨gk1, 3, none⟩ (run_load_part (cs := Mg.cs a) (sub := Ad.cs a.to) (HF.out.box 0 _ _ _ rfl) (part_of (by kernel_rfl)) Try.und43 rfl Try.size43)) ?_
  refine tK (.pointer (some ⟨gk1, 1, none⟩)) ?_
  refine tW (.agg (Ad.cells a.fr)) (eL 37 _ rfl ⟨gk1, 1, none⟩ (run_load_part (cs := Mg.cs a) (sub := Ad.cs a.fr) (HF.out.box 0 _ _ _ rfl) (part_of (by kernel_rfl)) Try.und43 rfl Try.size43)) ?_
  refine tK (.pointer (some ⟨gk1, 7, none⟩)) ?_
  refine tW (.agg (Ky.cells a.ky)) (eL 39 _ rfl ⟨gk1, 7, none⟩ (run_load_part (cs := Mg.cs a) (sub := Ky.cs a.ky) (HF.out.box 0 _ _ _ rfl) (part_of (by kernel_rfl)) Try.und23 rfl Try.size23)) ?_
  refine tW (.agg (Mg.cells ⟨22, a.to, a.fr, 0, 0, a.ky, spZ, spZ, slZ, cZ, bvZ, slZ, false⟩)) (exec_build 46 _ rfl (Mg.cells ⟨22, a.to, a.fr, 0, 0, a.ky, spZ, spZ, slZ, cZ, bvZ, slZ, false⟩) (by kernel_rfl)) ?_
  try simp only [pS]
  refine wp_runW (.pointer (some ⟨wk6.heap.size, 0, none⟩)) (wk6.alloc (.cells (Mg.cells mgZ) 46)) (exec_alloc 46 rfl (Mg.cells mgZ) zero50) (by kernel_rfl) ?_
  try simp only [pS]
  have HF : Hid (Fr No w _ [(gk1, 46, Mg.cells a), (gk3, 33, Hd.cells h), (gk5, 46, Mg.cells mgZ), (wk6.heap.size, 46, Mg.cells mgZ)]) := HF.out.alloc _ _
  generalize wk6.alloc (.cells (Mg.cells mgZ) 46) = wk8 at HF ⊢
  generalize wk6.heap.size = gk7 at HF ⊢
  refine wp_storeW 46 _ _ rfl ⟨gk7, 0, none⟩ (.agg (Mg.cells ⟨22, a.to, a.fr, 0, 0, a.ky, spZ, spZ, slZ, cZ, bvZ, slZ, false⟩)) (by kernel_rfl) (by kernel_rfl) (wk8.setRow gk7 (Mg.cells ⟨22, a.to, a.fr, 0, 0, a.ky, spZ, spZ, slZ, cZ, bvZ, slZ, false⟩)) (run_store_to (cur := Mg.cs mgZ) (vs := Mg.cs ⟨22, a.to, a.fr, 0, 0, a.ky, spZ, spZ, slZ, cZ, bvZ, slZ, false⟩) (new := Mg.cs ⟨22, a.to, a.fr, 0, 0, a.ky, spZ, spZ, slZ, cZ, bvZ, slZ, false⟩) (HF.out.box 3 _ _ _ rfl) (by kernel_rfl) Try.size50 (Nat.le_of_ble_eq_true (by kernel_rfl)) (Mg.oneL _) (by kernel_rfl)) (by kernel_rfl) ?_
  try simp only [pS]
  have HF : Hid (Fr No w _ [(gk1, 46, Mg.cells a), (gk3, 33, Hd.cells h), (gk5, 46, Mg.cells mgZ), (gk7, 46, Mg.cells ⟨22, a.to, a.fr, 0, 0, a.ky, spZ, spZ, slZ, cZ, bvZ, slZ, false⟩)]) := HF.out.set 3 rfl _
  generalize wk8.setRow gk7 (Mg.cells ⟨22, a.to, a.fr, 0, 0, a.ky, spZ, spZ, slZ, cZ, bvZ, slZ, false⟩) = wk9 at HF ⊢
  refine WL.nil ?_
  try simp only [pS]
  go_upto_region 2 with fail
  refine WL.start ?_
  refine tK (.pointer (some ⟨gk1, 0, none⟩)) ?_
  refine tW (.int .i64 a.k) (eL 3 _ rfl ⟨gk1, 0, none⟩ (load_one ((HF.out.box 0 _ _ _ rfl).cell 0 |>.trans (by kernel_rfl)) Try.und3 rfl)) ?_
  refine tW (.bool true) (eB .eql 3 _ _ _ rfl (.int .i64 a.k) (.int .i64 21) _ (by rw [b_eql, hk21]; try rfl)) ?_
  refine tK (.bool true) ?_
  refine tK (.pointer (some ⟨gk1, 7, none⟩)) ?_
  refine tK (.pointer (some ⟨gk1, 7, none⟩)) ?_
  refine tW (.int .i64 a.ky.k) (eL 3 _ rfl ⟨gk1, 7, none⟩ (load_one ((HF.out.box 0 _ _ _ rfl).cell 7 |>.trans (by kernel_rfl)) Try.und3 rfl)) ?_
  refine tW (.bool false) (eB .eql 3 _ _ _ rfl (.int .i64 a.ky.k) (.int .i64 1) _ (by rw [b_eql, hk1]; try rfl)) ?_
  refine tK (.bool false) ?_
  try simp only [pS]
  refine WL.nil ?_
  try simp only [pS]
  go_upto_region 7 with fail
  refine WL.start ?_
  refine tK (.pointer (some ⟨gk1, 11, none⟩)) ?_
  refine tK (.pointer (some ⟨gk1, 11, none⟩)) ?_
  refine tW (.int .i64 a.st.n) (eL 3 _ rfl ⟨gk1, 11, none⟩ (load_one ((HF.out.box 0 _ _ _ rfl).cell 11 |>.trans (by kernel_rfl)) Try.und3 rfl)) ?_
  refine tK (.int .i64 a.st.n) ?_
  try simp only [pS]
  refine WL.nil ?_
  try simp only [pS]
  go_upto_region 8 with fail
  refine WL.start ?_
  refine tK (.pointer (some ⟨gk1, 0, none⟩)) ?_
  refine tW (.int .i64 a.k) (eL 3 _ rfl ⟨gk1, 0, none⟩ (load_one ((HF.out.box 0 _ _ _ rfl).cell 0 |>.trans (by kernel_rfl)) Try.und3 rfl)) ?_
  refine tW (.bool false) (eB .neq 3 _ _ _ rfl (.int .i64 a.k) (.int .i64 21) _ (by rw [b_neq, hk21]; try rfl)) ?_
  refine tK (.bool false) ?_
  refine tK (.pointer (some ⟨gk1, 7, none⟩)) ?_
  refine tK (.pointer (some ⟨gk1, 7, none⟩)) ?_
  refine tW (.int .i64 a.ky.k) (eL 3 _ rfl ⟨gk1, 7, none⟩ (load_one ((HF.out.box 0 _ _ _ rfl).cell 7 |>.trans (by kernel_rfl)) Try.und3 rfl)) ?_
  refine tW (.bool false) (eB .neq 3 _ _ _ rfl (.int .i64 a.ky.k) (.int .i64 2) _ (by rw [b_neq, hk2]; try rfl)) ?_
  refine tK (.bool false) ?_
  refine tK (.bool false) ?_
  refine tK (.int .i64 a.st.n) ?_
  refine tW (.bool false) (eB .lss 3 _ _ _ rfl (.int .i64 a.st.n) (.int .i64 1) _ (by rw [b_lss, hn1]; try rfl)) ?_
  refine tK (.bool false) ?_
  refine tK (.bool false) ?_
  refine tK (.int .i64 a.st.n) ?_
  refine tW (.bool false) (eB .gtr 3 _ _ _ rfl (.int .i64 a.st.n) (.int .i64 1048577) _ (by rw [b_gtr, hn2]; try rfl)) ?_
  refine tK (.bool false) ?_
  try simp only [pS]
  refine WL.nil ?_
  try simp only [pS]
  go_upto_region 10 with fail
  refine WL.start ?_
  refine tW (.agg (Hd.cells h)) (eL 33 _ rfl ⟨gk3, 0, none⟩ (run_load_part (cs := Hd.cs h) (sub := Hd.cs h) (HF.out.box 1 _ _ _ rfl) (Part.all _) Try.und35 rfl Try.size35)) ?_
  try simp only [pS]
  refine wp_callW 24 #[.agg (Hd.cells h)] (by kernel_rfl) _ (refTop_any h ps _ (HR.out.no HF.out.kept) hm) (by kernel_rfl) ?_
  rintro e wk10 ⟨rfl, hk⟩
  rw [HTP.out]
  have HF : Hid (Fr No w (wk10) [(gk1, 46, Mg.cells a), (gk3, 33, Hd.cells h), (gk5, 46, Mg.cells mgZ), (gk7, 46, Mg.cells ⟨22, a.to, a.fr, 0, 0, a.ky, spZ, spZ, slZ, cZ, bvZ, slZ, false⟩)]) := HF.out.no hk
  clear hk
  refine ⟨.int .i64 tp, rfl, ?_⟩
  try simp only [pS]
  refine tK (.int .i64 tp) ?_
  try simp only [pS]
  refine WL.nil ?_
  try simp only [pS]
  go_upto_region 11 with fail
  refine WL.start ?_
  refine tK (.pointer (some ⟨gk3, 3, none⟩)) ?_
  refine tK (.pointer (some ⟨gk3, 3, none⟩)) ?_
  refine tW (.int .i64 h.k.up) (eL 3 _ rfl ⟨gk3, 3, none⟩ (load_one ((HF.out.box 1 _ _ _ rfl).cell 3 |>.trans (by kernel_rfl)) Try.und3 rfl)) ?_
  refine tK (.int .i64 a.st.n) ?_
  refine tW (.bool false) (eB .geq 3 _ _ _ rfl (.int .i64 h.k.up) (.int .i64 a.st.n) _ (by rw [b_geq, hup]; try rfl)) ?_
  try simp only [pS]
  refine WL.nil ?_
  try simp only [pS]
  go_upto_region 15 with fail
  refine WL.start ?_
  refine tK (.int .i64 a.st.n) ?_
  refine tK (.pointer (some ⟨gk7, 11, none⟩)) ?_
  refine tK (.pointer (some ⟨gk7, 11, none⟩)) ?_
  try simp only [pS]
  refine wp_storeW 3 _ _ rfl ⟨gk7, 11, none⟩ (.int .i64 a.st.n) (by kernel_rfl) (by kernel_rfl) (wk10.setRow gk7 (Mg.cells ⟨22, a.to, a.fr, 0, 0, a.ky, ⟨a.st.n, 0⟩, spZ, slZ, cZ, bvZ, slZ, false⟩)) (run_store_to (cur := Mg.cs ⟨22, a.to, a.fr, 0, 0, a.ky, spZ, spZ, slZ, cZ, bvZ, slZ, false⟩) (vs := [.int .i64 a.st.n]) (new := Mg.cs ⟨22, a.to, a.fr, 0, 0, a.ky, ⟨a.st.n, 0⟩, spZ, slZ, cZ, bvZ, slZ, false⟩) (HF.out.box 3 _ _ _ rfl) (by kernel_rfl) Try.size3 (Nat.le_of_ble_eq_true (by kernel_rfl)) (by simp [Value.oneCell', Sl.v]) (by kernel_rfl)) (by kernel_rfl) ?_
  try simp only [pS]
  have HF : Hid (Fr No w _ [(gk1, 46, Mg.cells a), (gk3, 33, Hd.cells h), (gk5, 46, Mg.cells mgZ), (gk7, 46, Mg.cells ⟨22, a.to, a.fr, 0, 0, a.ky, ⟨a.st.n, 0⟩, spZ, slZ, cZ, bvZ, slZ, false⟩)]) := HF.out.set 3 rfl _
  generalize wk10.setRow gk7 (Mg.cells ⟨22, a.to, a.fr, 0, 0, a.ky, ⟨a.st.n, 0⟩, spZ, slZ, cZ, bvZ, slZ, false⟩) = wk11 at HF ⊢
  refine WL.nil ?_
  try simp only [pS]
  go_upto_region 16 with fail
  refine WL.start ?_
  refine tK (.int .i64 tp) ?_
  refine tK (.int .i64 tp) ?_
  try simp only [pS]
  refine WL.nil ?_
  try simp only [pS]
  by_cases hbig : 64 ≤ tp - a.st.n
  · skip
    go_upto_region 17 with fail
    refine WL.start ?_
    refine tK (.int .i64 tp) ?_
    refine tK (.int .i64 a.st.n) ?_
    refine tW (.int .i64 (tp - a.st.n)) (eB .sub 3 _ _ _ rfl (.int .i64 tp) (.int .i64 a.st.n) _ (b_subw _ _ _ (by rw [IntKind.wrap_i64]; omega) _)) ?_
    refine tW (.bool true) (eB .geq 3 _ _ _ rfl (.int .i64 (tp - a.st.n)) (.int .i64 64) _ (by rw [b_geq, decide_eq_true (by omega)])) ?_
    try simp only [pS]
    refine WL.nil ?_
    try simp only [pS]
    go_upto_region 18 with fail
    refine WL.start ?_
    refine tK (.int .i64 a.st.n) ?_
    refine tW (.int .i64 (a.st.n + 64)) (eB .add 3 _ _ _ rfl (.int .i64 a.st.n) (.int .i64 64) _ (b_addw _ _ _ (by rw [IntKind.wrap_i64]; omega) _)) ?_
    refine tW (.int .i64 (a.st.n + 63)) (eB .sub 3 _ _ _ rfl (.int .i64 (a.st.n + 64)) (.int .i64 1) _ (b_subw _ _ _ (by rw [IntKind.wrap_i64]; omega) _)) ?_
    refine tK (.int .i64 (a.st.n + 63)) ?_
    try simp only [pS]
    refine WL.nil ?_
    try simp only [pS]
    go_upto_region 19 with fail
    refine WL.start ?_
    refine tK (.int .i64 a.st.n) ?_
    refine tK (.int .i64 a.st.n) ?_
    try simp only [pS]
    refine WL.nil ?_
    try simp only [pS]
    go_wp2
    go_loopw [9, 10] (fun v9 v10 wr => ∃ (j : Nat) (sa : Option Addr) (sc : Nat), v9 = .int .i64 (a.st.n + ((j : Nat) : Int)) ∧ j ≤ c ∧ Hid (OwC wr w.heap.size ⟨sa, j, sc⟩ (tab j (fun j => cmdAt ps (a.st.n + ((j : Nat) : Int))))) ∧ Hid (Fr No w wr [(gk1, 46, Mg.cells a), (gk3, 33, Hd.cells h), (gk5, 46, Mg.cells mgZ), (gk7, 46, Mg.cells ⟨22, a.to, a.fr, 0, 0, a.ky, ⟨a.st.n, 0⟩, spZ, slZ, cZ, bvZ, ⟨sa, j, sc⟩, false⟩)])) (fun i _ _ => c - (intOf i - a.st.n).toNat)
    case atStart => exact ⟨0, none, 0, by simp, by omega, ⟨Own.nil _ _ _ _, rfl⟩, HF⟩
    case round =>
      clear HF
      obtain ⟨j, sa, sc, rfl, hj, HO, HF⟩ := hrel
      by_cases hlt : j < c
      · skip
        obtain ⟨x, hx⟩ : ∃ x, x = atF (a.st.n + ((j : Nat) : Int)) ps := ⟨_, rfl⟩
        have HX : Hid (atF (a.st.n + ((j : Nat) : Int)) ps = x) := hx.symm
        clear hx
        go_upto_region 20 with fail
        refine WL.start ?_
        refine tK (.int .i64 (a.st.n + ((j : Nat) : Int))) ?_
        refine tK (.int .i64 (a.st.n + 63)) ?_
        refine tW (.bool true) (eB .leq 3 _ _ _ rfl (.int .i64 (a.st.n + ((j : Nat) : Int))) (.int .i64 (a.st.n + 63)) _ (by rw [b_leq, decide_eq_true (by omega)])) ?_
        try simp only [pS]
        refine WL.nil ?_
        try simp only [pS]
        go_upto_region 22 with fail
        refine WL.start ?_
        refine tW (.agg (Hd.cells h)) (eL 33 _ rfl ⟨gk3, 0, none⟩ (run_load_part (cs := Hd.cs h) (sub := Hd.cs h) (HF.out.box 1 _ _ _ rfl) (Part.all _) Try.und35 rfl Try.size35)) ?_
        refine tK (.int .i64 (a.st.n + ((j : Nat) : Int))) ?_
        try simp only [pS]
        refine wp_callW 25 #[.agg (Hd.cells h), .int .i64 (a.st.n + ((j : Nat) : Int))] (by kernel_rfl) _ (refAt_any h ps (a.st.n + ((j : Nat) : Int)) _ (HR.out.no HF.out.kept) hm) (by kernel_rfl) ?_
        rintro e wk12 ⟨rfl, hk⟩
        rw [HX.out]
        have HO : Hid (OwC (wk12) w.heap.size ⟨sa, j, sc⟩ (tab j (fun j => cmdAt ps (a.st.n + ((j : Nat) : Int))))) := HO.out.no hk
        have HF : Hid (Fr No w (wk12) [(gk1, 46, Mg.cells a), (gk3, 33, Hd.cells h), (gk5, 46, Mg.cells mgZ), (gk7, 46, Mg.cells ⟨22, a.to, a.fr, 0, 0, a.ky, ⟨a.st.n, 0⟩, spZ, slZ, cZ, bvZ, ⟨sa, j, sc⟩, false⟩)]) := HF.out.no hk
        clear hk
        refine ⟨.agg (In.cells x), rfl, ?_⟩
        try simp only [pS]
        refine wp_runW (.pointer (some ⟨wk12.heap.size, 0, none⟩)) (wk12.alloc (.cells (In.cells inZ) 65)) (exec_alloc 65 rfl (In.cells inZ) zero70) (by kernel_rfl) ?_
        try simp only [pS]
        have HO : Hid (OwC (wk12.alloc (.cells (In.cells inZ) 65)) w.heap.size ⟨sa, j, sc⟩ (tab j (fun j => cmdAt ps (a.st.n + ((j : Nat) : Int))))) := HO.out.no ((Kept.refl No _).alloc _)
        have HF : Hid (Fr No w _ [(gk1, 46, Mg.cells a), (gk3, 33, Hd.cells h), (gk5, 46, Mg.cells mgZ), (gk7, 46, Mg.cells ⟨22, a.to, a.fr, 0, 0, a.ky, ⟨a.st.n, 0⟩, spZ, slZ, cZ, bvZ, ⟨sa, j, sc⟩, false⟩), (wk12.heap.size, 65, In.cells inZ)]) := HF.out.alloc _ _
        generalize wk12.alloc (.cells (In.cells inZ) 65) = wk14 at HF HO ⊢
        generalize wk12.heap.size = gk13 at HF ⊢
        refine wp_storeW 65 _ _ rfl ⟨gk13, 0, none⟩ (.agg (In.cells x)) (by kernel_rfl) (by kernel_rfl) (wk14.setRow gk13 (In.cells x)) (run_store_to (cur := In.cs inZ) (vs := In.cs x) (new := In.cs x) (HF.out.box 4 _ _ _ rfl) (by kernel_rfl) Try.size70 (Nat.le_of_ble_eq_true (by kernel_rfl)) (In.oneL _) (by kernel_rfl)) (by kernel_rfl) ?_
        try simp only [pS]
        have HO : Hid (OwC (wk14.setRow gk13 (In.cells x)) w.heap.size ⟨sa, j, sc⟩ (tab j (fun j => cmdAt ps (a.st.n + ((j : Nat) : Int))))) := HO.out.kept (Kept.setRow _ _ _) (fun k h e => (HO.out.own.notBox (HF.out.box 4 _ _ _ rfl) (by decide)) ((show k = gk13 from e) ▸ h))
        have HF : Hid (Fr No w _ [(gk1, 46, Mg.cells a), (gk3, 33, Hd.cells h), (gk5, 46, Mg.cells mgZ), (gk7, 46, Mg.cells ⟨22, a.to, a.fr, 0, 0, a.ky, ⟨a.st.n, 0⟩, spZ, slZ, cZ, bvZ, ⟨sa, j, sc⟩, false⟩), (gk13, 65, In.cells x)]) := HF.out.set 4 rfl _
        generalize wk14.setRow gk13 (In.cells x) = wk15 at HF HO ⊢
        refine WL.nil ?_
        try simp only [pS]
        go_upto_region 23 with fail
        refine WL.start ?_
        refine tK (.pointer (some ⟨gk13, 13, none⟩)) ?_
        refine tW (.bool x.d) (eL 4 _ rfl ⟨gk13, 13, none⟩ (load_one ((HF.out.box 4 _ _ _ rfl).cell 13 |>.trans (by kernel_rfl)) Try.und4 rfl)) ?_
        try simp only [pS]
        cases q1 : (x.d)
        ·skip
         try simp only [q1]
         refine tK (.bool true) ?_
         try simp only [pS]
         refine WL.nil ?_
         try simp only [pS]
         have HCx : Hid (cmdAt ps (a.st.n + ((j : Nat) : Int)) = cZ) := by show cmdAt ps _ = _; unfold cmdAt; rw [HX.out, q1]; rfl
         go_upto_region 24 with fail
         refine WL.start ?_
         refine tW (.agg (Cm.cells cZ)) (exec_build 43 _ rfl (Cm.cells cZ) (by kernel_rfl)) ?_
         refine tK (.pointer (some ⟨gk13, 4, none⟩)) ?_
         try simp only [pS]
         refine wp_storeW 43 _ _ rfl ⟨gk13, 4, none⟩ (.agg (Cm.cells cZ)) (by kernel_rfl) (by kernel_rfl) (wk15.setRow gk13 (In.cells ⟨x.p, x.a, cZ, x.d⟩)) (run_store_to (cur := In.cs x) (vs := Cm.cs cZ) (new := In.cs ⟨x.p, x.a, cZ, x.d⟩) (HF.out.box 4 _ _ _ rfl) (by kernel_rfl) Try.size47 (Nat.le_of_ble_eq_true (by kernel_rfl)) (Cm.oneL _) (by kernel_rfl)) (by kernel_rfl) ?_
         try simp only [pS]
         have HO : Hid (OwC (wk15.setRow gk13 (In.cells ⟨x.p, x.a, cZ, x.d⟩)) w.heap.size ⟨sa, j, sc⟩ (tab j (fun j => cmdAt ps (a.st.n + ((j : Nat) : Int))))) := HO.out.kept (Kept.setRow _ _ _) (fun k h e => (HO.out.own.notBox (HF.out.box 4 _ _ _ rfl) (by decide)) ((show k = gk13 from e) ▸ h))
         have HF : Hid (Fr No w _ [(gk1, 46, Mg.cells a), (gk3, 33, Hd.cells h), (gk5, 46, Mg.cells mgZ), (gk7, 46, Mg.cells ⟨22, a.to, a.fr, 0, 0, a.ky, ⟨a.st.n, 0⟩, spZ, slZ, cZ, bvZ, ⟨sa, j, sc⟩, false⟩), (gk13, 65, In.cells ⟨x.p, x.a, cZ, x.d⟩)]) := HF.out.set 4 rfl _
         generalize wk15.setRow gk13 (In.cells ⟨x.p, x.a, cZ, x.d⟩) = wk16 at HF HO ⊢
         refine WL.nil ?_
         try simp only [pS]
         go_upto_region 25 with fail
         refine WL.start ?_
         refine tK (.pointer (some ⟨gk7, 28, none⟩)) ?_
         refine tW (.slice sa j sc) (eL 44 _ rfl ⟨gk7, 28, none⟩ (load_one ((HF.out.box 3 _ _ _ rfl).cell 28 |>.trans (by kernel_rfl)) Try.und48 rfl)) ?_
         refine tK (.pointer (some ⟨gk13, 4, none⟩)) ?_
         refine tW (.agg (Cm.cells cZ)) (eL 43 _ rfl ⟨gk13, 4, none⟩ (run_load_part (cs := In.cs ⟨x.p, x.a, cZ, x.d⟩) (sub := Cm.cs cZ) (HF.out.box 4 _ _ _ rfl) (part_of (by kernel_rfl)) Try.und47 rfl Try.size47)) ?_
         try simp only [pS]
         refine wp_runW (.slice (some ⟨wk16.heap.size, 0, none⟩) 1 1) (wk16.alloc (.cells (Cm.cells cZ) 43)) (exec_slice2 44 43 _ rfl (Cm.cells cZ) (.agg (Cm.cells cZ)) (by kernel_rfl) (by kernel_rfl)) (by kernel_rfl) ?_
         try simp only [pS]
         have HO : Hid (OwC (wk16.alloc (.cells (Cm.cells cZ) 43)) w.heap.size ⟨sa, j, sc⟩ (tab j (fun j => cmdAt ps (a.st.n + ((j : Nat) : Int))))) := HO.out.no ((Kept.refl No _).alloc _)
         have HF : Hid (Fr No w _ [(gk1, 46, Mg.cells a), (gk3, 33, Hd.cells h), (gk5, 46, Mg.cells mgZ), (gk7, 46, Mg.cells ⟨22, a.to, a.fr, 0, 0, a.ky, ⟨a.st.n, 0⟩, spZ, slZ, cZ, bvZ, ⟨sa, j, sc⟩, false⟩), (gk13, 65, In.cells ⟨x.p, x.a, cZ, x.d⟩), (wk16.heap.size, 43, Cm.cells cZ)]) := HF.out.alloc _ _
         generalize wk16.alloc (.cells (Cm.cells cZ) 43) = wk18 at HF HO ⊢
         generalize wk16.heap.size = gk17 at HF ⊢
         obtain ⟨sa2, cap2, w2, hrun, hown, hk2, hat2⟩ := run_appN (w := wk18) 44 44 43 9 80 (.agg cZ.cells) Try.und48 Try.info47 rfl (by omega) w.heap.size j sc sa (cmL (tab j (fun j => cmdAt ps (a.st.n + ((j : Nat) : Int))))) HO.out.own (some ⟨gk17, 0, none⟩) 1 1 (Cm.cs cZ) rfl (fun e => by cases e) (fun j u hj => ⟨_, rfl, by rw [addr_add, Nat.zero_add, (HF.out.box 5 _ _ _ rfl).cell]; exact cell_cs _ _ _ hj⟩) (Cm.oneL _) (by omega) (by omega) (by have := HF.out.kept.size; omega)
         have hO0 := HO.out
         refine wp_runW (.slice sa2 (j + 1) cap2) w2 (exec_appN _ _ 44 44 rfl _ _ (by kernel_rfl) (by kernel_rfl) hrun) (by kernel_rfl) ?_
         try simp only [pS]
         have HO : Hid (OwC w2 w.heap.size ⟨sa2, j + 1, cap2⟩ (tab (j + 1) (fun j => cmdAt ps (a.st.n + ((j : Nat) : Int))))) := ⟨by rw [tab_succ, cmL_app, cmL_1, HCx.out]; exact hown, tab_len _ _⟩
         have HF : Hid (Fr No w w2 [(gk1, 46, Mg.cells a), (gk3, 33, Hd.cells h), (gk5, 46, Mg.cells mgZ), (gk7, 46, Mg.cells ⟨22, a.to, a.fr, 0, 0, a.ky, ⟨a.st.n, 0⟩, spZ, slZ, cZ, bvZ, ⟨sa, j, sc⟩, false⟩)]) := (show Fr No w wk18 ([(gk1, 46, Mg.cells a), (gk3, 33, Hd.cells h), (gk5, 46, Mg.cells mgZ), (gk7, 46, Mg.cells ⟨22, a.to, a.fr, 0, 0, a.ky, ⟨a.st.n, 0⟩, spZ, slZ, cZ, bvZ, ⟨sa, j, sc⟩, false⟩)] ++ [(gk13, 65, In.cells ⟨x.p, x.a, cZ, x.d⟩), (gk17, 43, Cm.cells cZ)]) from HF.out).front.app hO0.own hk2 (by simp)
         clear hown hk2 hat2 hrun hO0
         refine tK (.pointer (some ⟨gk7, 28, none⟩)) ?_
         try simp only [pS]
         refine wp_storeW 44 _ _ rfl ⟨gk7, 28, none⟩ (.slice sa2 (j + 1) cap2) (by kernel_rfl) (by kernel_rfl) (w2.setRow gk7 (Mg.cells ⟨22, a.to, a.fr, 0, 0, a.ky, ⟨a.st.n, 0⟩, spZ, slZ, cZ, bvZ, ⟨sa2, (j + 1), cap2⟩, false⟩)) (run_store_to (cur := Mg.cs ⟨22, a.to, a.fr, 0, 0, a.ky, ⟨a.st.n, 0⟩, spZ, slZ, cZ, bvZ, ⟨sa, j, sc⟩, false⟩) (vs := [.slice sa2 (j + 1) cap2]) (new := Mg.cs ⟨22, a.to, a.fr, 0, 0, a.ky, ⟨a.st.n, 0⟩, spZ, slZ, cZ, bvZ, ⟨sa2, (j + 1), cap2⟩, false⟩) (HF.out.box 3 _ _ _ rfl) (by kernel_rfl) Try.size48 (Nat.le_of_ble_eq_true (by kernel_rfl)) (by simp [Value.oneCell', Sl.v]) (by kernel_rfl)) (by kernel_rfl) ?_
         try simp only [pS]
         have HO : Hid (OwC (w2.setRow gk7 (Mg.cells ⟨22, a.to, a.fr, 0, 0, a.ky, ⟨a.st.n, 0⟩, spZ, slZ, cZ, bvZ, ⟨sa2, (j + 1), cap2⟩, false⟩)) w.heap.size ⟨sa2, j + 1, cap2⟩ (tab (j + 1) (fun j => cmdAt ps (a.st.n + ((j : Nat) : Int))))) := HO.out.kept (Kept.setRow _ _ _) (fun k h e => (HO.out.own.notBox (HF.out.box 3 _ _ _ rfl) (by decide)) ((show k = gk7 from e) ▸ h))
         have HF : Hid (Fr No w _ [(gk1, 46, Mg.cells a), (gk3, 33, Hd.cells h), (gk5, 46, Mg.cells mgZ), (gk7, 46, Mg.cells ⟨22, a.to, a.fr, 0, 0, a.ky, ⟨a.st.n, 0⟩, spZ, slZ, cZ, bvZ, ⟨sa2, (j + 1), cap2⟩, false⟩)]) := HF.out.set 3 rfl _
         generalize w2.setRow gk7 (Mg.cells ⟨22, a.to, a.fr, 0, 0, a.ky, ⟨a.st.n, 0⟩, spZ, slZ, cZ, bvZ, ⟨sa2, (j + 1), cap2⟩, false⟩) = wk19 at HF HO ⊢
         refine WL.nil ?_
         try simp only [pS]
         go_upto_region 21 with fail
         refine WL.start ?_
         refine tK (.int .i64 (a.st.n + ((j : Nat) : Int))) ?_
         refine tW (.int .i64 (a.st.n + (((j + 1) : Nat) : Int))) (eB .add 3 _ _ _ rfl (.int .i64 (a.st.n + ((j : Nat) : Int))) (.int .i64 1) _ (b_addw _ _ _ (by rw [IntKind.wrap_i64]; omega) _)) ?_
         refine tK (.int .i64 (a.st.n + (((j + 1) : Nat) : Int))) ?_
         try simp only [pS]
         refine WL.nil ?_
         try simp only [pS]
         go_wp2
         go_roundw
         case rel => exact ⟨j + 1, sa2, cap2, by go_num, by omega, HO, HF⟩
         case measure => simp [intOf]; omega
        ·skip
         try simp only [q1]
         refine tK (.bool false) ?_
         try simp only [pS]
         refine WL.nil ?_
         try simp only [pS]
         have HCx : Hid (cmdAt ps (a.st.n + ((j : Nat) : Int)) = x.c) := by show cmdAt ps _ = _; unfold cmdAt; rw [HX.out, q1]; rfl
         go_upto_region 25 with fail
         refine WL.start ?_
         refine tK (.pointer (some ⟨gk7, 28, none⟩)) ?_
         refine tW (.slice sa j sc) (eL 44 _ rfl ⟨gk7, 28, none⟩ (load_one ((HF.out.box 3 _ _ _ rfl).cell 28 |>.trans (by kernel_rfl)) Try.und48 rfl)) ?_
         refine tK (.pointer (some ⟨gk13, 4, none⟩)) ?_
         refine tW (.agg (Cm.cells x.c)) (eL 43 _ rfl ⟨gk13, 4, none⟩ (run_load_part (cs := In.cs x) (sub := Cm.cs x.c) (HF.out.box 4 _ _ _ rfl) (part_of (by kernel_rfl)) Try.und47 rfl Try.size47)) ?_
         try simp only [pS]
         refine wp_runW (.slice (some ⟨wk15.heap.size, 0, none⟩) 1 1) (wk15.alloc (.cells (Cm.cells x.c) 43)) (exec_slice2 44 43 _ rfl (Cm.cells x.c) (.agg (Cm.cells x.c)) (by kernel_rfl) (by kernel_rfl)) (by kernel_rfl) ?_
         try simp only [pS]
         have HO : Hid (OwC (wk15.alloc (.cells (Cm.cells x.c) 43)) w.heap.size ⟨sa, j, sc⟩ (tab j (fun j => cmdAt ps (a.st.n + ((j : Nat) : Int))))) := HO.out.no ((Kept.refl No _).alloc _)
         have HF : Hid (Fr No w _ [(gk1, 46, Mg.cells a), (gk3, 33, Hd.cells h), (gk5, 46, Mg.cells mgZ), (gk7, 46, Mg.cells ⟨22, a.to, a.fr, 0, 0, a.ky, ⟨a.st.n, 0⟩, spZ, slZ, cZ, bvZ, ⟨sa, j, sc⟩, false⟩), (gk13, 65, In.cells x), (wk15.heap.size, 43, Cm.cells x.c)]) := HF.out.alloc _ _
         generalize wk15.alloc (.cells (Cm.cells x.c) 43) = wk21 at HF HO ⊢
         generalize wk15.heap.size = gk20 at HF ⊢
         obtain ⟨sa2, cap2, w2, hrun, hown, hk2, hat2⟩ := run_appN (w := wk21) 44 44 43 9 80 (.agg cZ.cells) Try.und48 Try.info47 rfl (by omega) w.heap.size j sc sa (cmL (tab j (fun j => cmdAt ps (a.st.n + ((j : Nat) : Int))))) HO.out.own (some ⟨gk20, 0, none⟩) 1 1 (Cm.cs x.c) rfl (fun e => by cases e) (fun j u hj => ⟨_, rfl, by rw [addr_add, Nat.zero_add, (HF.out.box 5 _ _ _ rfl).cell]; exact cell_cs _ _ _ hj⟩) (Cm.oneL _) (by omega) (by omega) (by have := HF.out.kept.size; omega)
         have hO0 := HO.out
         refine wp_runW (.slice sa2 (j + 1) cap2) w2 (exec_appN _ _ 44 44 rfl _ _ (by kernel_rfl) (by kernel_rfl) hrun) (by kernel_rfl) ?_
         try simp only [pS]
         have HO : Hid (OwC w2 w.heap.size ⟨sa2, j + 1, cap2⟩ (tab (j + 1) (fun j => cmdAt ps (a.st.n + ((j : Nat) : Int))))) := ⟨by rw [tab_succ, cmL_app, cmL_1, HCx.out]; exact hown, tab_len _ _⟩
         have HF : Hid (Fr No w w2 [(gk1, 46, Mg.cells a), (gk3, 33, Hd.cells h), (gk5, 46, Mg.cells mgZ), (gk7, 46, Mg.cells ⟨22, a.to, a.fr, 0, 0, a.ky, ⟨a.st.n, 0⟩, spZ, slZ, cZ, bvZ, ⟨sa, j, sc⟩, false⟩)]) := (show Fr No w wk21 ([(gk1, 46, Mg.cells a), (gk3, 33, Hd.cells h), (gk5, 46, Mg.cells mgZ), (gk7, 46, Mg.cells ⟨22, a.to, a.fr, 0, 0, a.ky, ⟨a.st.n, 0⟩, spZ, slZ, cZ, bvZ, ⟨sa, j, sc⟩, false⟩)] ++ [(gk13, 65, In.cells x), (gk20, 43, Cm.cells x.c)]) from HF.out).front.app hO0.own hk2 (by simp)
         clear hown hk2 hat2 hrun hO0
         refine tK (.pointer (some ⟨gk7, 28, none⟩)) ?_
         try simp only [pS]
         refine wp_storeW 44 _ _ rfl ⟨gk7, 28, none⟩ (.slice sa2 (j + 1) cap2) (by kernel_rfl) (by kernel_rfl) (w2.setRow gk7 (Mg.cells ⟨22, a.to, a.fr, 0, 0, a.ky, ⟨a.st.n, 0⟩, spZ, slZ, cZ, bvZ, ⟨sa2, (j + 1), cap2⟩, false⟩)) (run_store_to (cur := Mg.cs ⟨22, a.to, a.fr, 0, 0, a.ky, ⟨a.st.n, 0⟩, spZ, slZ, cZ, bvZ, ⟨sa, j, sc⟩, false⟩) (vs := [.slice sa2 (j + 1) cap2]) (new := Mg.cs ⟨22, a.to, a.fr, 0, 0, a.ky, ⟨a.st.n, 0⟩, spZ, slZ, cZ, bvZ, ⟨sa2, (j + 1), cap2⟩, false⟩) (HF.out.box 3 _ _ _ rfl) (by kernel_rfl) Try.size48 (Nat.le_of_ble_eq_true (by kernel_rfl)) (by simp [Value.oneCell', Sl.v]) (by kernel_rfl)) (by kernel_rfl) ?_
         try simp only [pS]
         have HO : Hid (OwC (w2.setRow gk7 (Mg.cells ⟨22, a.to, a.fr, 0, 0, a.ky, ⟨a.st.n, 0⟩, spZ, slZ, cZ, bvZ, ⟨sa2, (j + 1), cap2⟩, false⟩)) w.heap.size ⟨sa2, j + 1, cap2⟩ (tab (j + 1) (fun j => cmdAt ps (a.st.n + ((j : Nat) : Int))))) := HO.out.kept (Kept.setRow _ _ _) (fun k h e => (HO.out.own.notBox (HF.out.box 3 _ _ _ rfl) (by decide)) ((show k = gk7 from e) ▸ h))
         have HF : Hid (Fr No w _ [(gk1, 46, Mg.cells a), (gk3, 33, Hd.cells h), (gk5, 46, Mg.cells mgZ), (gk7, 46, Mg.cells ⟨22, a.to, a.fr, 0, 0, a.ky, ⟨a.st.n, 0⟩, spZ, slZ, cZ, bvZ, ⟨sa2, (j + 1), cap2⟩, false⟩)]) := HF.out.set 3 rfl _
         generalize w2.setRow gk7 (Mg.cells ⟨22, a.to, a.fr, 0, 0, a.ky, ⟨a.st.n, 0⟩, spZ, slZ, cZ, bvZ, ⟨sa2, (j + 1), cap2⟩, false⟩) = wk22 at HF HO ⊢
         refine WL.nil ?_
         try simp only [pS]
         go_upto_region 21 with fail
         refine WL.start ?_
         refine tK (.int .i64 (a.st.n + ((j : Nat) : Int))) ?_
         refine tW (.int .i64 (a.st.n + (((j + 1) : Nat) : Int))) (eB .add 3 _ _ _ rfl (.int .i64 (a.st.n + ((j : Nat) : Int))) (.int .i64 1) _ (b_addw _ _ _ (by rw [IntKind.wrap_i64]; omega) _)) ?_
         refine tK (.int .i64 (a.st.n + (((j + 1) : Nat) : Int))) ?_
         try simp only [pS]
         refine WL.nil ?_
         try simp only [pS]
         go_wp2
         go_roundw
         case rel => exact ⟨j + 1, sa2, cap2, by go_num, by omega, HO, HF⟩
         case measure => simp [intOf]; omega
      · skip
        go_upto_region 20 with fail
        refine WL.start ?_
        refine tK (.int .i64 (a.st.n + ((j : Nat) : Int))) ?_
        refine tK (.int .i64 (a.st.n + 63)) ?_
        refine tW (.bool false) (eB .leq 3 _ _ _ rfl (.int .i64 (a.st.n + ((j : Nat) : Int))) (.int .i64 (a.st.n + 63)) _ (by rw [b_leq, decide_eq_false (by omega)])) ?_
        try simp only [pS]
        refine WL.nil ?_
        try simp only [pS]
        go_upto_region 26 with fail
        refine WL.start ?_
        refine tK (.int .i64 tp) ?_
        refine tK (.int .i64 (a.st.n + 63)) ?_
        refine tW (.bool true) (eB .gtr 3 _ _ _ rfl (.int .i64 tp) (.int .i64 (a.st.n + 63)) _ (by rw [b_gtr, decide_eq_true (by omega)])) ?_
        refine tK (.bool true) ?_
        refine tK (.int .i64 tp) ?_
        refine tK (.int .i64 a.st.n) ?_
        refine tW (.bool true) (eB .geq 3 _ _ _ rfl (.int .i64 tp) (.int .i64 a.st.n) _ (by rw [b_geq, decide_eq_true (by omega)])) ?_
        refine tK (.bool true) ?_
        refine tK (.pointer (some ⟨gk7, 29, none⟩)) ?_
        try simp only [pS]
        refine wp_storeW 4 _ _ rfl ⟨gk7, 29, none⟩ (.bool true) (by kernel_rfl) (by kernel_rfl) (wr.setRow gk7 (Mg.cells ⟨22, a.to, a.fr, 0, 0, a.ky, ⟨a.st.n, 0⟩, spZ, slZ, cZ, bvZ, ⟨sa, j, sc⟩, true⟩)) (run_store_to (cur := Mg.cs ⟨22, a.to, a.fr, 0, 0, a.ky, ⟨a.st.n, 0⟩, spZ, slZ, cZ, bvZ, ⟨sa, j, sc⟩, false⟩) (vs := [.bool true]) (new := Mg.cs ⟨22, a.to, a.fr, 0, 0, a.ky, ⟨a.st.n, 0⟩, spZ, slZ, cZ, bvZ, ⟨sa, j, sc⟩, true⟩) (HF.out.box 3 _ _ _ rfl) (by kernel_rfl) Try.size4 (Nat.le_of_ble_eq_true (by kernel_rfl)) (by simp [Value.oneCell', Sl.v]) (by kernel_rfl)) (by kernel_rfl) ?_
        try simp only [pS]
        have HO : Hid (OwC (wr.setRow gk7 (Mg.cells ⟨22, a.to, a.fr, 0, 0, a.ky, ⟨a.st.n, 0⟩, spZ, slZ, cZ, bvZ, ⟨sa, j, sc⟩, true⟩)) w.heap.size ⟨sa, j, sc⟩ (tab j (fun j => cmdAt ps (a.st.n + ((j : Nat) : Int))))) := HO.out.kept (Kept.setRow _ _ _) (fun k h e => (HO.out.own.notBox (HF.out.box 3 _ _ _ rfl) (by decide)) ((show k = gk7 from e) ▸ h))
        have HF : Hid (Fr No w _ [(gk1, 46, Mg.cells a), (gk3, 33, Hd.cells h), (gk5, 46, Mg.cells mgZ), (gk7, 46, Mg.cells ⟨22, a.to, a.fr, 0, 0, a.ky, ⟨a.st.n, 0⟩, spZ, slZ, cZ, bvZ, ⟨sa, j, sc⟩, true⟩)]) := HF.out.set 3 rfl _
        generalize wr.setRow gk7 (Mg.cells ⟨22, a.to, a.fr, 0, 0, a.ky, ⟨a.st.n, 0⟩, spZ, slZ, cZ, bvZ, ⟨sa, j, sc⟩, true⟩) = wk23 at HF HO ⊢
        refine WL.nil ?_
        try simp only [pS]
        go_upto_region 27 with fail
        refine WL.start ?_
        refine tW (.agg (Mg.cells ⟨22, a.to, a.fr, 0, 0, a.ky, ⟨a.st.n, 0⟩, spZ, slZ, cZ, bvZ, ⟨sa, j, sc⟩, true⟩)) (eL 46 _ rfl ⟨gk7, 0, none⟩ (run_load_part (cs := Mg.cs ⟨22, a.to, a.fr, 0, 0, a.ky, ⟨a.st.n, 0⟩, spZ, slZ, cZ, bvZ, ⟨sa, j, sc⟩, true⟩) (sub := Mg.cs ⟨22, a.to, a.fr, 0, 0, a.ky, ⟨a.st.n, 0⟩, spZ, slZ, cZ, bvZ, ⟨sa, j, sc⟩, true⟩) (HF.out.box 3 _ _ _ rfl) (Part.all _) Try.und50 rfl Try.size50)) ?_
        try simp only [pS]
        refine wp_storeW 46 _ _ rfl ⟨gk5, 0, none⟩ (.agg (Mg.cells ⟨22, a.to, a.fr, 0, 0, a.ky, ⟨a.st.n, 0⟩, spZ, slZ, cZ, bvZ, ⟨sa, j, sc⟩, true⟩)) (by kernel_rfl) (by kernel_rfl) (wk23.setRow gk5 (Mg.cells ⟨22, a.to, a.fr, 0, 0, a.ky, ⟨a.st.n, 0⟩, spZ, slZ, cZ, bvZ, ⟨sa, j, sc⟩, true⟩)) (run_store_to (cur := Mg.cs mgZ) (vs := Mg.cs ⟨22, a.to, a.fr, 0, 0, a.ky, ⟨a.st.n, 0⟩, spZ, slZ, cZ, bvZ, ⟨sa, j, sc⟩, true⟩) (new := Mg.cs ⟨22, a.to, a.fr, 0, 0, a.ky, ⟨a.st.n, 0⟩, spZ, slZ, cZ, bvZ, ⟨sa, j, sc⟩, true⟩) (HF.out.box 2 _ _ _ rfl) (by kernel_rfl) Try.size50 (Nat.le_of_ble_eq_true (by kernel_rfl)) (Mg.oneL _) (by kernel_rfl)) (by kernel_rfl) ?_
        try simp only [pS]
        have HO : Hid (OwC (wk23.setRow gk5 (Mg.cells ⟨22, a.to, a.fr, 0, 0, a.ky, ⟨a.st.n, 0⟩, spZ, slZ, cZ, bvZ, ⟨sa, j, sc⟩, true⟩)) w.heap.size ⟨sa, j, sc⟩ (tab j (fun j => cmdAt ps (a.st.n + ((j : Nat) : Int))))) := HO.out.kept (Kept.setRow _ _ _) (fun k h e => (HO.out.own.notBox (HF.out.box 2 _ _ _ rfl) (by decide)) ((show k = gk5 from e) ▸ h))
        have HF : Hid (Fr No w _ [(gk1, 46, Mg.cells a), (gk3, 33, Hd.cells h), (gk5, 46, Mg.cells ⟨22, a.to, a.fr, 0, 0, a.ky, ⟨a.st.n, 0⟩, spZ, slZ, cZ, bvZ, ⟨sa, j, sc⟩, true⟩), (gk7, 46, Mg.cells ⟨22, a.to, a.fr, 0, 0, a.ky, ⟨a.st.n, 0⟩, spZ, slZ, cZ, bvZ, ⟨sa, j, sc⟩, true⟩)]) := HF.out.set 2 rfl _
        generalize wk23.setRow gk5 (Mg.cells ⟨22, a.to, a.fr, 0, 0, a.ky, ⟨a.st.n, 0⟩, spZ, slZ, cZ, bvZ, ⟨sa, j, sc⟩, true⟩) = wk24 at HF HO ⊢
        refine WL.nil ?_
        try simp only [pS]
        go_wp2
        rw [HC.out]
        refine bodyPost_ret (results_row1 (by rfl) _ _ gk5 (Mg.cells ⟨22, a.to, a.fr, 0, 0, a.ky, ⟨a.st.n, 0⟩, spZ, slZ, cZ, bvZ, ⟨sa, j, sc⟩, true⟩) (by rfl) (run_load_part (cs := Mg.cs ⟨22, a.to, a.fr, 0, 0, a.ky, ⟨a.st.n, 0⟩, spZ, slZ, cZ, bvZ, ⟨sa, j, sc⟩, true⟩) (sub := Mg.cs ⟨22, a.to, a.fr, 0, 0, a.ky, ⟨a.st.n, 0⟩, spZ, slZ, cZ, bvZ, ⟨sa, j, sc⟩, true⟩) (HF.out.box 2 _ _ _ rfl) (Part.all _) Try.und50 rfl Try.size50)) rfl ?_
        exact ⟨⟨sa, j, sc⟩, by rw [show decide (min tp (a.st.n + 63) < tp) = true from decide_eq_true (by omega)]; rfl, by rw [show c = j by omega]; exact HO.out, HF.out.kept⟩
  · skip
    go_upto_region 17 with fail
    refine WL.start ?_
    refine tK (.int .i64 tp) ?_
    refine tK (.int .i64 a.st.n) ?_
    refine tW (.int .i64 (tp - a.st.n)) (eB .sub 3 _ _ _ rfl (.int .i64 tp) (.int .i64 a.st.n) _ (b_subw _ _ _ (by rw [IntKind.wrap_i64]; omega) _)) ?_
    refine tW (.bool false) (eB .geq 3 _ _ _ rfl (.int .i64 (tp - a.st.n)) (.int .i64 64) _ (by rw [b_geq, decide_eq_false (by omega)])) ?_
    try simp only [pS]
    refine WL.nil ?_
    try simp only [pS]
    go_upto_region 19 with fail
    refine WL.start ?_
    refine tK (.int .i64 a.st.n) ?_
    refine tK (.int .i64 a.st.n) ?_
    try simp only [pS]
    refine WL.nil ?_
    try simp only [pS]
    go_wp2
    go_loopw [9, 10] (fun v9 v10 wr => ∃ (j : Nat) (sa : Option Addr) (sc : Nat), v9 = .int .i64 (a.st.n + ((j : Nat) : Int)) ∧ j ≤ c ∧ Hid (OwC wr w.heap.size ⟨sa, j, sc⟩ (tab j (fun j => cmdAt ps (a.st.n + ((j : Nat) : Int))))) ∧ Hid (Fr No w wr [(gk1, 46, Mg.cells a), (gk3, 33, Hd.cells h), (gk5, 46, Mg.cells mgZ), (gk7, 46, Mg.cells ⟨22, a.to, a.fr, 0, 0, a.ky, ⟨a.st.n, 0⟩, spZ, slZ, cZ, bvZ, ⟨sa, j, sc⟩, false⟩)])) (fun i _ _ => c - (intOf i - a.st.n).toNat)
    case atStart => exact ⟨0, none, 0, by simp, by omega, ⟨Own.nil _ _ _ _, rfl⟩, HF⟩
    case round =>
      clear HF
      obtain ⟨j, sa, sc, rfl, hj, HO, HF⟩ := hrel
      by_cases hlt : j < c
      · skip
        obtain ⟨x, hx⟩ : ∃ x, x = atF (a.st.n + ((j : Nat) : Int)) ps := ⟨_, rfl⟩
        have HX : Hid (atF (a.st.n + ((j : Nat) : Int)) ps = x) := hx.symm
        clear hx
        go_upto_region 20 with fail
        refine WL.start ?_
        refine tK (.int .i64 (a.st.n + ((j : Nat) : Int))) ?_
        refine tK (.int .i64 tp) ?_
        refine tW (.bool true) (eB .leq 3 _ _ _ rfl (.int .i64 (a.st.n + ((j : Nat) : Int))) (.int .i64 tp) _ (by rw [b_leq, decide_eq_true (by omega)])) ?_
        try simp only [pS]
        refine WL.nil ?_
        try simp only [pS]
        go_upto_region 22 with fail
        refine WL.start ?_
        refine tW (.agg (Hd.cells h)) (eL 33 _ rfl ⟨gk3, 0, none⟩ (run_load_part (cs := Hd.cs h) (sub := Hd.cs h) (HF.out.box 1 _ _ _ rfl) (Part.all _) Try.und35 rfl Try.size35)) ?_
        refine tK (.int .i64 (a.st.n + ((j : Nat) : Int))) ?_
        try simp only [pS]
        refine wp_callW 25 #[.agg (Hd.cells h), .int .i64 (a.st.n + ((j : Nat) : Int))] (by kernel_rfl) _ (refAt_any h ps (a.st.n + ((j : Nat) : Int)) _ (HR.out.no HF.out.kept) hm) (by kernel_rfl) ?_
        rintro e wk25 ⟨rfl, hk⟩
        rw [HX.out]
        have HO : Hid (OwC (wk25) w.heap.size ⟨sa, j, sc⟩ (tab j (fun j => cmdAt ps (a.st.n + ((j : Nat) : Int))))) := HO.out.no hk
        have HF : Hid (Fr No w (wk25) [(gk1, 46, Mg.cells a), (gk3, 33, Hd.cells h), (gk5, 46, Mg.cells mgZ), (gk7, 46, Mg.cells ⟨22, a.to, a.fr, 0, 0, a.ky, ⟨a.st.n, 0⟩, spZ, slZ, cZ, bvZ, ⟨sa, j, sc⟩, false⟩)]) := HF.out.no hk
        clear hk
        refine ⟨.agg (In.cells x), rfl, ?_⟩
        try simp only [pS]
        refine wp_runW (.pointer (some ⟨wk25.heap.size, 0, none⟩)) (wk25.alloc (.cells (In.cells inZ) 65)) (exec_alloc 65 rfl (In.cells inZ) zero70) (by kernel_rfl) ?_
        try simp only [pS]
        have HO : Hid (OwC (wk25.alloc (.cells (In.cells inZ) 65)) w.heap.size ⟨sa, j, sc⟩ (tab j (fun j => cmdAt ps (a.st.n + ((j : Nat) : Int))))) := HO.out.no ((Kept.refl No _).alloc _)
        have HF : Hid (Fr No w _ [(gk1, 46, Mg.cells a), (gk3, 33, Hd.cells h), (gk5, 46, Mg.cells mgZ), (gk7, 46, Mg.cells ⟨22, a.to, a.fr, 0, 0, a.ky, ⟨a.st.n, 0⟩, spZ, slZ, cZ, bvZ, ⟨sa, j, sc⟩, false⟩), (wk25.heap.size, 65, In.cells inZ)]) := HF.out.alloc _ _
        generalize wk25.alloc (.cells (In.cells inZ) 65) = wk27 at HF HO ⊢
        generalize wk25.heap.size = gk26 at HF ⊢
        refine wp_storeW 65 _ _ rfl ⟨gk26, 0, none⟩ (.agg (In.cells x)) (by kernel_rfl) (by kernel_rfl) (wk27.setRow gk26 (In.cells x)) (run_store_to (cur := In.cs inZ) (vs := In.cs x) (new := In.cs x) (HF.out.box 4 _ _ _ rfl) (by kernel_rfl) Try.size70 (Nat.le_of_ble_eq_true (by kernel_rfl)) (In.oneL _) (by kernel_rfl)) (by kernel_rfl) ?_
        try simp only [pS]
        have HO : Hid (OwC (wk27.setRow gk26 (In.cells x)) w.heap.size ⟨sa, j, sc⟩ (tab j (fun j => cmdAt ps (a.st.n + ((j : Nat) : Int))))) := HO.out.kept (Kept.setRow _ _ _) (fun k h e => (HO.out.own.notBox (HF.out.box 4 _ _ _ rfl) (by decide)) ((show k = gk26 from e) ▸ h))
        have HF : Hid (Fr No w _ [(gk1, 46, Mg.cells a), (gk3, 33, Hd.cells h), (gk5, 46, Mg.cells mgZ), (gk7, 46, Mg.cells ⟨22, a.to, a.fr, 0, 0, a.ky, ⟨a.st.n, 0⟩, spZ, slZ, cZ, bvZ, ⟨sa, j, sc⟩, false⟩), (gk26, 65, In.cells x)]) := HF.out.set 4 rfl _
        generalize wk27.setRow gk26 (In.cells x) = wk28 at HF HO ⊢
        refine WL.nil ?_
        try simp only [pS]
        go_upto_region 23 with fail
        refine WL.start ?_
        refine tK (.pointer (some ⟨gk26, 13, none⟩)) ?_
        refine tW (.bool x.d) (eL 4 _ rfl ⟨gk26, 13, none⟩ (load_one ((HF.out.box 4 _ _ _ rfl).cell 13 |>.trans (by kernel_rfl)) Try.und4 rfl)) ?_
        try simp only [pS]
        cases q2 : (x.d)
        ·skip
         try simp only [q2]
         refine tK (.bool true) ?_
         try simp only [pS]
         refine WL.nil ?_
         try simp only [pS]
         have HCx : Hid (cmdAt ps (a.st.n + ((j : Nat) : Int)) = cZ) := by show cmdAt ps _ = _; unfold cmdAt; rw [HX.out, q2]; rfl
         go_upto_region 24 with fail
         refine WL.start ?_
         refine tW (.agg (Cm.cells cZ)) (exec_build 43 _ rfl (Cm.cells cZ) (by kernel_rfl)) ?_
         refine tK (.pointer (some ⟨gk26, 4, none⟩)) ?_
         try simp only [pS]
         refine wp_storeW 43 _ _ rfl ⟨gk26, 4, none⟩ (.agg (Cm.cells cZ)) (by kernel_rfl) (by kernel_rfl) (wk28.setRow gk26 (In.cells ⟨x.p, x.a, cZ, x.d⟩)) (run_store_to (cur := In.cs x) (vs := Cm.cs cZ) (new := In.cs ⟨x.p, x.a, cZ, x.d⟩) (HF.out.box 4 _ _ _ rfl) (by kernel_rfl) Try.size47 (Nat.le_of_ble_eq_true (by kernel_rfl)) (Cm.oneL _) (by kernel_rfl)) (by kernel_rfl) ?_
         try simp only [pS]
         have HO : Hid (OwC (wk28.setRow gk26 (In.cells ⟨x.p, x.a, cZ, x.d⟩)) w.heap.size ⟨sa, j, sc⟩ (tab j (fun j => cmdAt ps (a.st.n + ((j : Nat) : Int))))) := HO.out.kept (Kept.setRow _ _ _) (fun k h e => (HO.out.own.notBox (HF.out.box 4 _ _ _ rfl) (by decide)) ((show k = gk26 from e) ▸ h))
         have HF : Hid (Fr No w _ [(gk1, 46, Mg.cells a), (gk3, 33, Hd.cells h), (gk5, 46, Mg.cells mgZ), (gk7, 46, Mg.cells ⟨22, a.to, a.fr, 0, 0, a.ky, ⟨a.st.n, 0⟩, spZ, slZ, cZ, bvZ, ⟨sa, j, sc⟩, false⟩), (gk26, 65, In.cells ⟨x.p, x.a, cZ, x.d⟩)]) := HF.out.set 4 rfl _
         generalize wk28.setRow gk26 (In.cells ⟨x.p, x.a, cZ, x.d⟩) = wk29 at HF HO ⊢
         refine WL.nil ?_
         try simp only [pS]
         go_upto_region 25 with fail
         refine WL.start ?_
         refine tK (.pointer (some ⟨gk7, 28, none⟩)) ?_
         refine tW (.slice sa j sc) (eL 44 _ rfl ⟨gk7, 28, none⟩ (load_one ((HF.out.box 3 _ _ _ rfl).cell 28 |>.trans (by kernel_rfl)) Try.und48 rfl)) ?_
         refine tK (.pointer (some ⟨gk26, 4, none⟩)) ?_
         refine tW (.agg (Cm.cells cZ)) (eL 43 _ rfl ⟨gk26, 4, none⟩ (run_load_part (cs := In.cs ⟨x.p, x.a, cZ, x.d⟩) (sub := Cm.cs cZ) (HF.out.box 4 _ _ _ rfl) (part_of (by kernel_rfl)) Try.und47 rfl Try.size47)) ?_
         try simp only [pS]
         refine wp_runW (.slice (some ⟨wk29.heap.size, 0, none⟩) 1 1) (wk29.alloc (.cells (Cm.cells cZ) 43)) (exec_slice2 44 43 _ rfl (Cm.cells cZ) (.agg (Cm.cells cZ)) (by kernel_rfl) (by kernel_rfl)) (by kernel_rfl) ?_
         try simp only [pS]
         have HO : Hid (OwC (wk29.alloc (.cells (Cm.cells cZ) 43)) w.heap.size ⟨sa, j, sc⟩ (tab j (fun j => cmdAt ps (a.st.n + ((j : Nat) : Int))))) := HO.out.no ((Kept.refl No _).alloc _)
         have HF : Hid (Fr No w _ [(gk1, 46, Mg.cells a), (gk3, 33, Hd.cells h), (gk5, 46, Mg.cells mgZ), (gk7, 46, Mg.cells ⟨22, a.to, a.fr, 0, 0, a.ky, ⟨a.st.n, 0⟩, spZ, slZ, cZ, bvZ, ⟨sa, j, sc⟩, false⟩), (gk26, 65, In.cells ⟨x.p, x.a, cZ, x.d⟩), (wk29.heap.size, 43, Cm.cells cZ)]) := HF.out.alloc _ _
         generalize wk29.alloc (.cells (Cm.cells cZ) 43) = wk31 at HF HO ⊢
         generalize wk29.heap.size = gk30 at HF ⊢
         obtain ⟨sa2, cap2, w2, hrun, hown, hk2, hat2⟩ := run_appN (w := wk31) 44 44 43 9 80 (.agg cZ.cells) Try.und48 Try.info47 rfl (by omega) w.heap.size j sc sa (cmL (tab j (fun j => cmdAt ps (a.st.n + ((j : Nat) : Int))))) HO.out.own (some ⟨gk30, 0, none⟩) 1 1 (Cm.cs cZ) rfl (fun e => by cases e) (fun j u hj => ⟨_, rfl, by rw [addr_add, Nat.zero_add, (HF.out.box 5 _ _ _ rfl).cell]; exact cell_cs _ _ _ hj⟩) (Cm.oneL _) (by omega) (by omega) (by have := HF.out.kept.size; omega)
         have hO0 := HO.out
         refine wp_runW (.slice sa2 (j + 1) cap2) w2 (exec_appN _ _ 44 44 rfl _ _ (by kernel_rfl) (by kernel_rfl) hrun) (by kernel_rfl) ?_
         try simp only [pS]
         have HO : Hid (OwC w2 w.heap.size ⟨sa2, j + 1, cap2⟩ (tab (j + 1) (fun j => cmdAt ps (a.st.n + ((j : Nat) : Int))))) := ⟨by rw [tab_succ, cmL_app, cmL_1, HCx.out]; exact hown, tab_len _ _⟩
         have HF : Hid (Fr No w w2 [(gk1, 46, Mg.cells a), (gk3, 33, Hd.cells h), (gk5, 46, Mg.cells mgZ), (gk7, 46, Mg.cells ⟨22, a.to, a.fr, 0, 0, a.ky, ⟨a.st.n, 0⟩, spZ, slZ, cZ, bvZ, ⟨sa, j, sc⟩, false⟩)]) := (show Fr No w wk31 ([(gk1, 46, Mg.cells a), (gk3, 33, Hd.cells h), (gk5, 46, Mg.cells mgZ), (gk7, 46, Mg.cells ⟨22, a.to, a.fr, 0, 0, a.ky, ⟨a.st.n, 0⟩, spZ, slZ, cZ, bvZ, ⟨sa, j, sc⟩, false⟩)] ++ [(gk26, 65, In.cells ⟨x.p, x.a, cZ, x.d⟩), (gk30, 43, Cm.cells cZ)]) from HF.out).front.app hO0.own hk2 (by simp)
         clear hown hk2 hat2 hrun hO0
         refine tK (.pointer (some ⟨gk7, 28, none⟩)) ?_
         try simp only [pS]
         refine wp_storeW 44 _ _ rfl ⟨gk7, 28, none⟩ (.slice sa2 (j + 1) cap2) (by kernel_rfl) (by kernel_rfl) (w2.setRow gk7 (Mg.cells ⟨22, a.to, a.fr, 0, 0, a.ky, ⟨a.st.n, 0⟩, spZ, slZ, cZ, bvZ, ⟨sa2, (j + 1), cap2⟩, false⟩)) (run_store_to (cur := Mg.cs ⟨22, a.to, a.fr, 0, 0, a.ky, ⟨a.st.n, 0⟩, spZ, slZ, cZ, bvZ, ⟨sa, j, sc⟩, false⟩) (vs := [.slice sa2 (j + 1) cap2]) (new := Mg.cs ⟨22, a.to, a.fr, 0, 0, a.ky, ⟨a.st.n, 0⟩, spZ, slZ, cZ, bvZ, ⟨sa2, (j + 1), cap2⟩, false⟩) (HF.out.box 3 _ _ _ rfl) (by kernel_rfl) Try.size48 (Nat.le_of_ble_eq_true (by kernel_rfl)) (by simp [Value.oneCell', Sl.v]) (by kernel_rfl)) (by kernel_rfl) ?_
         try simp only [pS]
         have HO : Hid (OwC (w2.setRow gk7 (Mg.cells ⟨22, a.to, a.fr, 0, 0, a.ky, ⟨a.st.n, 0⟩, spZ, slZ, cZ, bvZ, ⟨sa2, (j + 1), cap2⟩, false⟩)) w.heap.size ⟨sa2, j + 1, cap2⟩ (tab (j + 1) (fun j => cmdAt ps (a.st.n + ((j : Nat) : Int))))) := HO.out.kept (Kept.setRow _ _ _) (fun k h e => (HO.out.own.notBox (HF.out.box 3 _ _ _ rfl) (by decide)) ((show k = gk7 from e) ▸ h))
         have HF : Hid (Fr No w _ [(gk1, 46, Mg.cells a), (gk3, 33, Hd.cells h), (gk5, 46, Mg.cells mgZ), (gk7, 46, Mg.cells ⟨22, a.to, a.fr, 0, 0, a.ky, ⟨a.st.n, 0⟩, spZ, slZ, cZ, bvZ, ⟨sa2, (j + 1), cap2⟩, false⟩)]) := HF.out.set 3 rfl _
         generalize w2.setRow gk7 (Mg.cells ⟨22, a.to, a.fr, 0, 0, a.ky, ⟨a.st.n, 0⟩, spZ, slZ, cZ, bvZ, ⟨sa2, (j + 1), cap2⟩, false⟩) = wk32 at HF HO ⊢
         refine WL.nil ?_
         try simp only [pS]
         go_upto_region 21 with fail
         refine WL.start ?_
         refine tK (.int .i64 (a.st.n + ((j : Nat) : Int))) ?_
         refine tW (.int .i64 (a.st.n + (((j + 1) : Nat) : Int))) (eB .add 3 _ _ _ rfl (.int .i64 (a.st.n + ((j : Nat) : Int))) (.int .i64 1) _ (b_addw _ _ _ (by rw [IntKind.wrap_i64]; omega) _)) ?_
         refine tK (.int .i64 (a.st.n + (((j + 1) : Nat) : Int))) ?_
         try simp only [pS]
         refine WL.nil ?_
         try simp only [pS]
         go_wp2
         go_roundw
         case rel => exact ⟨j + 1, sa2, cap2, by go_num, by omega, HO, HF⟩
         case measure => simp [intOf]; omega
        ·skip
         try simp only [q2]
         refine tK (.bool false) ?_
         try simp only [pS]
         refine WL.nil ?_
         try simp only [pS]
         have HCx : Hid (cmdAt ps (a.st.n + ((j : Nat) : Int)) = x.c) := by show cmdAt ps _ = _; unfold cmdAt; rw [HX.out, q2]; rfl
         go_upto_region 25 with fail
         refine WL.start ?_
         refine tK (.pointer (some ⟨gk7, 28, none⟩)) ?_
         refine tW (.slice sa j sc) (eL 44 _ rfl ⟨gk7, 28, none⟩ (load_one ((HF.out.box 3 _ _ _ rfl).cell 28 |>.trans (by kernel_rfl)) Try.und48 rfl)) ?_
         refine tK (.pointer (some ⟨gk26, 4, none⟩)) ?_
         refine tW (.agg (Cm.cells x.c)) (eL 43 _ rfl ⟨gk26, 4, none⟩ (run_load_part (cs := In.cs x) (sub := Cm.cs x.c) (HF.out.box 4 _ _ _ rfl) (part_of (by kernel_rfl)) Try.und47 rfl Try.size47)) ?_
         try simp only [pS]
         refine wp_runW (.slice (some ⟨wk28.heap.size, 0, none⟩) 1 1) (wk28.alloc (.cells (Cm.cells x.c) 43)) (exec_slice2 44 43 _ rfl (Cm.cells x.c) (.agg (Cm.cells x.c)) (by kernel_rfl) (by kernel_rfl)) (by kernel_rfl) ?_
         try simp only [pS]
         have HO : Hid (OwC (wk28.alloc (.cells (Cm.cells x.c) 43)) w.heap.size ⟨sa, j, sc⟩ (tab j (fun j => cmdAt ps (a.st.n + ((j : Nat) : Int))))) := HO.out.no ((Kept.refl No _).alloc _)
         have HF : Hid (Fr No w _ [(gk1, 46, Mg.cells a), (gk3, 33, Hd.cells h), (gk5, 46, Mg.cells mgZ), (gk7, 46, Mg.cells ⟨22, a.to, a.fr, 0, 0, a.ky, ⟨a.st.n, 0⟩, spZ, slZ, cZ, bvZ, ⟨sa, j, sc⟩, false⟩), (gk26, 65, In.cells x), (wk28.heap.size, 43, Cm.cells x.c)]) := HF.out.alloc _ _
         generalize wk28.alloc (.cells (Cm.cells x.c) 43) = wk34 at HF HO ⊢
         generalize wk28.heap.size = gk33 at HF ⊢
         obtain ⟨sa2, cap2, w2, hrun, hown, hk2, hat2⟩ := run_appN (w := wk34) 44 44 43 9 80 (.agg cZ.cells) Try.und48 Try.info47 rfl (by omega) w.heap.size j sc sa (cmL (tab j (fun j => cmdAt ps (a.st.n + ((j : Nat) : Int))))) HO.out.own (some ⟨gk33, 0, none⟩) 1 1 (Cm.cs x.c) rfl (fun e => by cases e) (fun j u hj => ⟨_, rfl, by rw [addr_add, Nat.zero_add, (HF.out.box 5 _ _ _ rfl).cell]; exact cell_cs _ _ _ hj⟩) (Cm.oneL _) (by omega) (by omega) (by have := HF.out.kept.size; omega)
         have hO0 := HO.out
         refine wp_runW (.slice sa2 (j + 1) cap2) w2 (exec_appN _ _ 44 44 rfl _ _ (by kernel_rfl) (by kernel_rfl) hrun) (by kernel_rfl) ?_
         try simp only [pS]
         have HO : Hid (OwC w2 w.heap.size ⟨sa2, j + 1, cap2⟩ (tab (j + 1) (fun j => cmdAt ps (a.st.n + ((j : Nat) : Int))))) := ⟨by rw [tab_succ, cmL_app, cmL_1, HCx.out]; exact hown, tab_len _ _⟩
         have HF : Hid (Fr No w w2 [(gk1, 46, Mg.cells a), (gk3, 33, Hd.cells h), (gk5, 46, Mg.cells mgZ), (gk7, 46, Mg.cells ⟨22, a.to, a.fr, 0, 0, a.ky, ⟨a.st.n, 0⟩, spZ, slZ, cZ, bvZ, ⟨sa, j, sc⟩, false⟩)]) := (show Fr No w wk34 ([(gk1, 46, Mg.cells a), (gk3, 33, Hd.cells h), (gk5, 46, Mg.cells mgZ), (gk7, 46, Mg.cells ⟨22, a.to, a.fr, 0, 0, a.ky, ⟨a.st.n, 0⟩, spZ, slZ, cZ, bvZ, ⟨sa, j, sc⟩, false⟩)] ++ [(gk26, 65, In.cells x), (gk33, 43, Cm.cells x.c)]) from HF.out).front.app hO0.own hk2 (by simp)
         clear hown hk2 hat2 hrun hO0
         refine tK (.pointer (some ⟨gk7, 28, none⟩)) ?_
         try simp only [pS]
         refine wp_storeW 44 _ _ rfl ⟨gk7, 28, none⟩ (.slice sa2 (j + 1) cap2) (by kernel_rfl) (by kernel_rfl) (w2.setRow gk7 (Mg.cells ⟨22, a.to, a.fr, 0, 0, a.ky, ⟨a.st.n, 0⟩, spZ, slZ, cZ, bvZ, ⟨sa2, (j + 1), cap2⟩, false⟩)) (run_store_to (cur := Mg.cs ⟨22, a.to, a.fr, 0, 0, a.ky, ⟨a.st.n, 0⟩, spZ, slZ, cZ, bvZ, ⟨sa, j, sc⟩, false⟩) (vs := [.slice sa2 (j + 1) cap2]) (new := Mg.cs ⟨22, a.to, a.fr, 0, 0, a.ky, ⟨a.st.n, 0⟩, spZ, slZ, cZ, bvZ, ⟨sa2, (j + 1), cap2⟩, false⟩) (HF.out.box 3 _ _ _ rfl) (by kernel_rfl) Try.size48 (Nat.le_of_ble_eq_true (by kernel_rfl)) (by simp [Value.oneCell', Sl.v]) (by kernel_rfl)) (by kernel_rfl) ?_
         try simp only [pS]
         have HO : Hid (OwC (w2.setRow gk7 (Mg.cells ⟨22, a.to, a.fr, 0, 0, a.ky, ⟨a.st.n, 0⟩, spZ, slZ, cZ, bvZ, ⟨sa2, (j + 1), cap2⟩, false⟩)) w.heap.size ⟨sa2, j + 1, cap2⟩ (tab (j + 1) (fun j => cmdAt ps (a.st.n + ((j : Nat) : Int))))) := HO.out.kept (Kept.setRow _ _ _) (fun k h e => (HO.out.own.notBox (HF.out.box 3 _ _ _ rfl) (by decide)) ((show k = gk7 from e) ▸ h))
         have HF : Hid (Fr No w _ [(gk1, 46, Mg.cells a), (gk3, 33, Hd.cells h), (gk5, 46, Mg.cells mgZ), (gk7, 46, Mg.cells ⟨22, a.to, a.fr, 0, 0, a.ky, ⟨a.st.n, 0⟩, spZ, slZ, cZ, bvZ, ⟨sa2, (j + 1), cap2⟩, false⟩)]) := HF.out.set 3 rfl _
         generalize w2.setRow gk7 (Mg.cells ⟨22, a.to, a.fr, 0, 0, a.ky, ⟨a.st.n, 0⟩, spZ, slZ, cZ, bvZ, ⟨sa2, (j + 1), cap2⟩, false⟩) = wk35 at HF HO ⊢
         refine WL.nil ?_
         try simp only [pS]
         go_upto_region 21 with fail
         refine WL.start ?_
         refine tK (.int .i64 (a.st.n + ((j : Nat) : Int))) ?_
         refine tW (.int .i64 (a.st.n + (((j + 1) : Nat) : Int))) (eB .add 3 _ _ _ rfl (.int .i64 (a.st.n + ((j : Nat) : Int))) (.int .i64 1) _ (b_addw _ _ _ (by rw [IntKind.wrap_i64]; omega) _)) ?_
         refine tK (.int .i64 (a.st.n + (((j + 1) : Nat) : Int))) ?_
         try simp only [pS]
         refine WL.nil ?_
         try simp only [pS]
         go_wp2
         go_roundw
         case rel => exact ⟨j + 1, sa2, cap2, by go_num, by omega, HO, HF⟩
         case measure => simp [intOf]; omega
      · skip
        go_upto_region 20 with fail
        refine WL.start ?_
        refine tK (.int .i64 (a.st.n + ((j : Nat) : Int))) ?_
        refine tK (.int .i64 tp) ?_
        refine tW (.bool false) (eB .leq 3 _ _ _ rfl (.int .i64 (a.st.n + ((j : Nat) : Int))) (.int .i64 tp) _ (by rw [b_leq, decide_eq_false (by omega)])) ?_
        try simp only [pS]
        refine WL.nil ?_
        try simp only [pS]
        go_upto_region 26 with fail
        refine WL.start ?_
        refine tK (.int .i64 tp) ?_
        refine tK (.int .i64 tp) ?_
        refine tW (.bool false) (eB .gtr 3 _ _ _ rfl (.int .i64 tp) (.int .i64 tp) _ (by rw [b_gtr, decide_eq_false (by omega)])) ?_
        refine tK (.bool false) ?_
        refine sK ?_
        refine sK ?_
        refine sK ?_
        refine tK (.bool false) ?_
        refine tK (.pointer (some ⟨gk7, 29, none⟩)) ?_
        try simp only [pS]
        refine wp_storeW 4 _ _ rfl ⟨gk7, 29, none⟩ (.bool false) (by kernel_rfl) (by kernel_rfl) (wr.setRow gk7 (Mg.cells ⟨22, a.to, a.fr, 0, 0, a.ky, ⟨a.st.n, 0⟩, spZ, slZ, cZ, bvZ, ⟨sa, j, sc⟩, false⟩)) (run_store_to (cur := Mg.cs ⟨22, a.to, a.fr, 0, 0, a.ky, ⟨a.st.n, 0⟩, spZ, slZ, cZ, bvZ, ⟨sa, j, sc⟩, false⟩) (vs := [.bool false]) (new := Mg.cs ⟨22, a.to, a.fr, 0, 0, a.ky, ⟨a.st.n, 0⟩, spZ, slZ, cZ, bvZ, ⟨sa, j, sc⟩, false⟩) (HF.out.box 3 _ _ _ rfl) (by kernel_rfl) Try.size4 (Nat.le_of_ble_eq_true (by kernel_rfl)) (by simp [Value.oneCell', Sl.v]) (by kernel_rfl)) (by kernel_rfl) ?_
        try simp only [pS]
        have HO : Hid (OwC (wr.setRow gk7 (Mg.cells ⟨22, a.to, a.fr, 0, 0, a.ky, ⟨a.st.n, 0⟩, spZ, slZ, cZ, bvZ, ⟨sa, j, sc⟩, false⟩)) w.heap.size ⟨sa, j, sc⟩ (tab j (fun j => cmdAt ps (a.st.n + ((j : Nat) : Int))))) := HO.out.kept (Kept.setRow _ _ _) (fun k h e => (HO.out.own.notBox (HF.out.box 3 _ _ _ rfl) (by decide)) ((show k = gk7 from e) ▸ h))
        have HF : Hid (Fr No w _ [(gk1, 46, Mg.cells a), (gk3, 33, Hd.cells h), (gk5, 46, Mg.cells mgZ), (gk7, 46, Mg.cells ⟨22, a.to, a.fr, 0, 0, a.ky, ⟨a.st.n, 0⟩, spZ, slZ, cZ, bvZ, ⟨sa, j, sc⟩, false⟩)]) := HF.out.set 3 rfl _
        generalize wr.setRow gk7 (Mg.cells ⟨22, a.to, a.fr, 0, 0, a.ky, ⟨a.st.n, 0⟩, spZ, slZ, cZ, bvZ, ⟨sa, j, sc⟩, false⟩) = wk36 at HF HO ⊢
        refine WL.nil ?_
        try simp only [pS]
        go_upto_region 27 with fail
        refine WL.start ?_
        refine tW (.agg (Mg.cells ⟨22, a.to, a.fr, 0, 0, a.ky, ⟨a.st.n, 0⟩, spZ, slZ, cZ, bvZ, ⟨sa, j, sc⟩, false⟩)) (eL 46 _ rfl ⟨gk7, 0, none⟩ (run_load_part (cs := Mg.cs ⟨22, a.to, a.fr, 0, 0, a.ky, ⟨a.st.n, 0⟩, spZ, slZ, cZ, bvZ, ⟨sa, j, sc⟩, false⟩) (sub := Mg.cs ⟨22, a.to, a.fr, 0, 0, a.ky, ⟨a.st.n, 0⟩, spZ, slZ, cZ, bvZ, ⟨sa, j, sc⟩, false⟩) (HF.out.box 3 _ _ _ rfl) (Part.all _) Try.und50 rfl Try.size50)) ?_
        try simp only [pS]
        refine wp_storeW 46 _ _ rfl ⟨gk5, 0, none⟩ (.agg (Mg.cells ⟨22, a.to, a.fr, 0, 0, a.ky, ⟨a.st.n, 0⟩, spZ, slZ, cZ, bvZ, ⟨sa, j, sc⟩, false⟩)) (by kernel_rfl) (by kernel_rfl) (wk36.setRow gk5 (Mg.cells ⟨22, a.to, a.fr, 0, 0, a.ky, ⟨a.st.n, 0⟩, spZ, slZ, cZ, bvZ, ⟨sa, j, sc⟩, false⟩)) (run_store_to (cur := Mg.cs mgZ) (vs := Mg.cs ⟨22, a.to, a.fr, 0, 0, a.ky, ⟨a.st.n, 0⟩, spZ, slZ, cZ, bvZ, ⟨sa, j, sc⟩, false⟩) (new := Mg.cs ⟨22, a.to, a.fr, 0, 0, a.ky, ⟨a.st.n, 0⟩, spZ, slZ, cZ, bvZ, ⟨sa, j, sc⟩, false⟩) (HF.out.box 2 _ _ _ rfl) (by kernel_rfl) Try.size50 (Nat.le_of_ble_eq_true (by kernel_rfl)) (Mg.oneL _) (by kernel_rfl)) (by kernel_rfl) ?_
        try simp only [pS]
        have HO : Hid (OwC (wk36.setRow gk5 (Mg.cells ⟨22, a.to, a.fr, 0, 0, a.ky, ⟨a.st.n, 0⟩, spZ, slZ, cZ, bvZ, ⟨sa, j, sc⟩, false⟩)) w.heap.size ⟨sa, j, sc⟩ (tab j (fun j => cmdAt ps (a.st.n + ((j : Nat) : Int))))) := HO.out.kept (Kept.setRow _ _ _) (fun k h e => (HO.out.own.notBox (HF.out.box 2 _ _ _ rfl) (by decide)) ((show k = gk5 from e) ▸ h))
        have HF : Hid (Fr No w _ [(gk1, 46, Mg.cells a), (gk3, 33, Hd.cells h), (gk5, 46, Mg.cells ⟨22, a.to, a.fr, 0, 0, a.ky, ⟨a.st.n, 0⟩, spZ, slZ, cZ, bvZ, ⟨sa, j, sc⟩, false⟩), (gk7, 46, Mg.cells ⟨22, a.to, a.fr, 0, 0, a.ky, ⟨a.st.n, 0⟩, spZ, slZ, cZ, bvZ, ⟨sa, j, sc⟩, false⟩)]) := HF.out.set 2 rfl _
        generalize wk36.setRow gk5 (Mg.cells ⟨22, a.to, a.fr, 0, 0, a.ky, ⟨a.st.n, 0⟩, spZ, slZ, cZ, bvZ, ⟨sa, j, sc⟩, false⟩) = wk37 at HF HO ⊢
        refine WL.nil ?_
        try simp only [pS]
        go_wp2
        rw [HC.out]
        refine bodyPost_ret (results_row1 (by rfl) _ _ gk5 (Mg.cells ⟨22, a.to, a.fr, 0, 0, a.ky, ⟨a.st.n, 0⟩, spZ, slZ, cZ, bvZ, ⟨sa, j, sc⟩, false⟩) (by rfl) (run_load_part (cs := Mg.cs ⟨22, a.to, a.fr, 0, 0, a.ky, ⟨a.st.n, 0⟩, spZ, slZ, cZ, bvZ, ⟨sa, j, sc⟩, false⟩) (sub := Mg.cs ⟨22, a.to, a.fr, 0, 0, a.ky, ⟨a.st.n, 0⟩, spZ, slZ, cZ, bvZ, ⟨sa, j, sc⟩, false⟩) (HF.out.box 2 _ _ _ rfl) (Part.all _) Try.und50 rfl Try.size50)) rfl ?_
        exact ⟨⟨sa, j, sc⟩, by rw [show decide (min tp (a.st.n + 63) < tp) = false from decide_eq_false (by omega)]; rfl, by rw [show c = j by omega]; exact HO.out, HF.out.kept⟩

end Go.Proofs.Ytcgnbpaaalmkoab
