import Derived.Test.YtcgnbpaaalmkoabR
namespace Go.Proofs.Ytcgnbpaaalmkoab
open Go.RowKit
set_option linter.unusedVariables false
set_option linter.unusedSimpArgs false
@[reducible] def oqS0 : Oper := { dst := some 17, op := Op.fieldAddr 46 (Operand.tmp 2) 10, type := 0, pos := "mend.go:64", after := #[], guard := none }
@[reducible] def oqS1 : Oper := { dst := some 18, op := Op.fieldAddr 30 (Operand.tmp 17) 0, type := 0, pos := "mend.go:64", after := #[{ on := 0, ground := Ground.data }], guard := none }
@[reducible] def oqS2 : Oper := { dst := some 19, op := Op.load 3 (Operand.tmp 18), type := 3, pos := "mend.go:64", after := #[{ on := 1, ground := Ground.data }], guard := none }
@[reducible] def oqS3 : Oper := { dst := some 20, op := Op.fieldAddr 46 (Operand.tmp 2) 6, type := 0, pos := "mend.go:64", after := #[{ on := 6, ground := Ground.gcOnly Departure.lateStores }], guard := none }
@[reducible] def oqS4 : Oper := { dst := some 21, op := Op.fieldAddr 23 (Operand.tmp 20) 0, type := 0, pos := "mend.go:64", after := #[{ on := 3, ground := Ground.data }, { on := 6, ground := Ground.gcOnly Departure.lateStores }], guard := none }
@[reducible] def oqS5 : Oper := { dst := some 22, op := Op.load 3 (Operand.tmp 21), type := 3, pos := "mend.go:64", after := #[{ on := 4, ground := Ground.data }, { on := 6, ground := Ground.gcOnly Departure.lateStores }], guard := none }
@[reducible] def oqS6 : Oper := { dst := some 7, op := Op.assign (Operand.tmp 19), type := 3, pos := "mend.go:64", after := #[{ on := 2, ground := Ground.data }, { on := 0, ground := Ground.phase }, { on := 1, ground := Ground.phase }, { on := 2, ground := Ground.phase }, { on := 3, ground := Ground.textOnly Departure.lateStores }, { on := 4, ground := Ground.textOnly Departure.lateStores }, { on := 5, ground := Ground.textOnly Departure.lateStores }], guard := none }
@[reducible] def oqS7 : Oper := { dst := some 8, op := Op.assign (Operand.tmp 22), type := 3, pos := "mend.go:64", after := #[{ on := 5, ground := Ground.data }, { on := 6, ground := Ground.chain }, { on := 0, ground := Ground.phase }, { on := 1, ground := Ground.phase }, { on := 2, ground := Ground.phase }, { on := 3, ground := Ground.phase }, { on := 4, ground := Ground.phase }, { on := 5, ground := Ground.phase }, { on := 6, ground := Ground.phase }], guard := none }

set_option maxRecDepth 100000 in
set_option maxHeartbeats 4000000 in
theorem take_zero (m : Mg) (h : Hd) (w : World) (hz : (m.k == 22 && (m.ky.k == 1 || (m.ky.k == 2 && ((decide (1 ≤ m.bk.up) && decide (m.bk.up ≤ 1048576)) || (m.bk.up == 0 && askB m.st.n))))) = false) : Calls Try.prog 12 #[.agg (Mg.cells m), .agg (Hd.cells h)] w (fun e w' => e = .returned (.tuple #[.slice none 0 0, .agg (Mg.cells mgZ), .bool false]) ∧ Kept No w w') := by
  obtain ⟨C, hC⟩ : ∃ C : Ending → World → Prop, C = (fun e w' => e = .returned (.tuple #[.slice none 0 0, .agg (Mg.cells mgZ), .bool false]) ∧ Kept No w w') := ⟨_, rfl⟩
  have HC : Hid (C = (fun e w' => e = .returned (.tuple #[.slice none 0 0, .agg (Mg.cells mgZ), .bool false]) ∧ Kept No w w')) := hC
  rw [← hC]
  clear hC
  have HF : Hid (Fr No w w []) := Fr.start _ _
  go_enter Try.func12, Try.ntmps12
  go_upto_region 0 with fail
  refine WL.start ?_
  refine wp_runW (.pointer (some ⟨w.heap.size, 0, none⟩)) (w.alloc (.cells (Mg.cells m) 46)) (exec_box 46 _ rfl (Mg.cells m) (by kernel_rfl)) (by kernel_rfl) ?_
  try simp only [pS]
  have HF : Hid (Fr No w _ [(w.heap.size, 46, Mg.cells m)]) := HF.out.alloc _ _
  generalize w.alloc (.cells (Mg.cells m) 46) = wk2 at HF ⊢
  generalize w.heap.size = gk1 at HF ⊢
  refine wp_runW (.pointer (some ⟨wk2.heap.size, 0, none⟩)) (wk2.alloc (.cells (Hd.cells h) 49)) (exec_box 49 _ rfl (Hd.cells h) (by kernel_rfl)) (by kernel_rfl) ?_
  try simp only [pS]
  have HF : Hid (Fr No w _ [(gk1, 46, Mg.cells m), (wk2.heap.size, 49, Hd.cells h)]) := HF.out.alloc _ _
  generalize wk2.alloc (.cells (Hd.cells h) 49) = wk4 at HF ⊢
  generalize wk2.heap.size = gk3 at HF ⊢
  refine tK (.slice none 0 0) ?_
  try simp only [pS]
  refine wp_runW (.pointer (some ⟨wk4.heap.size, 0, none⟩)) (wk4.alloc (.cells (Mg.cells mgZ) 46)) (exec_alloc 46 rfl (Mg.cells mgZ) zero50) (by kernel_rfl) ?_
  try simp only [pS]
  have HF : Hid (Fr No w _ [(gk1, 46, Mg.cells m), (gk3, 49, Hd.cells h), (wk4.heap.size, 46, Mg.cells mgZ)]) := HF.out.alloc _ _
  generalize wk4.alloc (.cells (Mg.cells mgZ) 46) = wk6 at HF ⊢
  generalize wk4.heap.size = gk5 at HF ⊢
  refine tK (.bool false) ?_
  try simp only [pS]
  refine WL.nil ?_
  try simp only [pS]
  go_upto_region 1 with fail
  refine WL.start ?_
  refine tK (.pointer (some ⟨gk1, 0, none⟩)) ?_
  refine tW (.int .i64 m.k) (eL 3 _ rfl ⟨gk1, 0, none⟩ (load_one ((HF.out.box 0 _ _ _ rfl).cell 0 |>.trans (by kernel_rfl)) Try.und3 rfl)) ?_
  try simp only [pS]
  cases q1 : (m.k == 22)
  ·skip
   refine tW (.bool true) (eB .neq 3 _ _ _ rfl (.int .i64 m.k) (.int .i64 22) _ (by rw [b_neq, q1]; try rfl)) ?_
   try simp only [pS]
   refine WL.nil ?_
   try simp only [pS]
   go_upto_region 2 with fail
   refine WL.start ?_
   refine tW (.agg (Mg.cells mgZ)) (exec_build 46 _ rfl (Mg.cells mgZ) (by kernel_rfl)) ?_
   refine tK (.slice none 0 0) ?_
   try simp only [pS]
   refine wp_storeW 46 _ _ rfl ⟨gk5, 0, none⟩ (.agg (Mg.cells mgZ)) (by kernel_rfl) (by kernel_rfl) (wk6.setRow gk5 (Mg.cells mgZ)) (run_store_to (cur := Mg.cs mgZ) (vs := Mg.cs mgZ) (new := Mg.cs mgZ) (HF.out.box 2 _ _ _ rfl) (by kernel_rfl) Try.size50 (Nat.le_of_ble_eq_true (by kernel_rfl)) (Mg.oneL _) (by kernel_rfl)) (by kernel_rfl) ?_
   try simp only [pS]
   have HF : Hid (Fr No w _ [(gk1, 46, Mg.cells m), (gk3, 49, Hd.cells h), (gk5, 46, Mg.cells mgZ)]) := HF.out.set 2 rfl _
   generalize wk6.setRow gk5 (Mg.cells mgZ) = wk7 at HF ⊢
   refine tK (.bool false) ?_
   try simp only [pS]
   refine WL.nil ?_
   try simp only [pS]
   go_wp2
   rw [HC.out]
   refine bodyPost_ret (results_tct (by rfl) _ _ gk5 (Mg.cells mgZ) (by rfl) (run_load_part (cs := Mg.cs mgZ) (sub := Mg.cs mgZ) (HF.out.box 2 _ _ _ rfl) (Part.all _) Try.und50 rfl Try.size50)) rfl ?_
   exact ⟨rfl, HF.out.kept⟩
  ·skip
   refine tW (.bool false) (eB .neq 3 _ _ _ rfl (.int .i64 m.k) (.int .i64 22) _ (by rw [b_neq, q1]; try rfl)) ?_
   try simp only [pS]
   refine WL.nil ?_
   try simp only [pS]
   go_upto_region 3 with fail
   refine wp_region_held_drew (S := fun w' => Box w' gk1 46 (Mg.cells m)) rfl (HF.out.box 0 _ _ _ rfl) (fun hH => ?_)
   have HF : Hid (Fr No w (wk6.drew) [(gk1, 46, Mg.cells m), (gk3, 49, Hd.cells h), (gk5, 46, Mg.cells mgZ)]) := HF.out.drew
   generalize wk6.drew = wk8 at HF hH ⊢
   refine aT (i := 0) (oi := oqS0) (v := .pointer (some ⟨gk1, 25, none⟩)) (fun _ _ => by kernel_rfl) hH ?_
   try simp only [pS]
   refine aT (i := 1) (oi := oqS1) (v := .pointer (some ⟨gk1, 25, none⟩)) (fun _ _ => by kernel_rfl) hH ?_
   try simp only [pS]
   refine aT (i := 2) (oi := oqS2) (v := .int .i64 m.bk.up) (fun w' hw => eL 3 _ rfl ⟨gk1, 25, none⟩ (load_one ((hw).cell 25 |>.trans (by kernel_rfl)) Try.und3 rfl)) hH ?_
   try simp only [pS]
   refine aT (i := 3) (oi := oqS3) (v := .pointer (some ⟨gk1, 11, none⟩)) (fun _ _ => by kernel_rfl) hH ?_
   try simp only [pS]
   refine aT (i := 4) (oi := oqS4) (v := .pointer (some ⟨gk1, 11, none⟩)) (fun _ _ => by kernel_rfl) hH ?_
   try simp only [pS]
   refine aT (i := 5) (oi := oqS5) (v := .int .i64 m.st.n) (fun w' hw => eL 3 _ rfl ⟨gk1, 11, none⟩ (load_one ((hw).cell 11 |>.trans (by kernel_rfl)) Try.und3 rfl)) hH ?_
   try simp only [pS]
   refine aT (i := 6) (oi := oqS6) (v := .int .i64 m.bk.up) (fun _ _ => by kernel_rfl) hH ?_
   try simp only [pS]
   refine aT (i := 7) (oi := oqS7) (v := .int .i64 m.st.n) (fun _ _ => by kernel_rfl) hH ?_
   try simp only [pS]
   refine wpAnyH_done (by kernel_rfl) ?_ _
   try simp only [pS]
   clear hH
   go_upto_region 4 with fail
   refine WL.start ?_
   refine tK (.pointer (some ⟨gk1, 7, none⟩)) ?_
   refine tK (.pointer (some ⟨gk1, 7, none⟩)) ?_
   refine tW (.int .i64 m.ky.k) (eL 3 _ rfl ⟨gk1, 7, none⟩ (load_one ((HF.out.box 0 _ _ _ rfl).cell 7 |>.trans (by kernel_rfl)) Try.und3 rfl)) ?_
   try simp only [pS]
   cases q2 : (m.ky.k == 1)
   ·skip
    refine tW (.bool false) (eB .eql 3 _ _ _ rfl (.int .i64 m.ky.k) (.int .i64 1) _ (by rw [b_eql, q2]; try rfl)) ?_
    refine tK (.bool false) ?_
    try simp only [pS]
    refine WL.nil ?_
    try simp only [pS]
    go_upto_region 6 with fail
    refine WL.start ?_
    refine tK (.pointer (some ⟨gk1, 7, none⟩)) ?_
    refine tK (.pointer (some ⟨gk1, 7, none⟩)) ?_
    refine tW (.int .i64 m.ky.k) (eL 3 _ rfl ⟨gk1, 7, none⟩ (load_one ((HF.out.box 0 _ _ _ rfl).cell 7 |>.trans (by kernel_rfl)) Try.und3 rfl)) ?_
    try simp only [pS]
    cases q3 : (m.ky.k == 2)
    ·skip
     refine tW (.bool true) (eB .neq 3 _ _ _ rfl (.int .i64 m.ky.k) (.int .i64 2) _ (by rw [b_neq, q3]; try rfl)) ?_
     refine tK (.bool true) ?_
     try simp only [pS]
     refine WL.nil ?_
     try simp only [pS]
     go_upto_region 7 with fail
     refine WL.start ?_
     refine tW (.agg (Mg.cells mgZ)) (exec_build 46 _ rfl (Mg.cells mgZ) (by kernel_rfl)) ?_
     refine tK (.slice none 0 0) ?_
     try simp only [pS]
     refine wp_storeW 46 _ _ rfl ⟨gk5, 0, none⟩ (.agg (Mg.cells mgZ)) (by kernel_rfl) (by kernel_rfl) (wk8.setRow gk5 (Mg.cells mgZ)) (run_store_to (cur := Mg.cs mgZ) (vs := Mg.cs mgZ) (new := Mg.cs mgZ) (HF.out.box 2 _ _ _ rfl) (by kernel_rfl) Try.size50 (Nat.le_of_ble_eq_true (by kernel_rfl)) (Mg.oneL _) (by kernel_rfl)) (by kernel_rfl) ?_
     try simp only [pS]
     have HF : Hid (Fr No w _ [(gk1, 46, Mg.cells m), (gk3, 49, Hd.cells h), (gk5, 46, Mg.cells mgZ)]) := HF.out.set 2 rfl _
     generalize wk8.setRow gk5 (Mg.cells mgZ) = wk9 at HF ⊢
     refine tK (.bool false) ?_
     try simp only [pS]
     refine WL.nil ?_
     try simp only [pS]
     go_wp2
     rw [HC.out]
     refine bodyPost_ret (results_tct (by rfl) _ _ gk5 (Mg.cells mgZ) (by rfl) (run_load_part (cs := Mg.cs mgZ) (sub := Mg.cs mgZ) (HF.out.box 2 _ _ _ rfl) (Part.all _) Try.und50 rfl Try.size50)) rfl ?_
     exact ⟨rfl, HF.out.kept⟩
    ·skip
     refine tW (.bool false) (eB .neq 3 _ _ _ rfl (.int .i64 m.ky.k) (.int .i64 2) _ (by rw [b_neq, q3]; try rfl)) ?_
     refine tK (.bool false) ?_
     try simp only [pS]
     refine WL.nil ?_
     try simp only [pS]
     go_upto_region 8 with fail
     refine WL.start ?_
     refine tK (.int .i64 m.bk.up) ?_
     try simp only [pS]
     cases q4 : (decide (1 ≤ m.bk.up))
     ·skip
      refine tW (.bool false) (eB .geq 3 _ _ _ rfl (.int .i64 m.bk.up) (.int .i64 1) _ (by rw [b_geq, q4]; try rfl)) ?_
      refine tK (.bool false) ?_
      refine sK ?_
      refine sK ?_
      refine tK (.bool false) ?_
      refine tK (.bool false) ?_
      try simp only [pS]
      refine WL.nil ?_
      try simp only [pS]
      go_upto_region 11 with fail
      refine WL.start ?_
      refine tK (.int .i64 m.bk.up) ?_
      try simp only [pS]
      cases q5 : (m.bk.up == 0)
      ·skip
       refine tW (.bool false) (eB .eql 3 _ _ _ rfl (.int .i64 m.bk.up) (.int .i64 0) _ (by rw [b_eql, q5]; try rfl)) ?_
       refine tK (.bool false) ?_
       refine sK ?_
       refine sK ?_
       refine tK (.bool false) ?_
       refine tK (.bool false) ?_
       try simp only [pS]
       refine WL.nil ?_
       try simp only [pS]
       go_upto_region 14 with fail
       refine WL.start ?_
       refine tW (.agg (Mg.cells mgZ)) (exec_build 46 _ rfl (Mg.cells mgZ) (by kernel_rfl)) ?_
       refine tK (.slice none 0 0) ?_
       try simp only [pS]
       refine wp_storeW 46 _ _ rfl ⟨gk5, 0, none⟩ (.agg (Mg.cells mgZ)) (by kernel_rfl) (by kernel_rfl) (wk8.setRow gk5 (Mg.cells mgZ)) (run_store_to (cur := Mg.cs mgZ) (vs := Mg.cs mgZ) (new := Mg.cs mgZ) (HF.out.box 2 _ _ _ rfl) (by kernel_rfl) Try.size50 (Nat.le_of_ble_eq_true (by kernel_rfl)) (Mg.oneL _) (by kernel_rfl)) (by kernel_rfl) ?_
       try simp only [pS]
       have HF : Hid (Fr No w _ [(gk1, 46, Mg.cells m), (gk3, 49, Hd.cells h), (gk5, 46, Mg.cells mgZ)]) := HF.out.set 2 rfl _
       generalize wk8.setRow gk5 (Mg.cells mgZ) = wk10 at HF ⊢
       refine tK (.bool false) ?_
       try simp only [pS]
       refine WL.nil ?_
       try simp only [pS]
       go_wp2
       rw [HC.out]
       refine bodyPost_ret (results_tct (by rfl) _ _ gk5 (Mg.cells mgZ) (by rfl) (run_load_part (cs := Mg.cs mgZ) (sub := Mg.cs mgZ) (HF.out.box 2 _ _ _ rfl) (Part.all _) Try.und50 rfl Try.size50)) rfl ?_
       exact ⟨rfl, HF.out.kept⟩
      ·skip
       refine tW (.bool true) (eB .eql 3 _ _ _ rfl (.int .i64 m.bk.up) (.int .i64 0) _ (by rw [b_eql, q5]; try rfl)) ?_
       refine tK (.bool true) ?_
       refine tK (.int .i64 m.st.n) ?_
       try simp only [pS]
       cases q6 : (askB m.st.n)
       ·skip
        refine wp_callW 21 #[.int .i64 m.st.n] (by kernel_rfl) _ (askable_any _ _) (by kernel_rfl) ?_
        rintro e wq ⟨rfl, hwq⟩
        rw [hwq]
        clear hwq wq
        refine ⟨.bool false, by rw [q6], ?_⟩
        try simp only [pS]
        refine tK (.bool false) ?_
        refine tK (.bool false) ?_
        try simp only [pS]
        refine WL.nil ?_
        try simp only [pS]
        go_upto_region 14 with fail
        refine WL.start ?_
        refine tW (.agg (Mg.cells mgZ)) (exec_build 46 _ rfl (Mg.cells mgZ) (by kernel_rfl)) ?_
        refine tK (.slice none 0 0) ?_
        try simp only [pS]
        refine wp_storeW 46 _ _ rfl ⟨gk5, 0, none⟩ (.agg (Mg.cells mgZ)) (by kernel_rfl) (by kernel_rfl) (wk8.setRow gk5 (Mg.cells mgZ)) (run_store_to (cur := Mg.cs mgZ) (vs := Mg.cs mgZ) (new := Mg.cs mgZ) (HF.out.box 2 _ _ _ rfl) (by kernel_rfl) Try.size50 (Nat.le_of_ble_eq_true (by kernel_rfl)) (Mg.oneL _) (by kernel_rfl)) (by kernel_rfl) ?_
        try simp only [pS]
        have HF : Hid (Fr No w _ [(gk1, 46, Mg.cells m), (gk3, 49, Hd.cells h), (gk5, 46, Mg.cells mgZ)]) := HF.out.set 2 rfl _
        generalize wk8.setRow gk5 (Mg.cells mgZ) = wk11 at HF ⊢
        refine tK (.bool false) ?_
        try simp only [pS]
        refine WL.nil ?_
        try simp only [pS]
        go_wp2
        rw [HC.out]
        refine bodyPost_ret (results_tct (by rfl) _ _ gk5 (Mg.cells mgZ) (by rfl) (run_load_part (cs := Mg.cs mgZ) (sub := Mg.cs mgZ) (HF.out.box 2 _ _ _ rfl) (Part.all _) Try.und50 rfl Try.size50)) rfl ?_
        exact ⟨rfl, HF.out.kept⟩
       ·skip
        refine wp_callW 21 #[.int .i64 m.st.n] (by kernel_rfl) _ (askable_any _ _) (by kernel_rfl) ?_
        rintro e wq ⟨rfl, hwq⟩
        rw [hwq]
        clear hwq wq
        refine ⟨.bool true, by rw [q6], ?_⟩
        try simp only [pS]
        refine tK (.bool true) ?_
        refine tK (.bool true) ?_
        try simp only [pS]
        refine WL.nil ?_
        try simp only [pS]
        simp [q1, q2, q3, q4, q5, q6] at hz
     ·skip
      refine tW (.bool true) (eB .geq 3 _ _ _ rfl (.int .i64 m.bk.up) (.int .i64 1) _ (by rw [b_geq, q4]; try rfl)) ?_
      refine tK (.bool true) ?_
      refine tK (.int .i64 m.bk.up) ?_
      try simp only [pS]
      cases q7 : (decide (m.bk.up ≤ 1048576))
      ·skip
       refine tW (.bool false) (eB .leq 3 _ _ _ rfl (.int .i64 m.bk.up) (.int .i64 1048576) _ (by rw [b_leq, q7]; try rfl)) ?_
       refine tK (.bool false) ?_
       refine tK (.bool false) ?_
       try simp only [pS]
       refine WL.nil ?_
       try simp only [pS]
       go_upto_region 11 with fail
       refine WL.start ?_
       refine tK (.int .i64 m.bk.up) ?_
       try simp only [pS]
       cases q8 : (m.bk.up == 0)
       ·skip
        refine tW (.bool false) (eB .eql 3 _ _ _ rfl (.int .i64 m.bk.up) (.int .i64 0) _ (by rw [b_eql, q8]; try rfl)) ?_
        refine tK (.bool false) ?_
        refine sK ?_
        refine sK ?_
        refine tK (.bool false) ?_
        refine tK (.bool false) ?_
        try simp only [pS]
        refine WL.nil ?_
        try simp only [pS]
        go_upto_region 14 with fail
        refine WL.start ?_
        refine tW (.agg (Mg.cells mgZ)) (exec_build 46 _ rfl (Mg.cells mgZ) (by kernel_rfl)) ?_
        refine tK (.slice none 0 0) ?_
        try simp only [pS]
        refine wp_storeW 46 _ _ rfl ⟨gk5, 0, none⟩ (.agg (Mg.cells mgZ)) (by kernel_rfl) (by kernel_rfl) (wk8.setRow gk5 (Mg.cells mgZ)) (run_store_to (cur := Mg.cs mgZ) (vs := Mg.cs mgZ) (new := Mg.cs mgZ) (HF.out.box 2 _ _ _ rfl) (by kernel_rfl) Try.size50 (Nat.le_of_ble_eq_true (by kernel_rfl)) (Mg.oneL _) (by kernel_rfl)) (by kernel_rfl) ?_
        try simp only [pS]
        have HF : Hid (Fr No w _ [(gk1, 46, Mg.cells m), (gk3, 49, Hd.cells h), (gk5, 46, Mg.cells mgZ)]) := HF.out.set 2 rfl _
        generalize wk8.setRow gk5 (Mg.cells mgZ) = wk12 at HF ⊢
        refine tK (.bool false) ?_
        try simp only [pS]
        refine WL.nil ?_
        try simp only [pS]
        go_wp2
        rw [HC.out]
        refine bodyPost_ret (results_tct (by rfl) _ _ gk5 (Mg.cells mgZ) (by rfl) (run_load_part (cs := Mg.cs mgZ) (sub := Mg.cs mgZ) (HF.out.box 2 _ _ _ rfl) (Part.all _) Try.und50 rfl Try.size50)) rfl ?_
        exact ⟨rfl, HF.out.kept⟩
       ·skip
        refine tW (.bool true) (eB .eql 3 _ _ _ rfl (.int .i64 m.bk.up) (.int .i64 0) _ (by rw [b_eql, q8]; try rfl)) ?_
        refine tK (.bool true) ?_
        refine tK (.int .i64 m.st.n) ?_
        try simp only [pS]
        cases q9 : (askB m.st.n)
        ·skip
         refine wp_callW 21 #[.int .i64 m.st.n] (by kernel_rfl) _ (askable_any _ _) (by kernel_rfl) ?_
         rintro e wq ⟨rfl, hwq⟩
         rw [hwq]
         clear hwq wq
         refine ⟨.bool false, by rw [q9], ?_⟩
         try simp only [pS]
         refine tK (.bool false) ?_
         refine tK (.bool false) ?_
         try simp only [pS]
         refine WL.nil ?_
         try simp only [pS]
         go_upto_region 14 with fail
         refine WL.start ?_
         refine tW (.agg (Mg.cells mgZ)) (exec_build 46 _ rfl (Mg.cells mgZ) (by kernel_rfl)) ?_
         refine tK (.slice none 0 0) ?_
         try simp only [pS]
         refine wp_storeW 46 _ _ rfl ⟨gk5, 0, none⟩ (.agg (Mg.cells mgZ)) (by kernel_rfl) (by kernel_rfl) (wk8.setRow gk5 (Mg.cells mgZ)) (run_store_to (cur := Mg.cs mgZ) (vs := Mg.cs mgZ) (new := Mg.cs mgZ) (HF.out.box 2 _ _ _ rfl) (by kernel_rfl) Try.size50 (Nat.le_of_ble_eq_true (by kernel_rfl)) (Mg.oneL _) (by kernel_rfl)) (by kernel_rfl) ?_
         try simp only [pS]
         have HF : Hid (Fr No w _ [(gk1, 46, Mg.cells m), (gk3, 49, Hd.cells h), (gk5, 46, Mg.cells mgZ)]) := HF.out.set 2 rfl _
         generalize wk8.setRow gk5 (Mg.cells mgZ) = wk13 at HF ⊢
         refine tK (.bool false) ?_
         try simp only [pS]
         refine WL.nil ?_
         try simp only [pS]
         go_wp2
         rw [HC.out]
         refine bodyPost_ret (results_tct (by rfl) _ _ gk5 (Mg.cells mgZ) (by rfl) (run_load_part (cs := Mg.cs mgZ) (sub := Mg.cs mgZ) (HF.out.box 2 _ _ _ rfl) (Part.all _) Try.und50 rfl Try.size50)) rfl ?_
         exact ⟨rfl, HF.out.kept⟩
        ·skip
         refine wp_callW 21 #[.int .i64 m.st.n] (by kernel_rfl) _ (askable_any _ _) (by kernel_rfl) ?_
         rintro e wq ⟨rfl, hwq⟩
         rw [hwq]
         clear hwq wq
         refine ⟨.bool true, by rw [q9], ?_⟩
         try simp only [pS]
         refine tK (.bool true) ?_
         refine tK (.bool true) ?_
         try simp only [pS]
         refine WL.nil ?_
         try simp only [pS]
         simp [q1, q2, q3, q4, q7, q8, q9] at hz
      ·skip
       refine tW (.bool true) (eB .leq 3 _ _ _ rfl (.int .i64 m.bk.up) (.int .i64 1048576) _ (by rw [b_leq, q7]; try rfl)) ?_
       refine tK (.bool true) ?_
       refine tK (.bool true) ?_
       try simp only [pS]
       refine WL.nil ?_
       try simp only [pS]
       simp [q1, q2, q3, q4, q7] at hz
   ·skip
    refine tW (.bool true) (eB .eql 3 _ _ _ rfl (.int .i64 m.ky.k) (.int .i64 1) _ (by rw [b_eql, q2]; try rfl)) ?_
    refine tK (.bool true) ?_
    try simp only [pS]
    refine WL.nil ?_
    try simp only [pS]
    simp [q1, q2] at hz
set_option maxRecDepth 100000 in
set_option maxHeartbeats 4000000 in
theorem take_block_yes (m : Mg) (h : Hd) (bs : List Int) (w : World) (hk22 : (m.k == 22) = true) (hk1 : (m.ky.k == 1) = true) (hless : lessB h.b.s m.st = true) (hr : RdB w m.bl bs) (hn : m.bl.l ≤ 140737488355328) : Calls Try.prog 12 #[.agg (Mg.cells m), .agg (Hd.cells h)] w (fun e w' => ∃ (g : Nat) (s' : Sl), e = .returned (.tuple #[.slice (some ⟨g, 0, none⟩) 1 1, .agg (Mg.cells mgZ), .bool false]) ∧ Box w' g 67 (Ch.cells ⟨m.ky, ⟨m.st, s'⟩, inZ, bvZ⟩) ∧ OwB w' w.heap.size s' bs ∧ w.heap.size ≤ g ∧ Kept No w w') := by
  obtain ⟨C, hC⟩ : ∃ C : Ending → World → Prop, C = (fun e w' => ∃ (g : Nat) (s' : Sl), e = .returned (.tuple #[.slice (some ⟨g, 0, none⟩) 1 1, .agg (Mg.cells mgZ), .bool false]) ∧ Box w' g 67 (Ch.cells ⟨m.ky, ⟨m.st, s'⟩, inZ, bvZ⟩) ∧ OwB w' w.heap.size s' bs ∧ w.heap.size ≤ g ∧ Kept No w w') := ⟨_, rfl⟩
  have HC : Hid (C = (fun e w' => ∃ (g : Nat) (s' : Sl), e = .returned (.tuple #[.slice (some ⟨g, 0, none⟩) 1 1, .agg (Mg.cells mgZ), .bool false]) ∧ Box w' g 67 (Ch.cells ⟨m.ky, ⟨m.st, s'⟩, inZ, bvZ⟩) ∧ OwB w' w.heap.size s' bs ∧ w.heap.size ≤ g ∧ Kept No w w')) := hC
  rw [← hC]
  clear hC
  have HK : Hid (∀ W, Kept No w W → Calls Try.prog 29 #[.agg (Mg.cells m), .agg (Bl.cells h.b)] W (NewOut W m h.b bs)) := fun W hk => newerBlock_any m h.b bs W (hr.no hk) hn
  clear hr hn
  have HF : Hid (Fr No w w []) := Fr.start _ _
  go_enter Try.func12, Try.ntmps12
  go_upto_region 0 with fail
  refine WL.start ?_
  refine wp_runW (.pointer (some ⟨w.heap.size, 0, none⟩)) (w.alloc (.cells (Mg.cells m) 46)) (exec_box 46 _ rfl (Mg.cells m) (by kernel_rfl)) (by kernel_rfl) ?_
  try simp only [pS]
  have HF : Hid (Fr No w _ [(w.heap.size, 46, Mg.cells m)]) := HF.out.alloc _ _
  generalize w.alloc (.cells (Mg.cells m) 46) = wk2 at HF ⊢
  generalize w.heap.size = gk1 at HF ⊢
  refine wp_runW (.pointer (some ⟨wk2.heap.size, 0, none⟩)) (wk2.alloc (.cells (Hd.cells h) 49)) (exec_box 49 _ rfl (Hd.cells h) (by kernel_rfl)) (by kernel_rfl) ?_
  try simp only [pS]
  have HF : Hid (Fr No w _ [(gk1, 46, Mg.cells m), (wk2.heap.size, 49, Hd.cells h)]) := HF.out.alloc _ _
  generalize wk2.alloc (.cells (Hd.cells h) 49) = wk4 at HF ⊢
  generalize wk2.heap.size = gk3 at HF ⊢
  refine tK (.slice none 0 0) ?_
  try simp only [pS]
  refine wp_runW (.pointer (some ⟨wk4.heap.size, 0, none⟩)) (wk4.alloc (.cells (Mg.cells mgZ) 46)) (exec_alloc 46 rfl (Mg.cells mgZ) zero50) (by kernel_rfl) ?_
  try simp only [pS]
  have HF : Hid (Fr No w _ [(gk1, 46, Mg.cells m), (gk3, 49, Hd.cells h), (wk4.heap.size, 46, Mg.cells mgZ)]) := HF.out.alloc _ _
  generalize wk4.alloc (.cells (Mg.cells mgZ) 46) = wk6 at HF ⊢
  generalize wk4.heap.size = gk5 at HF ⊢
  refine tK (.bool false) ?_
  try simp only [pS]
  refine WL.nil ?_
  try simp only [pS]
  go_upto_region 1 with fail
  refine WL.start ?_
  refine tK (.pointer (some ⟨gk1, 0, none⟩)) ?_
  refine tW (.int .i64 m.k) (eL 3 _ rfl ⟨gk1, 0, none⟩ (load_one ((HF.out.box 0 _ _ _ rfl).cell 0 |>.trans (by kernel_rfl)) Try.und3 rfl)) ?_
  refine tW (.bool false) (eB .neq 3 _ _ _ rfl (.int .i64 m.k) (.int .i64 22) _ (by rw [b_neq, hk22]; try rfl)) ?_
  try simp only [pS]
  refine WL.nil ?_
  try simp only [pS]
  go_upto_region 3 with fail
  refine wp_region_held_drew (S := fun w' => Box w' gk1 46 (Mg.cells m)) rfl (HF.out.box 0 _ _ _ rfl) (fun hH => ?_)
  have HF : Hid (Fr No w (wk6.drew) [(gk1, 46, Mg.cells m), (gk3, 49, Hd.cells h), (gk5, 46, Mg.cells mgZ)]) := HF.out.drew
  generalize wk6.drew = wk7 at HF hH ⊢
  refine aT (i := 0) (oi := oqS0) (v := .pointer (some ⟨gk1, 25, none⟩)) (fun _ _ => by kernel_rfl) hH ?_
  try simp only [pS]
  refine aT (i := 1) (oi := oqS1) (v := .pointer (some ⟨gk1, 25, none⟩)) (fun _ _ => by kernel_rfl) hH ?_
  try simp only [pS]
  refine aT (i := 2) (oi := oqS2) (v := .int .i64 m.bk.up) (fun w' hw => eL 3 _ rfl ⟨gk1, 25, none⟩ (load_one ((hw).cell 25 |>.trans (by kernel_rfl)) Try.und3 rfl)) hH ?_
  try simp only [pS]
  refine aT (i := 3) (oi := oqS3) (v := .pointer (some ⟨gk1, 11, none⟩)) (fun _ _ => by kernel_rfl) hH ?_
  try simp only [pS]
  refine aT (i := 4) (oi := oqS4) (v := .pointer (some ⟨gk1, 11, none⟩)) (fun _ _ => by kernel_rfl) hH ?_
  try simp only [pS]
  refine aT (i := 5) (oi := oqS5) (v := .int .i64 m.st.n) (fun w' hw => eL 3 _ rfl ⟨gk1, 11, none⟩ (load_one ((hw).cell 11 |>.trans (by kernel_rfl)) Try.und3 rfl)) hH ?_
  try simp only [pS]
  refine aT (i := 6) (oi := oqS6) (v := .int .i64 m.bk.up) (fun _ _ => by kernel_rfl) hH ?_
  try simp only [pS]
  refine aT (i := 7) (oi := oqS7) (v := .int .i64 m.st.n) (fun _ _ => by kernel_rfl) hH ?_
  try simp only [pS]
  refine wpAnyH_done (by kernel_rfl) ?_ _
  try simp only [pS]
  clear hH
  go_upto_region 4 with fail
  refine WL.start ?_
  refine tK (.pointer (some ⟨gk1, 7, none⟩)) ?_
  refine tK (.pointer (some ⟨gk1, 7, none⟩)) ?_
  refine tW (.int .i64 m.ky.k) (eL 3 _ rfl ⟨gk1, 7, none⟩ (load_one ((HF.out.box 0 _ _ _ rfl).cell 7 |>.trans (by kernel_rfl)) Try.und3 rfl)) ?_
  refine tW (.bool true) (eB .eql 3 _ _ _ rfl (.int .i64 m.ky.k) (.int .i64 1) _ (by rw [b_eql, hk1]; try rfl)) ?_
  refine tK (.bool true) ?_
  try simp only [pS]
  refine WL.nil ?_
  try simp only [pS]
  go_upto_region 5 with fail
  refine WL.start ?_
  refine tW (.agg (Mg.cells m)) (eL 46 _ rfl ⟨gk1, 0, none⟩ (run_load_part (cs := Mg.cs m) (sub := Mg.cs m) (HF.out.box 0 _ _ _ rfl) (Part.all _) Try.und50 rfl Try.size50)) ?_
  refine tK (.pointer (some ⟨gk3, 0, none⟩)) ?_
  refine tW (.agg (Bl.cells h.b)) (eL 26 _ rfl ⟨gk3, 0, none⟩ (run_load_part (cs := Hd.cs h) (sub := Bl.cs h.b) (HF.out.box 1 _ _ _ rfl) (part_of (by kernel_rfl)) Try.und28 rfl Try.size28)) ?_
  try simp only [pS]
  refine wp_callW 29 #[.agg (Mg.cells m), .agg (Bl.cells h.b)] (by kernel_rfl) _ (HK.out _ HF.out.kept) (by kernel_rfl) ?_
  rintro e wk8 hh
  rcases hh with ⟨hf, _⟩ | ⟨-, g, s', rfl, hbg, ho, hgl, hk⟩
  · rw [hless] at hf; cases hf
  have HG : Hid (Box wk8 g 67 (Ch.cells ⟨m.ky, ⟨m.st, s'⟩, inZ, bvZ⟩)) := hbg
  have HGl : Hid (w.heap.size ≤ g) := Nat.le_trans HF.out.kept.size hgl
  have HO : Hid (OwB wk8 w.heap.size s' bs) := ⟨ho.own.lower HF.out.kept.size, ho.len⟩
  have HF : Hid (Fr No w (wk8) [(gk1, 46, Mg.cells m), (gk3, 49, Hd.cells h), (gk5, 46, Mg.cells mgZ)]) := HF.out.no hk
  clear hk hbg ho hgl
  refine ⟨.slice (some ⟨g, 0, none⟩) 1 1, rfl, ?_⟩
  try simp only [pS]
  refine tW (.agg (Mg.cells mgZ)) (exec_build 46 _ rfl (Mg.cells mgZ) (by kernel_rfl)) ?_
  refine tK (.slice (some ⟨g, 0, none⟩) 1 1) ?_
  try simp only [pS]
  refine wp_storeW 46 _ _ rfl ⟨gk5, 0, none⟩ (.agg (Mg.cells mgZ)) (by kernel_rfl) (by kernel_rfl) (wk8.setRow gk5 (Mg.cells mgZ)) (run_store_to (cur := Mg.cs mgZ) (vs := Mg.cs mgZ) (new := Mg.cs mgZ) (HF.out.box 2 _ _ _ rfl) (by kernel_rfl) Try.size50 (Nat.le_of_ble_eq_true (by kernel_rfl)) (Mg.oneL _) (by kernel_rfl)) (by kernel_rfl) ?_
  try simp only [pS]
  have HG : Hid (Box (wk8.setRow gk5 (Mg.cells mgZ)) g 67 (Ch.cells ⟨m.ky, ⟨m.st, s'⟩, inZ, bvZ⟩)) := HG.out.rowNe (box_ne HG.out (HF.out.box 2 _ _ _ rfl) (by decide)) _
  have HO : Hid (OwB (wk8.setRow gk5 (Mg.cells mgZ)) w.heap.size s' bs) := HO.out.kept (Kept.setRow _ _ _) (fun k h e => (HO.out.own.notBox (HF.out.box 2 _ _ _ rfl) (by decide)) ((show k = gk5 from e) ▸ h))
  have HF : Hid (Fr No w _ [(gk1, 46, Mg.cells m), (gk3, 49, Hd.cells h), (gk5, 46, Mg.cells mgZ)]) := HF.out.set 2 rfl _
  generalize wk8.setRow gk5 (Mg.cells mgZ) = wk9 at HF HG HO ⊢
  refine tK (.bool false) ?_
  try simp only [pS]
  refine WL.nil ?_
  try simp only [pS]
  go_wp2
  rw [HC.out]
  refine bodyPost_ret (results_tct (by rfl) _ _ gk5 (Mg.cells mgZ) (by rfl) (run_load_part (cs := Mg.cs mgZ) (sub := Mg.cs mgZ) (HF.out.box 2 _ _ _ rfl) (Part.all _) Try.und50 rfl Try.size50)) rfl ?_
  exact ⟨g, s', rfl, HG.out, HO.out, HGl.out, HF.out.kept⟩
set_option maxRecDepth 100000 in
set_option maxHeartbeats 4000000 in
theorem take_cmds (m : Mg) (h : Hd) (ps : List Pl) (cs : List Cm) (w : World) (hk22 : (m.k == 22) = true) (hk1 : (m.ky.k == 1) = false) (hk2 : (m.ky.k == 2) = true) (hup : (m.bk.up == 0) = true) (hab : askB m.st.n = true) (hcs : RdC w m.cm cs) (hr : RdP w h.r ps) (hlt : ∀ k, At h.r.a k → k < w.heap.size) (hm : ps.length ≤ 10000000000000) (hg0 : ∀ x ∈ decd ps, 0 ≤ x.1 ∧ x.1 ≤ 4611686018427387904) (hl : m.cm.l ≤ 3518437208883) : Calls Try.prog 12 #[.agg (Mg.cells m), .agg (Hd.cells h)] w (fun e w' => ∃ s' : Sl, e = .returned (.tuple #[s'.v, .agg (Mg.cells (if moreB m then askM m.to m.fr m.ky (m.st.n + ((m.cm.l : Nat) : Int)) else mgZ)), .bool (moreB m)]) ∧ OwH w' w.heap.size s' (newF m.ky.a m.st.n h.k.up cs (decF m.st.n m.cm.l (decd ps)) m.cm.l) ∧ Kept No w w') := by
  obtain ⟨C, hC⟩ : ∃ C : Ending → World → Prop, C = (fun e w' => ∃ s' : Sl, e = .returned (.tuple #[s'.v, .agg (Mg.cells (if moreB m then askM m.to m.fr m.ky (m.st.n + ((m.cm.l : Nat) : Int)) else mgZ)), .bool (moreB m)]) ∧ OwH w' w.heap.size s' (newF m.ky.a m.st.n h.k.up cs (decF m.st.n m.cm.l (decd ps)) m.cm.l) ∧ Kept No w w') := ⟨_, rfl⟩
  have HC : Hid (C = (fun e w' => ∃ s' : Sl, e = .returned (.tuple #[s'.v, .agg (Mg.cells (if moreB m then askM m.to m.fr m.ky (m.st.n + ((m.cm.l : Nat) : Int)) else mgZ)), .bool (moreB m)]) ∧ OwH w' w.heap.size s' (newF m.ky.a m.st.n h.k.up cs (decF m.st.n m.cm.l (decd ps)) m.cm.l) ∧ Kept No w w')) := hC
  rw [← hC]
  clear hC
  have hn : 1 ≤ m.st.n ∧ m.st.n ≤ 1048577 := by simpa [askB] using hab
  have HK : Hid (∀ W, Kept No w W → Calls Try.prog 32 #[.agg (Mg.cells m), .agg (Hd.cells h)] W (NdOut W (newF m.ky.a m.st.n h.k.up cs (decF m.st.n m.cm.l (decd ps)) m.cm.l))) := fun W hk => newDecisions_any m h ps cs W (hcs.no hk) (hr.no hk) (fun k e => Nat.lt_of_lt_of_le (hlt k e) hk.size) hm hg0 (by omega) hl
  have hw1 : IntKind.i64.wrap (m.st.n + ((m.cm.l : Nat) : Int)) = m.st.n + ((m.cm.l : Nat) : Int) := by rw [IntKind.wrap_i64]; omega
  have hu1 : decide (1 ≤ m.bk.up) = false := by simp at hup; simp [hup]
  obtain ⟨X, hX⟩ : ∃ X : Mg, X = (if moreB m then askM m.to m.fr m.ky (m.st.n + ((m.cm.l : Nat) : Int)) else mgZ) := ⟨_, rfl⟩
  rw [← hX] at HC
  have HA : Hid (∀ W, Calls Try.prog 30 #[.agg (Mg.cells m), .int .i64 (m.st.n + ((m.cm.l : Nat) : Int))] W (fun e w' => e = .returned (.tuple #[.agg (Mg.cells X), .bool (moreB m)]) ∧ Kept No W w')) := fun W => by rw [hX]; exact askOn_any m _ W
  clear hcs hr hlt hm hg0 hX
  have HF : Hid (Fr No w w []) := Fr.start _ _
  go_enter Try.func12, Try.ntmps12
  go_upto_region 0 with fail
  refine WL.start ?_
  refine wp_runW (.pointer (some ⟨w.heap.size, 0, none⟩)) (w.alloc (.cells (Mg.cells m) 46)) (exec_box 46 _ rfl (Mg.cells m) (by kernel_rfl)) (by kernel_rfl) ?_
  try simp only [pS]
  have HF : Hid (Fr No w _ [(w.heap.size, 46, Mg.cells m)]) := HF.out.alloc _ _
  generalize w.alloc (.cells (Mg.cells m) 46) = wk2 at HF ⊢
  generalize w.heap.size = gk1 at HF ⊢
  refine wp_runW (.pointer (some ⟨wk2.heap.size, 0, none⟩)) (wk2.alloc (.cells (Hd.cells h) 49)) (exec_box 49 _ rfl (Hd.cells h) (by kernel_rfl)) (by kernel_rfl) ?_
  try simp only [pS]
  have HF : Hid (Fr No w _ [(gk1, 46, Mg.cells m), (wk2.heap.size, 49, Hd.cells h)]) := HF.out.alloc _ _
  generalize wk2.alloc (.cells (Hd.cells h) 49) = wk4 at HF ⊢
  generalize wk2.heap.size = gk3 at HF ⊢
  refine tK (.slice none 0 0) ?_
  try simp only [pS]
  refine wp_runW (.pointer (some ⟨wk4.heap.size, 0, none⟩)) (wk4.alloc (.cells (Mg.cells mgZ) 46)) (exec_alloc 46 rfl (Mg.cells mgZ) zero50) (by kernel_rfl) ?_
  try simp only [pS]
  have HF : Hid (Fr No w _ [(gk1, 46, Mg.cells m), (gk3, 49, Hd.cells h), (wk4.heap.size, 46, Mg.cells mgZ)]) := HF.out.alloc _ _
  generalize wk4.alloc (.cells (Mg.cells mgZ) 46) = wk6 at HF ⊢
  generalize wk4.heap.size = gk5 at HF ⊢
  refine tK (.bool false) ?_
  try simp only [pS]
  refine WL.nil ?_
  try simp only [pS]
  go_upto_region 1 with fail
  refine WL.start ?_
  refine tK (.pointer (some ⟨gk1, 0, none⟩)) ?_
  refine tW (.int .i64 m.k) (eL 3 _ rfl ⟨gk1, 0, none⟩ (load_one ((HF.out.box 0 _ _ _ rfl).cell 0 |>.trans (by kernel_rfl)) Try.und3 rfl)) ?_
  refine tW (.bool false) (eB .neq 3 _ _ _ rfl (.int .i64 m.k) (.int .i64 22) _ (by rw [b_neq, hk22]; try rfl)) ?_
  try simp only [pS]
  refine WL.nil ?_
  try simp only [pS]
  go_upto_region 3 with fail
  refine wp_region_held_drew (S := fun w' => Box w' gk1 46 (Mg.cells m)) rfl (HF.out.box 0 _ _ _ rfl) (fun hH => ?_)
  have HF : Hid (Fr No w (wk6.drew) [(gk1, 46, Mg.cells m), (gk3, 49, Hd.cells h), (gk5, 46, Mg.cells mgZ)]) := HF.out.drew
  generalize wk6.drew = wk7 at HF hH ⊢
  refine aT (i := 0) (oi := oqS0) (v := .pointer (some ⟨gk1, 25, none⟩)) (fun _ _ => by kernel_rfl) hH ?_
  try simp only [pS]
  refine aT (i := 1) (oi := oqS1) (v := .pointer (some ⟨gk1, 25, none⟩)) (fun _ _ => by kernel_rfl) hH ?_
  try simp only [pS]
  refine aT (i := 2) (oi := oqS2) (v := .int .i64 m.bk.up) (fun w' hw => eL 3 _ rfl ⟨gk1, 25, none⟩ (load_one ((hw).cell 25 |>.trans (by kernel_rfl)) Try.und3 rfl)) hH ?_
  try simp only [pS]
  refine aT (i := 3) (oi := oqS3) (v := .pointer (some ⟨gk1, 11, none⟩)) (fun _ _ => by kernel_rfl) hH ?_
  try simp only [pS]
  refine aT (i := 4) (oi := oqS4) (v := .pointer (some ⟨gk1, 11, none⟩)) (fun _ _ => by kernel_rfl) hH ?_
  try simp only [pS]
  refine aT (i := 5) (oi := oqS5) (v := .int .i64 m.st.n) (fun w' hw => eL 3 _ rfl ⟨gk1, 11, none⟩ (load_one ((hw).cell 11 |>.trans (by kernel_rfl)) Try.und3 rfl)) hH ?_
  try simp only [pS]
  refine aT (i := 6) (oi := oqS6) (v := .int .i64 m.bk.up) (fun _ _ => by kernel_rfl) hH ?_
  try simp only [pS]
  refine aT (i := 7) (oi := oqS7) (v := .int .i64 m.st.n) (fun _ _ => by kernel_rfl) hH ?_
  try simp only [pS]
  refine wpAnyH_done (by kernel_rfl) ?_ _
  try simp only [pS]
  clear hH
  go_upto_region 4 with fail
  refine WL.start ?_
  refine tK (.pointer (some ⟨gk1, 7, none⟩)) ?_
  refine tK (.pointer (some ⟨gk1, 7, none⟩)) ?_
  refine tW (.int .i64 m.ky.k) (eL 3 _ rfl ⟨gk1, 7, none⟩ (load_one ((HF.out.box 0 _ _ _ rfl).cell 7 |>.trans (by kernel_rfl)) Try.und3 rfl)) ?_
  refine tW (.bool false) (eB .eql 3 _ _ _ rfl (.int .i64 m.ky.k) (.int .i64 1) _ (by rw [b_eql, hk1]; try rfl)) ?_
  refine tK (.bool false) ?_
  try simp only [pS]
  refine WL.nil ?_
  try simp only [pS]
  go_upto_region 6 with fail
  refine WL.start ?_
  refine tK (.pointer (some ⟨gk1, 7, none⟩)) ?_
  refine tK (.pointer (some ⟨gk1, 7, none⟩)) ?_
  refine tW (.int .i64 m.ky.k) (eL 3 _ rfl ⟨gk1, 7, none⟩ (load_one ((HF.out.box 0 _ _ _ rfl).cell 7 |>.trans (by kernel_rfl)) Try.und3 rfl)) ?_
  refine tW (.bool false) (eB .neq 3 _ _ _ rfl (.int .i64 m.ky.k) (.int .i64 2) _ (by rw [b_neq, hk2]; try rfl)) ?_
  refine tK (.bool false) ?_
  try simp only [pS]
  refine WL.nil ?_
  try simp only [pS]
  go_upto_region 8 with fail
  refine WL.start ?_
  refine tK (.int .i64 m.bk.up) ?_
  refine tW (.bool false) (eB .geq 3 _ _ _ rfl (.int .i64 m.bk.up) (.int .i64 1) _ (by rw [b_geq, hu1]; try rfl)) ?_
  refine tK (.bool false) ?_
  refine sK ?_
  refine sK ?_
  refine tK (.bool false) ?_
  refine tK (.bool false) ?_
  try simp only [pS]
  refine WL.nil ?_
  try simp only [pS]
  go_upto_region 11 with fail
  refine WL.start ?_
  refine tK (.int .i64 m.bk.up) ?_
  refine tW (.bool true) (eB .eql 3 _ _ _ rfl (.int .i64 m.bk.up) (.int .i64 0) _ (by rw [b_eql, hup]; try rfl)) ?_
  refine tK (.bool true) ?_
  refine tK (.int .i64 m.st.n) ?_
  try simp only [pS]
  refine wp_callW 21 #[.int .i64 m.st.n] (by kernel_rfl) _ (askable_any _ _) (by kernel_rfl) ?_
  rintro e wq ⟨rfl, hwq⟩
  rw [hwq]
  clear hwq wq
  refine ⟨.bool true, by rw [hab], ?_⟩
  try simp only [pS]
  refine tK (.bool true) ?_
  refine tK (.bool true) ?_
  try simp only [pS]
  refine WL.nil ?_
  try simp only [pS]
  go_upto_region 12 with fail
  refine WL.start ?_
  refine tW (.agg (Mg.cells m)) (eL 46 _ rfl ⟨gk1, 0, none⟩ (run_load_part (cs := Mg.cs m) (sub := Mg.cs m) (HF.out.box 0 _ _ _ rfl) (Part.all _) Try.und50 rfl Try.size50)) ?_
  refine tK (.int .i64 m.st.n) ?_
  refine tK (.pointer (some ⟨gk1, 28, none⟩)) ?_
  refine tW (m.cm.v) (eL 44 _ rfl ⟨gk1, 28, none⟩ (load_one ((HF.out.box 0 _ _ _ rfl).cell 28 |>.trans (by kernel_rfl)) Try.und48 rfl)) ?_
  refine tK (.int .i64 ((m.cm.l : Nat) : Int)) ?_
  refine tW (.int .i64 (m.st.n + ((m.cm.l : Nat) : Int))) (eB .add 3 _ _ _ rfl (.int .i64 m.st.n) (.int .i64 ((m.cm.l : Nat) : Int)) _ (b_addw _ _ _ hw1 _)) ?_
  try simp only [pS]
  refine wp_callW 30 #[.agg (Mg.cells m), .int .i64 (m.st.n + ((m.cm.l : Nat) : Int))] (by kernel_rfl) _ (HA.out _) (by kernel_rfl) ?_
  rintro e wk8 ⟨rfl, hk⟩
  have HF : Hid (Fr No w (wk8) [(gk1, 46, Mg.cells m), (gk3, 49, Hd.cells h), (gk5, 46, Mg.cells mgZ)]) := HF.out.no hk
  clear hk
  refine ⟨.tuple #[.agg (Mg.cells X), .bool (moreB m)], rfl, ?_⟩
  try simp only [pS]
  refine tK (.tuple #[.agg (Mg.cells X), .bool (moreB m)]) ?_
  refine tK (.agg (Mg.cells X)) ?_
  refine tK (.bool (moreB m)) ?_
  try simp only [pS]
  refine wp_runW (.pointer (some ⟨wk8.heap.size, 0, none⟩)) (wk8.alloc (.cells (Mg.cells mgZ) 46)) (exec_alloc 46 rfl (Mg.cells mgZ) zero50) (by kernel_rfl) ?_
  try simp only [pS]
  have HF : Hid (Fr No w _ [(gk1, 46, Mg.cells m), (gk3, 49, Hd.cells h), (gk5, 46, Mg.cells mgZ), (wk8.heap.size, 46, Mg.cells mgZ)]) := HF.out.alloc _ _
  generalize wk8.alloc (.cells (Mg.cells mgZ) 46) = wk10 at HF ⊢
  generalize wk8.heap.size = gk9 at HF ⊢
  refine wp_storeW 46 _ _ rfl ⟨gk9, 0, none⟩ (.agg (Mg.cells X)) (by kernel_rfl) (by kernel_rfl) (wk10.setRow gk9 (Mg.cells X)) (run_store_to (cur := Mg.cs mgZ) (vs := Mg.cs X) (new := Mg.cs X) (HF.out.box 3 _ _ _ rfl) (by kernel_rfl) Try.size50 (Nat.le_of_ble_eq_true (by kernel_rfl)) (Mg.oneL _) (by kernel_rfl)) (by kernel_rfl) ?_
  try simp only [pS]
  have HF : Hid (Fr No w _ [(gk1, 46, Mg.cells m), (gk3, 49, Hd.cells h), (gk5, 46, Mg.cells mgZ), (gk9, 46, Mg.cells X)]) := HF.out.set 3 rfl _
  generalize wk10.setRow gk9 (Mg.cells X) = wk11 at HF ⊢
  refine tK (.bool (moreB m)) ?_
  try simp only [pS]
  refine WL.nil ?_
  try simp only [pS]
  go_upto_region 13 with fail
  refine wp_region_held_drew (S := fun w' => Box w' gk1 46 (Mg.cells m) ∧ Box w' gk3 49 (Hd.cells h) ∧ Box w' gk9 46 (Mg.cells X)) rfl ⟨HF.out.box 0 _ _ _ rfl, HF.out.box 1 _ _ _ rfl, HF.out.box 3 _ _ _ rfl⟩ (fun hH => ?_)
  have HF : Hid (Fr No w (wk11.drew) [(gk1, 46, Mg.cells m), (gk3, 49, Hd.cells h), (gk5, 46, Mg.cells mgZ), (gk9, 46, Mg.cells X)]) := HF.out.drew
  generalize wk11.drew = wk12 at HF hH ⊢
  refine aT (i := 0) (oi := { dst := some 75, op := Op.load 46 (Operand.tmp 2), type := 46, pos := "mend.go:75", after := #[], guard := none }) (v := .agg (Mg.cells m)) (fun w' hw => eL 46 _ rfl ⟨gk1, 0, none⟩ (run_load_part (cs := Mg.cs m) (sub := Mg.cs m) (hw.1) (Part.all _) Try.und50 rfl Try.size50)) hH ?_
  try simp only [pS]
  refine aT (i := 1) (oi := { dst := some 76, op := Op.load 49 (Operand.tmp 3), type := 49, pos := "mend.go:75", after := #[], guard := none }) (v := .agg (Hd.cells h)) (fun w' hw => eL 49 _ rfl ⟨gk3, 0, none⟩ (run_load_part (cs := Hd.cs h) (sub := Hd.cs h) (hw.2.1) (Part.all _) Try.und40 rfl Try.size40)) hH ?_
  try simp only [pS]
  refine aT (i := 3) (oi := { dst := some 78, op := Op.load 46 (Operand.tmp 11), type := 46, pos := "mend.go:75", after := #[{ on := 5, ground := Ground.gcOnly Departure.lateStores }], guard := none }) (v := .agg (Mg.cells X)) (fun w' hw => eL 46 _ rfl ⟨gk9, 0, none⟩ (run_load_part (cs := Mg.cs X) (sub := Mg.cs X) (hw.2.2) (Part.all _) Try.und50 rfl Try.size50)) hH ?_
  try simp only [pS]
  refine aT (i := 4) (oi := { dst := some 79, op := Op.move (Operand.tmp 12), type := 4, pos := "mend.go:75", after := #[{ on := 6, ground := Ground.gcOnly Departure.lateStores }], guard := none }) (v := .bool (moreB m)) (fun _ _ => by kernel_rfl) hH ?_
  try simp only [pS]
  have HFs : Hid (w.heap.size ≤ wk12.heap.size) := HF.out.kept.size
  refine any_call (i := 2) (o := { dst := some 77, op := Op.call { callee := Callee.value (Operand.func 32), args := #[Operand.tmp 75, Operand.tmp 76], argTypes := #[46, 49] }, type := 56, pos := "mend.go:75", after := #[{ on := 0, ground := Ground.data }, { on := 1, ground := Ground.data }], guard := none }) rfl (by kernel_rfl) (by kernel_rfl) 32 #[.agg (Mg.cells m), .agg (Hd.cells h)] (by kernel_rfl) _ (HK.out _ HF.out.kept) ?_
  rintro e wk13 ⟨s', rfl, ho, hk⟩
  have hH2 : Box wk13 gk1 46 (Mg.cells m) ∧ Box wk13 gk3 49 (Hd.cells h) ∧ Box wk13 gk9 46 (Mg.cells X) := ⟨hH.1.kept hk (fun e => e), hH.2.1.kept hk (fun e => e), hH.2.2.kept hk (fun e => e)⟩
  have HF : Hid (Fr No w (wk13) [(gk1, 46, Mg.cells m), (gk3, 49, Hd.cells h), (gk5, 46, Mg.cells mgZ), (gk9, 46, Mg.cells X)]) := HF.out.no hk
  have HO : Hid (OwH wk13 w.heap.size s' (newF m.ky.a m.st.n h.k.up cs (decF m.st.n m.cm.l (decd ps)) m.cm.l)) := ⟨ho.own.lower HFs.out, ho.len⟩
  clear ho
  clear hk
  refine ⟨s'.v, rfl, hH2, fun hH => ?_⟩
  clear hH2
  try simp only [pS]
  refine aT (i := 5) (oi := { dst := some 4, op := Op.assign (Operand.tmp 77), type := 56, pos := "mend.go:75", after := #[{ on := 2, ground := Ground.data }, { on := 2, ground := Ground.chain }, { on := 0, ground := Ground.phase }, { on := 1, ground := Ground.phase }, { on := 2, ground := Ground.phase }, { on := 3, ground := Ground.textOnly Departure.lateStores }, { on := 4, ground := Ground.textOnly Departure.lateStores }], guard := none }) (v := s'.v) (fun _ _ => by kernel_rfl) hH ?_
  try simp only [pS]
  refine any_store (i := 6) (o := { dst := none, op := Op.store 46 (Operand.tmp 5) (Operand.tmp 78), type := 0, pos := "mend.go:75", after := #[{ on := 3, ground := Ground.data }, { on := 5, ground := Ground.chain }, { on := 0, ground := Ground.phase }, { on := 1, ground := Ground.phase }, { on := 2, ground := Ground.phase }, { on := 3, ground := Ground.phase }, { on := 4, ground := Ground.textOnly Departure.lateStores }, { on := 5, ground := Ground.phase }], guard := none }) (w' := wk13.setRow gk5 (Mg.cells X)) rfl (by kernel_rfl) (by kernel_rfl) 46 _ _ rfl ⟨gk5, 0, none⟩ (.agg (Mg.cells X)) (by kernel_rfl) (by kernel_rfl) (run_store_to (cur := Mg.cs mgZ) (vs := Mg.cs X) (new := Mg.cs X) (HF.out.box 2 _ _ _ rfl) (by kernel_rfl) Try.size50 (Nat.le_of_ble_eq_true (by kernel_rfl)) (Mg.oneL _) (by kernel_rfl)) (⟨hH.1.rowNe (HF.out.ne 0 2 rfl rfl (by simp)) _, hH.2.1.rowNe (HF.out.ne 1 2 rfl rfl (by simp)) _, hH.2.2.rowNe (HF.out.ne 3 2 rfl rfl (by simp)) _⟩) (fun hH => ?_)
  try simp only [pS]
  have HO : Hid (OwH (wk13.setRow gk5 (Mg.cells X)) w.heap.size s' (newF m.ky.a m.st.n h.k.up cs (decF m.st.n m.cm.l (decd ps)) m.cm.l)) := HO.out.kept (Kept.setRow _ _ _) (fun k h e => (HO.out.own.notBox (HF.out.box 2 _ _ _ rfl) (by decide)) ((show k = gk5 from e) ▸ h))
  have HF : Hid (Fr No w _ [(gk1, 46, Mg.cells m), (gk3, 49, Hd.cells h), (gk5, 46, Mg.cells X), (gk9, 46, Mg.cells X)]) := HF.out.set 2 rfl _
  generalize wk13.setRow gk5 (Mg.cells X) = wk14 at HF HO hH ⊢
  refine aT (i := 7) (oi := { dst := some 6, op := Op.assign (Operand.tmp 79), type := 4, pos := "mend.go:75", after := #[{ on := 4, ground := Ground.data }, { on := 6, ground := Ground.chain }, { on := 0, ground := Ground.phase }, { on := 1, ground := Ground.phase }, { on := 2, ground := Ground.phase }, { on := 3, ground := Ground.phase }, { on := 4, ground := Ground.phase }, { on := 5, ground := Ground.phase }, { on := 6, ground := Ground.phase }], guard := none }) (v := .bool (moreB m)) (fun _ _ => by kernel_rfl) hH ?_
  try simp only [pS]
  refine wpAnyH_done (by kernel_rfl) ?_ _
  try simp only [pS]
  clear hH
  go_wp2
  rw [HC.out]
  refine bodyPost_ret (results_tct (by rfl) _ _ gk5 (Mg.cells X) (by rfl) (run_load_part (cs := Mg.cs X) (sub := Mg.cs X) (HF.out.box 2 _ _ _ rfl) (Part.all _) Try.und50 rfl Try.size50)) rfl ?_
  exact ⟨s', rfl, HO.out, HF.out.kept⟩

end Go.Proofs.Ytcgnbpaaalmkoab
