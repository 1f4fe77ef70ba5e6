import Derived.Test.YtcgnbpaaalmkoabP
namespace Go.Proofs.Ytcgnbpaaalmkoab
open Go.RowKit
set_option linter.unusedVariables false
set_option linter.unusedSimpArgs false

def haveM (a : Mg) : Mg := ⟨22, a.to, a.fr, 0, 0, a.ky, spZ, spZ, slZ, cZ, bvZ, slZ, false⟩
theorem Fr.add {S : Nat → Prop} {w0 w w' : World} {l : List (Nat × TypeId × Array Value)} (h : Fr S w0 w l) {g : Nat} {T : TypeId} {cs : Array Value} (hk : Kept No w w') (hg : w.heap.size ≤ g) (hb : Box w' g T cs) : Fr S w0 w' (l ++ [(g, T, cs)]) := by
  have h1 := h.no hk
  refine ⟨h1.kept, ?_, ?_, ?_⟩
  · intro i g1 T1 cs1 hi
    rw [List.getElem?_append] at hi
    split at hi
    · exact h1.box i g1 T1 cs1 hi
    · obtain ⟨rfl, rfl, rfl⟩ : g = g1 ∧ T = T1 ∧ cs = cs1 := by
        have := List.mem_of_getElem? hi
        simpa [eq_comm] using this
      exact hb
  · intro i g1 T1 cs1 hi
    rw [List.getElem?_append] at hi
    split at hi
    · exact h1.low i g1 T1 cs1 hi
    · obtain ⟨rfl, rfl, rfl⟩ : g = g1 ∧ T = T1 ∧ cs = cs1 := by
        have := List.mem_of_getElem? hi
        simpa [eq_comm] using this
      exact Nat.le_trans h.kept.size hg
  · intro i j g1 T1 cs1 T2 cs2 hi hj
    rw [List.getElem?_append] at hi hj
    split at hi <;> split at hj
    · exact h.inj i j g1 T1 cs1 T2 cs2 hi hj
    · have q1 := (h.box i g1 T1 cs1 hi).lt
      have q2 : g1 = g := by have := List.mem_of_getElem? hj; simp at this; exact this.1
      omega
    · have q1 := (h.box j g1 T2 cs2 hj).lt
      have q2 : g1 = g := by have := List.mem_of_getElem? hi; simp at this; exact this.1
      omega
    · have q1 := (List.getElem?_eq_some_iff.1 hi).1
      have q2 := (List.getElem?_eq_some_iff.1 hj).1
      simp at q1 q2
      omega
theorem results_tct {fn : Func} {p q u : Tmp} {t : TypeId} (h : fn.results = #[.tmp p, .cell q t, .tmp u]) (tmps : Array Value) (w : World) (g : Nat) (cs : Array Value) (hq : tmps.getD q undef = .pointer (some ⟨g, 0, none⟩)) (hrun : (loadVar t ⟨g, 0, none⟩).run Try.prog w = .ok (.agg cs) w) :
    (results fn tmps).run Try.prog w = .ok (.tuple #[tmps.getD p undef, .agg cs, tmps.getD u undef]) w := by
  have hq' : tmps[q]?.getD undef = .pointer (some ⟨g, 0, none⟩) := by simpa using hq
  simp [results, h, hq', asAddr, hrun, Sem.run_bind, Result.andThen]
set_option maxRecDepth 100000 in
set_option maxHeartbeats 4000000 in
theorem have_zero (a : Mg) (h : Hd) (w : World) (hz : (a.k == 21 && (a.ky.k == 1 || (a.ky.k == 2 && askB a.st.n))) = false) : Calls Try.prog 7 #[.agg (Mg.cells a), .agg (Hd.cells h)] w (fun e w' => e = .returned (.agg (Mg.cells mgZ)) ∧ Kept No w w') := by
  obtain ⟨C, hC⟩ : ∃ C : Ending → World → Prop, C = (fun e w' => e = .returned (.agg (Mg.cells mgZ)) ∧ Kept No w w') := ⟨_, rfl⟩
  have HC : Hid (C = (fun e w' => e = .returned (.agg (Mg.cells mgZ)) ∧ Kept No w w')) := hC
  rw [← hC]
  clear hC
  have HF : Hid (Fr No w w []) := Fr.start _ _
  go_enter Try.func7, Try.ntmps7
  go_upto_region 0 with fail
  refine WL.start ?_
  refine wp_runW (.pointer (some ⟨w.heap.size, 0, none⟩)) (w.alloc (.cells (Mg.cells a) 46)) (exec_box 46 _ rfl (Mg.cells a) (by kernel_rfl)) (by kernel_rfl) ?_
  try simp only [pS]
  have HF : Hid (Fr No w _ [(w.heap.size, 46, Mg.cells a)]) := HF.out.alloc _ _
  generalize w.alloc (.cells (Mg.cells a) 46) = wk2 at HF ⊢
  generalize w.heap.size = gk1 at HF ⊢
  refine wp_runW (.pointer (some ⟨wk2.heap.size, 0, none⟩)) (wk2.alloc (.cells (Hd.cells h) 49)) (exec_box 49 _ rfl (Hd.cells h) (by kernel_rfl)) (by kernel_rfl) ?_
  try simp only [pS]
  have HF : Hid (Fr No w _ [(gk1, 46, Mg.cells a), (wk2.heap.size, 49, Hd.cells h)]) := HF.out.alloc _ _
  generalize wk2.alloc (.cells (Hd.cells h) 49) = wk4 at HF ⊢
  generalize wk2.heap.size = gk3 at HF ⊢
  refine wp_runW (.pointer (some ⟨wk4.heap.size, 0, none⟩)) (wk4.alloc (.cells (Mg.cells mgZ) 46)) (exec_alloc 46 rfl (Mg.cells mgZ) zero50) (by kernel_rfl) ?_
  try simp only [pS]
  have HF : Hid (Fr No w _ [(gk1, 46, Mg.cells a), (gk3, 49, Hd.cells h), (wk4.heap.size, 46, Mg.cells mgZ)]) := HF.out.alloc _ _
  generalize wk4.alloc (.cells (Mg.cells mgZ) 46) = wk6 at HF ⊢
  generalize wk4.heap.size = gk5 at HF ⊢
  refine WL.nil ?_
  try simp only [pS]
  go_upto_region 1 with fail
  refine WL.start ?_
  refine tK (.pointer (some ⟨gk1, 0, none⟩)) ?_
  refine tW (.int .i64 a.k) (eL 3 _ rfl ⟨gk1, 0, none⟩ (load_one ((HF.out.box 0 _ _ _ rfl).cell 0 |>.trans (by kernel_rfl)) Try.und3 rfl)) ?_
  try simp only [pS]
  cases q1 : (a.k == 21)
  ·skip
   refine tW (.bool true) (eB .neq 3 _ _ _ rfl (.int .i64 a.k) (.int .i64 21) _ (by rw [b_neq, q1]; try rfl)) ?_
   try simp only [pS]
   refine WL.nil ?_
   try simp only [pS]
   go_upto_region 2 with fail
   refine WL.start ?_
   refine tW (.agg (Mg.cells mgZ)) (exec_build 46 _ rfl (Mg.cells mgZ) (by kernel_rfl)) ?_
   try simp only [pS]
   refine wp_storeW 46 _ _ rfl ⟨gk5, 0, none⟩ (.agg (Mg.cells mgZ)) (by kernel_rfl) (by kernel_rfl) (wk6.setRow gk5 (Mg.cells mgZ)) (run_store_to (cur := Mg.cs mgZ) (vs := Mg.cs mgZ) (new := Mg.cs mgZ) (HF.out.box 2 _ _ _ rfl) (by kernel_rfl) Try.size50 (Nat.le_of_ble_eq_true (by kernel_rfl)) (Mg.oneL _) (by kernel_rfl)) (by kernel_rfl) ?_
   try simp only [pS]
   have HF : Hid (Fr No w _ [(gk1, 46, Mg.cells a), (gk3, 49, Hd.cells h), (gk5, 46, Mg.cells mgZ)]) := HF.out.set 2 rfl _
   generalize wk6.setRow gk5 (Mg.cells mgZ) = wk7 at HF ⊢
   refine WL.nil ?_
   try simp only [pS]
   go_wp2
   rw [HC.out]
   refine bodyPost_ret (results_row1 (by rfl) _ _ gk5 (Mg.cells mgZ) (by rfl) (run_load_part (cs := Mg.cs mgZ) (sub := Mg.cs mgZ) (HF.out.box 2 _ _ _ rfl) (Part.all _) Try.und50 rfl Try.size50)) rfl ?_
   exact ⟨rfl, HF.out.kept⟩
  ·skip
   refine tW (.bool false) (eB .neq 3 _ _ _ rfl (.int .i64 a.k) (.int .i64 21) _ (by rw [b_neq, q1]; try rfl)) ?_
   try simp only [pS]
   refine WL.nil ?_
   try simp only [pS]
   go_upto_region 3 with fail
   refine WL.start ?_
   refine tK (.pointer (some ⟨gk1, 3, none⟩)) ?_
   refine tW (.agg (Ad.cells a.to)) (eL 37 _ rfl ⟨gk1, 3, none⟩ (run_load_part (cs := Mg.cs a) (sub := Ad.cs a.to) (HF.out.box 0 _ _ _ rfl) (part_of (by kernel_rfl)) Try.und43 rfl Try.size43)) ?_
   refine tK (.pointer (some ⟨gk1, 1, none⟩)) ?_
   refine tW (.agg (Ad.cells a.fr)) (eL 37 _ rfl ⟨gk1, 1, none⟩ (run_load_part (cs := Mg.cs a) (sub := Ad.cs a.fr) (HF.out.box 0 _ _ _ rfl) (part_of (by kernel_rfl)) Try.und43 rfl Try.size43)) ?_
   refine tK (.pointer (some ⟨gk1, 7, none⟩)) ?_
   refine tW (.agg (Ky.cells a.ky)) (eL 39 _ rfl ⟨gk1, 7, none⟩ (run_load_part (cs := Mg.cs a) (sub := Ky.cs a.ky) (HF.out.box 0 _ _ _ rfl) (part_of (by kernel_rfl)) Try.und23 rfl Try.size23)) ?_
   refine tW (.agg (Mg.cells ⟨22, a.to, a.fr, 0, 0, a.ky, spZ, spZ, slZ, cZ, bvZ, slZ, false⟩)) (exec_build 46 _ rfl (Mg.cells ⟨22, a.to, a.fr, 0, 0, a.ky, spZ, spZ, slZ, cZ, bvZ, slZ, false⟩) (by kernel_rfl)) ?_
   try simp only [pS]
   refine wp_runW (.pointer (some ⟨wk6.heap.size, 0, none⟩)) (wk6.alloc (.cells (Mg.cells mgZ) 46)) (exec_alloc 46 rfl (Mg.cells mgZ) zero50) (by kernel_rfl) ?_
   try simp only [pS]
   have HF : Hid (Fr No w _ [(gk1, 46, Mg.cells a), (gk3, 49, Hd.cells h), (gk5, 46, Mg.cells mgZ), (wk6.heap.size, 46, Mg.cells mgZ)]) := HF.out.alloc _ _
   generalize wk6.alloc (.cells (Mg.cells mgZ) 46) = wk9 at HF ⊢
   generalize wk6.heap.size = gk8 at HF ⊢
   refine wp_storeW 46 _ _ rfl ⟨gk8, 0, none⟩ (.agg (Mg.cells ⟨22, a.to, a.fr, 0, 0, a.ky, spZ, spZ, slZ, cZ, bvZ, slZ, false⟩)) (by kernel_rfl) (by kernel_rfl) (wk9.setRow gk8 (Mg.cells ⟨22, a.to, a.fr, 0, 0, a.ky, spZ, spZ, slZ, cZ, bvZ, slZ, false⟩)) (run_store_to (cur := Mg.cs mgZ) (vs := Mg.cs ⟨22, a.to, a.fr, 0, 0, a.ky, spZ, spZ, slZ, cZ, bvZ, slZ, false⟩) (new := Mg.cs ⟨22, a.to, a.fr, 0, 0, a.ky, spZ, spZ, slZ, cZ, bvZ, slZ, false⟩) (HF.out.box 3 _ _ _ rfl) (by kernel_rfl) Try.size50 (Nat.le_of_ble_eq_true (by kernel_rfl)) (Mg.oneL _) (by kernel_rfl)) (by kernel_rfl) ?_
   try simp only [pS]
   have HF : Hid (Fr No w _ [(gk1, 46, Mg.cells a), (gk3, 49, Hd.cells h), (gk5, 46, Mg.cells mgZ), (gk8, 46, Mg.cells ⟨22, a.to, a.fr, 0, 0, a.ky, spZ, spZ, slZ, cZ, bvZ, slZ, false⟩)]) := HF.out.set 3 rfl _
   generalize wk9.setRow gk8 (Mg.cells ⟨22, a.to, a.fr, 0, 0, a.ky, spZ, spZ, slZ, cZ, bvZ, slZ, false⟩) = wk10 at HF ⊢
   refine WL.nil ?_
   try simp only [pS]
   go_upto_region 4 with fail
   refine WL.start ?_
   refine tK (.pointer (some ⟨gk1, 11, none⟩)) ?_
   refine tK (.pointer (some ⟨gk1, 11, none⟩)) ?_
   refine tW (.int .i64 a.st.n) (eL 3 _ rfl ⟨gk1, 11, none⟩ (load_one ((HF.out.box 0 _ _ _ rfl).cell 11 |>.trans (by kernel_rfl)) Try.und3 rfl)) ?_
   refine tK (.int .i64 a.st.n) ?_
   try simp only [pS]
   refine WL.nil ?_
   try simp only [pS]
   go_upto_region 6 with fail
   refine WL.start ?_
   refine tK (.pointer (some ⟨gk1, 7, none⟩)) ?_
   refine tK (.pointer (some ⟨gk1, 7, none⟩)) ?_
   refine tW (.int .i64 a.ky.k) (eL 3 _ rfl ⟨gk1, 7, none⟩ (load_one ((HF.out.box 0 _ _ _ rfl).cell 7 |>.trans (by kernel_rfl)) Try.und3 rfl)) ?_
   try simp only [pS]
   cases q2 : (a.ky.k == 1)
   ·skip
    refine tW (.bool false) (eB .eql 3 _ _ _ rfl (.int .i64 a.ky.k) (.int .i64 1) _ (by rw [b_eql, q2]; try rfl)) ?_
    refine tK (.bool false) ?_
    try simp only [pS]
    refine WL.nil ?_
    try simp only [pS]
    go_upto_region 8 with fail
    refine WL.start ?_
    refine tK (.pointer (some ⟨gk1, 7, none⟩)) ?_
    refine tK (.pointer (some ⟨gk1, 7, none⟩)) ?_
    refine tW (.int .i64 a.ky.k) (eL 3 _ rfl ⟨gk1, 7, none⟩ (load_one ((HF.out.box 0 _ _ _ rfl).cell 7 |>.trans (by kernel_rfl)) Try.und3 rfl)) ?_
    try simp only [pS]
    cases q3 : (a.ky.k == 2)
    ·skip
     refine tW (.bool true) (eB .neq 3 _ _ _ rfl (.int .i64 a.ky.k) (.int .i64 2) _ (by rw [b_neq, q3]; try rfl)) ?_
     refine tK (.bool true) ?_
     refine sK ?_
     refine sK ?_
     refine sK ?_
     refine tK (.bool true) ?_
     refine tK (.bool true) ?_
     try simp only [pS]
     refine WL.nil ?_
     try simp only [pS]
     go_upto_region 9 with fail
     refine WL.start ?_
     refine tW (.agg (Mg.cells mgZ)) (exec_build 46 _ rfl (Mg.cells mgZ) (by kernel_rfl)) ?_
     try simp only [pS]
     refine wp_storeW 46 _ _ rfl ⟨gk5, 0, none⟩ (.agg (Mg.cells mgZ)) (by kernel_rfl) (by kernel_rfl) (wk10.setRow gk5 (Mg.cells mgZ)) (run_store_to (cur := Mg.cs mgZ) (vs := Mg.cs mgZ) (new := Mg.cs mgZ) (HF.out.box 2 _ _ _ rfl) (by kernel_rfl) Try.size50 (Nat.le_of_ble_eq_true (by kernel_rfl)) (Mg.oneL _) (by kernel_rfl)) (by kernel_rfl) ?_
     try simp only [pS]
     have HF : Hid (Fr No w _ [(gk1, 46, Mg.cells a), (gk3, 49, Hd.cells h), (gk5, 46, Mg.cells mgZ), (gk8, 46, Mg.cells ⟨22, a.to, a.fr, 0, 0, a.ky, spZ, spZ, slZ, cZ, bvZ, slZ, false⟩)]) := HF.out.set 2 rfl _
     generalize wk10.setRow gk5 (Mg.cells mgZ) = wk11 at HF ⊢
     refine WL.nil ?_
     try simp only [pS]
     go_wp2
     rw [HC.out]
     refine bodyPost_ret (results_row1 (by rfl) _ _ gk5 (Mg.cells mgZ) (by rfl) (run_load_part (cs := Mg.cs mgZ) (sub := Mg.cs mgZ) (HF.out.box 2 _ _ _ rfl) (Part.all _) Try.und50 rfl Try.size50)) rfl ?_
     exact ⟨rfl, HF.out.kept⟩
    ·skip
     refine tW (.bool false) (eB .neq 3 _ _ _ rfl (.int .i64 a.ky.k) (.int .i64 2) _ (by rw [b_neq, q3]; try rfl)) ?_
     refine tK (.bool false) ?_
     refine tK (.int .i64 a.st.n) ?_
     try simp only [pS]
     cases q4 : (askB a.st.n)
     ·skip
      refine wp_callW 21 #[.int .i64 a.st.n] (by kernel_rfl) _ (askable_any _ _) (by kernel_rfl) ?_
      rintro e wq ⟨rfl, hwq⟩
      rw [hwq]
      clear hwq wq
      refine ⟨.bool false, by rw [q4], ?_⟩
      try simp only [pS]
      refine tK (.bool true) ?_
      refine tK (.bool true) ?_
      refine tK (.bool true) ?_
      try simp only [pS]
      refine WL.nil ?_
      try simp only [pS]
      go_upto_region 9 with fail
      refine WL.start ?_
      refine tW (.agg (Mg.cells mgZ)) (exec_build 46 _ rfl (Mg.cells mgZ) (by kernel_rfl)) ?_
      try simp only [pS]
      refine wp_storeW 46 _ _ rfl ⟨gk5, 0, none⟩ (.agg (Mg.cells mgZ)) (by kernel_rfl) (by kernel_rfl) (wk10.setRow gk5 (Mg.cells mgZ)) (run_store_to (cur := Mg.cs mgZ) (vs := Mg.cs mgZ) (new := Mg.cs mgZ) (HF.out.box 2 _ _ _ rfl) (by kernel_rfl) Try.size50 (Nat.le_of_ble_eq_true (by kernel_rfl)) (Mg.oneL _) (by kernel_rfl)) (by kernel_rfl) ?_
      try simp only [pS]
      have HF : Hid (Fr No w _ [(gk1, 46, Mg.cells a), (gk3, 49, Hd.cells h), (gk5, 46, Mg.cells mgZ), (gk8, 46, Mg.cells ⟨22, a.to, a.fr, 0, 0, a.ky, spZ, spZ, slZ, cZ, bvZ, slZ, false⟩)]) := HF.out.set 2 rfl _
      generalize wk10.setRow gk5 (Mg.cells mgZ) = wk12 at HF ⊢
      refine WL.nil ?_
      try simp only [pS]
      go_wp2
      rw [HC.out]
      refine bodyPost_ret (results_row1 (by rfl) _ _ gk5 (Mg.cells mgZ) (by rfl) (run_load_part (cs := Mg.cs mgZ) (sub := Mg.cs mgZ) (HF.out.box 2 _ _ _ rfl) (Part.all _) Try.und50 rfl Try.size50)) rfl ?_
      exact ⟨rfl, HF.out.kept⟩
     ·skip
      refine wp_callW 21 #[.int .i64 a.st.n] (by kernel_rfl) _ (askable_any _ _) (by kernel_rfl) ?_
      rintro e wq ⟨rfl, hwq⟩
      rw [hwq]
      clear hwq wq
      refine ⟨.bool true, by rw [q4], ?_⟩
      try simp only [pS]
      refine tK (.bool false) ?_
      refine tK (.bool false) ?_
      refine tK (.bool false) ?_
      try simp only [pS]
      refine WL.nil ?_
      try simp only [pS]
      simp [q1, q2, q3, q4] at hz
   ·skip
    refine tW (.bool true) (eB .eql 3 _ _ _ rfl (.int .i64 a.ky.k) (.int .i64 1) _ (by rw [b_eql, q2]; try rfl)) ?_
    refine tK (.bool true) ?_
    try simp only [pS]
    refine WL.nil ?_
    try simp only [pS]
    simp [q1, q2] at hz
set_option maxRecDepth 100000 in
set_option maxHeartbeats 4000000 in
theorem have_block_yes (a : Mg) (h : Hd) (bs : List Int) (w : World) (hk21 : (a.k == 21) = true) (hk1 : (a.ky.k == 1) = true) (hz : eqS h.b.s spZ = false) (hr : RdB w h.b.d bs) (hn : h.b.d.l ≤ 140737488355328) (hlt : ∀ k, At h.b.d.a k → k < w.heap.size) : Calls Try.prog 7 #[.agg (Mg.cells a), .agg (Hd.cells h)] w (fun e w' => ∃ s' : Sl, e = .returned (.agg (Mg.cells { haveM a with st := h.b.s, bl := s' })) ∧ OwB w' w.heap.size s' bs ∧ Kept No w w') := by
  obtain ⟨C, hC⟩ : ∃ C : Ending → World → Prop, C = (fun e w' => ∃ s' : Sl, e = .returned (.agg (Mg.cells { haveM a with st := h.b.s, bl := s' })) ∧ OwB w' w.heap.size s' bs ∧ Kept No w w') := ⟨_, rfl⟩
  have HC : Hid (C = (fun e w' => ∃ s' : Sl, e = .returned (.agg (Mg.cells { haveM a with st := h.b.s, bl := s' })) ∧ OwB w' w.heap.size s' bs ∧ Kept No w w')) := hC
  rw [← hC]
  clear hC
  have HK : Hid (∀ W p m, Kept No w W → w.heap.size ≤ p → Box W p 46 (Mg.cells m) → Calls Try.prog 20 #[.pointer (some ⟨p, 0, none⟩), .agg (Bl.cells h.b)] W (fun e w' => ∃ s' : Sl, (∃ v, e = .returned v) ∧ Box w' p 46 (Mg.cells { m with st := h.b.s, bl := s' }) ∧ OwB w' W.heap.size s' bs ∧ Kept (Only p) W w')) := fun W p m hk hp hb => tellBlock_yes p m h.b bs W hb hz (hr.no hk) hn (fun k e f => by have := hlt k e; omega)
  clear hr hn hlt
  have HF : Hid (Fr No w w []) := Fr.start _ _
  go_enter Try.func7, Try.ntmps7
  go_upto_region 0 with fail
  refine WL.start ?_
  refine wp_runW (.pointer (some ⟨w.heap.size, 0, none⟩)) (w.alloc (.cells (Mg.cells a) 46)) (exec_box 46 _ rfl (Mg.cells a) (by kernel_rfl)) (by kernel_rfl) ?_
  try simp only [pS]
  have HF : Hid (Fr No w _ [(w.heap.size, 46, Mg.cells a)]) := HF.out.alloc _ _
  generalize w.alloc (.cells (Mg.cells a) 46) = wk2 at HF ⊢
  generalize w.heap.size = gk1 at HF ⊢
  refine wp_runW (.pointer (some ⟨wk2.heap.size, 0, none⟩)) (wk2.alloc (.cells (Hd.cells h) 49)) (exec_box 49 _ rfl (Hd.cells h) (by kernel_rfl)) (by kernel_rfl) ?_
  try simp only [pS]
  have HF : Hid (Fr No w _ [(gk1, 46, Mg.cells a), (wk2.heap.size, 49, Hd.cells h)]) := HF.out.alloc _ _
  generalize wk2.alloc (.cells (Hd.cells h) 49) = wk4 at HF ⊢
  generalize wk2.heap.size = gk3 at HF ⊢
  refine wp_runW (.pointer (some ⟨wk4.heap.size, 0, none⟩)) (wk4.alloc (.cells (Mg.cells mgZ) 46)) (exec_alloc 46 rfl (Mg.cells mgZ) zero50) (by kernel_rfl) ?_
  try simp only [pS]
  have HF : Hid (Fr No w _ [(gk1, 46, Mg.cells a), (gk3, 49, Hd.cells h), (wk4.heap.size, 46, Mg.cells mgZ)]) := HF.out.alloc _ _
  generalize wk4.alloc (.cells (Mg.cells mgZ) 46) = wk6 at HF ⊢
  generalize wk4.heap.size = gk5 at HF ⊢
  refine WL.nil ?_
  try simp only [pS]
  go_upto_region 1 with fail
  refine WL.start ?_
  refine tK (.pointer (some ⟨gk1, 0, none⟩)) ?_
  refine tW (.int .i64 a.k) (eL 3 _ rfl ⟨gk1, 0, none⟩ (load_one ((HF.out.box 0 _ _ _ rfl).cell 0 |>.trans (by kernel_rfl)) Try.und3 rfl)) ?_
  refine tW (.bool false) (eB .neq 3 _ _ _ rfl (.int .i64 a.k) (.int .i64 21) _ (by rw [b_neq, hk21]; try rfl)) ?_
  try simp only [pS]
  refine WL.nil ?_
  try simp only [pS]
  go_upto_region 3 with fail
  refine WL.start ?_
  refine tK (.pointer (some ⟨gk1, 3, none⟩)) ?_
  refine tW (.agg (Ad.cells a.to)) (eL 37 _ rfl ⟨gk1, 3, none⟩ (run_load_part (cs := Mg.cs a) (sub := Ad.cs a.to) (HF.out.box 0 _ _ _ rfl) (part_of (by kernel_rfl)) Try.und43 rfl Try.size43)) ?_
  refine tK (.pointer (some ⟨gk1, 1, none⟩)) ?_
  refine tW (.agg (Ad.cells a.fr)) (eL 37 _ rfl ⟨gk1, 1, none⟩ (run_load_part (cs := Mg.cs a) (sub := Ad.cs a.fr) (HF.out.box 0 _ _ _ rfl) (part_of (by kernel_rfl)) Try.und43 rfl Try.size43)) ?_
  refine tK (.pointer (some ⟨gk1, 7, none⟩)) ?_
  refine tW (.agg (Ky.cells a.ky)) (eL 39 _ rfl ⟨gk1, 7, none⟩ (run_load_part (cs := Mg.cs a) (sub := Ky.cs a.ky) (HF.out.box 0 _ _ _ rfl) (part_of (by kernel_rfl)) Try.und23 rfl Try.size23)) ?_
  refine tW (.agg (Mg.cells ⟨22, a.to, a.fr, 0, 0, a.ky, spZ, spZ, slZ, cZ, bvZ, slZ, false⟩)) (exec_build 46 _ rfl (Mg.cells ⟨22, a.to, a.fr, 0, 0, a.ky, spZ, spZ, slZ, cZ, bvZ, slZ, false⟩) (by kernel_rfl)) ?_
  try simp only [pS]
  refine wp_runW (.pointer (some ⟨wk6.heap.size, 0, none⟩)) (wk6.alloc (.cells (Mg.cells mgZ) 46)) (exec_alloc 46 rfl (Mg.cells mgZ) zero50) (by kernel_rfl) ?_
  try simp only [pS]
  have HF : Hid (Fr No w _ [(gk1, 46, Mg.cells a), (gk3, 49, Hd.cells h), (gk5, 46, Mg.cells mgZ), (wk6.heap.size, 46, Mg.cells mgZ)]) := HF.out.alloc _ _
  generalize wk6.alloc (.cells (Mg.cells mgZ) 46) = wk8 at HF ⊢
  generalize wk6.heap.size = gk7 at HF ⊢
  refine wp_storeW 46 _ _ rfl ⟨gk7, 0, none⟩ (.agg (Mg.cells ⟨22, a.to, a.fr, 0, 0, a.ky, spZ, spZ, slZ, cZ, bvZ, slZ, false⟩)) (by kernel_rfl) (by kernel_rfl) (wk8.setRow gk7 (Mg.cells ⟨22, a.to, a.fr, 0, 0, a.ky, spZ, spZ, slZ, cZ, bvZ, slZ, false⟩)) (run_store_to (cur := Mg.cs mgZ) (vs := Mg.cs ⟨22, a.to, a.fr, 0, 0, a.ky, spZ, spZ, slZ, cZ, bvZ, slZ, false⟩) (new := Mg.cs ⟨22, a.to, a.fr, 0, 0, a.ky, spZ, spZ, slZ, cZ, bvZ, slZ, false⟩) (HF.out.box 3 _ _ _ rfl) (by kernel_rfl) Try.size50 (Nat.le_of_ble_eq_true (by kernel_rfl)) (Mg.oneL _) (by kernel_rfl)) (by kernel_rfl) ?_
  try simp only [pS]
  have HF : Hid (Fr No w _ [(gk1, 46, Mg.cells a), (gk3, 49, Hd.cells h), (gk5, 46, Mg.cells mgZ), (gk7, 46, Mg.cells ⟨22, a.to, a.fr, 0, 0, a.ky, spZ, spZ, slZ, cZ, bvZ, slZ, false⟩)]) := HF.out.set 3 rfl _
  generalize wk8.setRow gk7 (Mg.cells ⟨22, a.to, a.fr, 0, 0, a.ky, spZ, spZ, slZ, cZ, bvZ, slZ, false⟩) = wk9 at HF ⊢
  refine WL.nil ?_
  try simp only [pS]
  go_upto_region 4 with fail
  refine WL.start ?_
  refine tK (.pointer (some ⟨gk1, 11, none⟩)) ?_
  refine tK (.pointer (some ⟨gk1, 11, none⟩)) ?_
  refine tW (.int .i64 a.st.n) (eL 3 _ rfl ⟨gk1, 11, none⟩ (load_one ((HF.out.box 0 _ _ _ rfl).cell 11 |>.trans (by kernel_rfl)) Try.und3 rfl)) ?_
  refine tK (.int .i64 a.st.n) ?_
  try simp only [pS]
  refine WL.nil ?_
  try simp only [pS]
  go_upto_region 6 with fail
  refine WL.start ?_
  refine tK (.pointer (some ⟨gk1, 7, none⟩)) ?_
  refine tK (.pointer (some ⟨gk1, 7, none⟩)) ?_
  refine tW (.int .i64 a.ky.k) (eL 3 _ rfl ⟨gk1, 7, none⟩ (load_one ((HF.out.box 0 _ _ _ rfl).cell 7 |>.trans (by kernel_rfl)) Try.und3 rfl)) ?_
  refine tW (.bool true) (eB .eql 3 _ _ _ rfl (.int .i64 a.ky.k) (.int .i64 1) _ (by rw [b_eql, hk1]; try rfl)) ?_
  refine tK (.bool true) ?_
  try simp only [pS]
  refine WL.nil ?_
  try simp only [pS]
  go_upto_region 7 with fail
  refine WL.start ?_
  refine tK (.pointer (some ⟨gk3, 0, none⟩)) ?_
  refine tW (.agg (Bl.cells h.b)) (eL 26 _ rfl ⟨gk3, 0, none⟩ (run_load_part (cs := Hd.cs h) (sub := Bl.cs h.b) (HF.out.box 1 _ _ _ rfl) (part_of (by kernel_rfl)) Try.und28 rfl Try.size28)) ?_
  try simp only [pS]
  refine wp_callW 20 #[.pointer (some ⟨gk7, 0, none⟩), .agg (Bl.cells h.b)] (by kernel_rfl) _ (HK.out _ gk7 ⟨22, a.to, a.fr, 0, 0, a.ky, spZ, spZ, slZ, cZ, bvZ, slZ, false⟩ HF.out.kept (HF.out.low 3 _ _ _ rfl) (HF.out.box 3 _ _ _ rfl)) (by kernel_rfl) ?_
  rintro e wk10 ⟨s', ⟨v, rfl⟩, hbx, ho, hk⟩
  have HO : Hid (OwB wk10 w.heap.size s' bs) := ⟨ho.own.lower HF.out.kept.size, ho.len⟩
  have HF : Hid (Fr No w (wk10) [(gk1, 46, Mg.cells a), (gk3, 49, Hd.cells h), (gk5, 46, Mg.cells mgZ), (gk7, 46, Mg.cells ⟨22, a.to, a.fr, 0, 0, a.ky, h.b.s, spZ, s', cZ, bvZ, slZ, false⟩)]) := HF.out.put 3 rfl hk hbx
  clear hbx hk ho
  refine ⟨v, rfl, ?_⟩
  try simp only [pS]
  refine WL.nil ?_
  try simp only [pS]
  go_upto_region 12 with fail
  refine WL.start ?_
  refine tW (.agg (Mg.cells ⟨22, a.to, a.fr, 0, 0, a.ky, h.b.s, spZ, s', cZ, bvZ, slZ, false⟩)) (eL 46 _ rfl ⟨gk7, 0, none⟩ (run_load_part (cs := Mg.cs ⟨22, a.to, a.fr, 0, 0, a.ky, h.b.s, spZ, s', cZ, bvZ, slZ, false⟩) (sub := Mg.cs ⟨22, a.to, a.fr, 0, 0, a.ky, h.b.s, spZ, s', cZ, bvZ, slZ, false⟩) (HF.out.box 3 _ _ _ rfl) (Part.all _) Try.und50 rfl Try.size50)) ?_
  try simp only [pS]
  refine wp_storeW 46 _ _ rfl ⟨gk5, 0, none⟩ (.agg (Mg.cells ⟨22, a.to, a.fr, 0, 0, a.ky, h.b.s, spZ, s', cZ, bvZ, slZ, false⟩)) (by kernel_rfl) (by kernel_rfl) (wk10.setRow gk5 (Mg.cells ⟨22, a.to, a.fr, 0, 0, a.ky, h.b.s, spZ, s', cZ, bvZ, slZ, false⟩)) (run_store_to (cur := Mg.cs mgZ) (vs := Mg.cs ⟨22, a.to, a.fr, 0, 0, a.ky, h.b.s, spZ, s', cZ, bvZ, slZ, false⟩) (new := Mg.cs ⟨22, a.to, a.fr, 0, 0, a.ky, h.b.s, spZ, s', cZ, bvZ, slZ, false⟩) (HF.out.box 2 _ _ _ rfl) (by kernel_rfl) Try.size50 (Nat.le_of_ble_eq_true (by kernel_rfl)) (Mg.oneL _) (by kernel_rfl)) (by kernel_rfl) ?_
  try simp only [pS]
  have HO : Hid (OwB (wk10.setRow gk5 (Mg.cells ⟨22, a.to, a.fr, 0, 0, a.ky, h.b.s, spZ, s', cZ, bvZ, slZ, false⟩)) w.heap.size s' bs) := HO.out.kept (Kept.setRow _ _ _) (fun k h e => (HO.out.own.notBox (HF.out.box 2 _ _ _ rfl) (by decide)) ((show k = gk5 from e) ▸ h))
  have HF : Hid (Fr No w _ [(gk1, 46, Mg.cells a), (gk3, 49, Hd.cells h), (gk5, 46, Mg.cells ⟨22, a.to, a.fr, 0, 0, a.ky, h.b.s, spZ, s', cZ, bvZ, slZ, false⟩), (gk7, 46, Mg.cells ⟨22, a.to, a.fr, 0, 0, a.ky, h.b.s, spZ, s', cZ, bvZ, slZ, false⟩)]) := HF.out.set 2 rfl _
  generalize wk10.setRow gk5 (Mg.cells ⟨22, a.to, a.fr, 0, 0, a.ky, h.b.s, spZ, s', cZ, bvZ, slZ, false⟩) = wk11 at HF HO ⊢
  refine WL.nil ?_
  try simp only [pS]
  go_wp2
  rw [HC.out]
  refine bodyPost_ret (results_row1 (by rfl) _ _ gk5 (Mg.cells ⟨22, a.to, a.fr, 0, 0, a.ky, h.b.s, spZ, s', cZ, bvZ, slZ, false⟩) (by rfl) (run_load_part (cs := Mg.cs ⟨22, a.to, a.fr, 0, 0, a.ky, h.b.s, spZ, s', cZ, bvZ, slZ, false⟩) (sub := Mg.cs ⟨22, a.to, a.fr, 0, 0, a.ky, h.b.s, spZ, s', cZ, bvZ, slZ, false⟩) (HF.out.box 2 _ _ _ rfl) (Part.all _) Try.und50 rfl Try.size50)) rfl ?_
  exact ⟨s', rfl, HO.out, HF.out.kept⟩
set_option maxRecDepth 100000 in
set_option maxHeartbeats 4000000 in
theorem have_cmds_no (a : Mg) (h : Hd) (ps : List Pl) (w : World) (hk21 : (a.k == 21) = true) (hk1 : (a.ky.k == 1) = false) (hk2 : (a.ky.k == 2) = true) (hab : askB a.st.n = true) (hup : decide (a.st.n ≤ h.k.up) = false) (hr : RdP w h.r ps) (hlt : ∀ k, At h.r.a k → k < w.heap.size) (hm : ps.length ≤ 10000000000000) (hg : Rng h.k.up ps) (hg0 : ∀ x ∈ decd ps, 0 ≤ x.1 ∧ x.1 ≤ 4611686018427387904) (hc : min (topF h.k.up (decd ps)) (a.st.n + 63) < a.st.n) : Calls Try.prog 7 #[.agg (Mg.cells a), .agg (Hd.cells h)] w (fun e w' => e = .returned (.agg (Mg.cells { haveM a with st := ⟨a.st.n, 0⟩, mo := decide (min (topF h.k.up (decd ps)) (a.st.n + 63) < topF h.k.up (decd ps)) })) ∧ Kept No w w') := by
  obtain ⟨C, hC⟩ : ∃ C : Ending → World → Prop, C = (fun e w' => e = .returned (.agg (Mg.cells { haveM a with st := ⟨a.st.n, 0⟩, mo := decide (min (topF h.k.up (decd ps)) (a.st.n + 63) < topF h.k.up (decd ps)) })) ∧ Kept No w w') := ⟨_, rfl⟩
  have HC : Hid (C = (fun e w' => e = .returned (.agg (Mg.cells { haveM a with st := ⟨a.st.n, 0⟩, mo := decide (min (topF h.k.up (decd ps)) (a.st.n + 63) < topF h.k.up (decd ps)) })) ∧ Kept No w w')) := hC
  rw [← hC]
  clear hC
  have hn : 0 ≤ a.st.n ∧ a.st.n ≤ 4611686018427387 := by simp [askB] at hab; omega
  have HK : Hid (∀ W p m, Kept No w W → w.heap.size ≤ p → Box W p 46 (Mg.cells m) → Calls Try.prog 23 #[.pointer (some ⟨p, 0, none⟩), .int .i64 a.st.n, .agg (Hd.cells h)] W (fun e w' => (∃ v, e = .returned v) ∧ Box w' p 46 (Mg.cells { m with st := ⟨a.st.n, m.st.c⟩, mo := decide (min (topF h.k.up (decd ps)) (a.st.n + 63) < topF h.k.up (decd ps)) }) ∧ Kept (Only p) W w')) := fun W p m hk hp hb => tellCommands_no p m a.st.n h ps W hb (fun k e f => by have := hlt k e; omega) (hr.no hk) (fun k e => Nat.lt_of_lt_of_le (hlt k e) hk.size) hm hg hg0 hn hc
  clear hr hlt hm hg hg0 hc hn
  have HF : Hid (Fr No w w []) := Fr.start _ _
  go_enter Try.func7, Try.ntmps7
  go_upto_region 0 with fail
  refine WL.start ?_
  refine wp_runW (.pointer (some ⟨w.heap.size, 0, none⟩)) (w.alloc (.cells (Mg.cells a) 46)) (exec_box 46 _ rfl (Mg.cells a) (by kernel_rfl)) (by kernel_rfl) ?_
  try simp only [pS]
  have HF : Hid (Fr No w _ [(w.heap.size, 46, Mg.cells a)]) := HF.out.alloc _ _
  generalize w.alloc (.cells (Mg.cells a) 46) = wk2 at HF ⊢
  generalize w.heap.size = gk1 at HF ⊢
  refine wp_runW (.pointer (some ⟨wk2.heap.size, 0, none⟩)) (wk2.alloc (.cells (Hd.cells h) 49)) (exec_box 49 _ rfl (Hd.cells h) (by kernel_rfl)) (by kernel_rfl) ?_
  try simp only [pS]
  have HF : Hid (Fr No w _ [(gk1, 46, Mg.cells a), (wk2.heap.size, 49, Hd.cells h)]) := HF.out.alloc _ _
  generalize wk2.alloc (.cells (Hd.cells h) 49) = wk4 at HF ⊢
  generalize wk2.heap.size = gk3 at HF ⊢
  refine wp_runW (.pointer (some ⟨wk4.heap.size, 0, none⟩)) (wk4.alloc (.cells (Mg.cells mgZ) 46)) (exec_alloc 46 rfl (Mg.cells mgZ) zero50) (by kernel_rfl) ?_
  try simp only [pS]
  have HF : Hid (Fr No w _ [(gk1, 46, Mg.cells a), (gk3, 49, Hd.cells h), (wk4.heap.size, 46, Mg.cells mgZ)]) := HF.out.alloc _ _
  generalize wk4.alloc (.cells (Mg.cells mgZ) 46) = wk6 at HF ⊢
  generalize wk4.heap.size = gk5 at HF ⊢
  refine WL.nil ?_
  try simp only [pS]
  go_upto_region 1 with fail
  refine WL.start ?_
  refine tK (.pointer (some ⟨gk1, 0, none⟩)) ?_
  refine tW (.int .i64 a.k) (eL 3 _ rfl ⟨gk1, 0, none⟩ (load_one ((HF.out.box 0 _ _ _ rfl).cell 0 |>.trans (by kernel_rfl)) Try.und3 rfl)) ?_
  refine tW (.bool false) (eB .neq 3 _ _ _ rfl (.int .i64 a.k) (.int .i64 21) _ (by rw [b_neq, hk21]; try rfl)) ?_
  try simp only [pS]
  refine WL.nil ?_
  try simp only [pS]
  go_upto_region 3 with fail
  refine WL.start ?_
  refine tK (.pointer (some ⟨gk1, 3, none⟩)) ?_
  refine tW (.agg (Ad.cells a.to)) (eL 37 _ rfl ⟨gk1, 3, none⟩ (run_load_part (cs := Mg.cs a) (sub := Ad.cs a.to) (HF.out.box 0 _ _ _ rfl) (part_of (by kernel_rfl)) Try.und43 rfl Try.size43)) ?_
  refine tK (.pointer (some ⟨gk1, 1, none⟩)) ?_
  refine tW (.agg (Ad.cells a.fr)) (eL 37 _ rfl ⟨gk1, 1, none⟩ (run_load_part (cs := Mg.cs a) (sub := Ad.cs a.fr) (HF.out.box 0 _ _ _ rfl) (part_of (by kernel_rfl)) Try.und43 rfl Try.size43)) ?_
  refine tK (.pointer (some ⟨gk1, 7, none⟩)) ?_
  refine tW (.agg (Ky.cells a.ky)) (eL 39 _ rfl ⟨gk1, 7, none⟩ (run_load_part (cs := Mg.cs a) (sub := Ky.cs a.ky) (HF.out.box 0 _ _ _ rfl) (part_of (by kernel_rfl)) Try.und23 rfl Try.size23)) ?_
  refine tW (.agg (Mg.cells ⟨22, a.to, a.fr, 0, 0, a.ky, spZ, spZ, slZ, cZ, bvZ, slZ, false⟩)) (exec_build 46 _ rfl (Mg.cells ⟨22, a.to, a.fr, 0, 0, a.ky, spZ, spZ, slZ, cZ, bvZ, slZ, false⟩) (by kernel_rfl)) ?_
  try simp only [pS]
  refine wp_runW (.pointer (some ⟨wk6.heap.size, 0, none⟩)) (wk6.alloc (.cells (Mg.cells mgZ) 46)) (exec_alloc 46 rfl (Mg.cells mgZ) zero50) (by kernel_rfl) ?_
  try simp only [pS]
  have HF : Hid (Fr No w _ [(gk1, 46, Mg.cells a), (gk3, 49, Hd.cells h), (gk5, 46, Mg.cells mgZ), (wk6.heap.size, 46, Mg.cells mgZ)]) := HF.out.alloc _ _
  generalize wk6.alloc (.cells (Mg.cells mgZ) 46) = wk8 at HF ⊢
  generalize wk6.heap.size = gk7 at HF ⊢
  refine wp_storeW 46 _ _ rfl ⟨gk7, 0, none⟩ (.agg (Mg.cells ⟨22, a.to, a.fr, 0, 0, a.ky, spZ, spZ, slZ, cZ, bvZ, slZ, false⟩)) (by kernel_rfl) (by kernel_rfl) (wk8.setRow gk7 (Mg.cells ⟨22, a.to, a.fr, 0, 0, a.ky, spZ, spZ, slZ, cZ, bvZ, slZ, false⟩)) (run_store_to (cur := Mg.cs mgZ) (vs := Mg.cs ⟨22, a.to, a.fr, 0, 0, a.ky, spZ, spZ, slZ, cZ, bvZ, slZ, false⟩) (new := Mg.cs ⟨22, a.to, a.fr, 0, 0, a.ky, spZ, spZ, slZ, cZ, bvZ, slZ, false⟩) (HF.out.box 3 _ _ _ rfl) (by kernel_rfl) Try.size50 (Nat.le_of_ble_eq_true (by kernel_rfl)) (Mg.oneL _) (by kernel_rfl)) (by kernel_rfl) ?_
  try simp only [pS]
  have HF : Hid (Fr No w _ [(gk1, 46, Mg.cells a), (gk3, 49, Hd.cells h), (gk5, 46, Mg.cells mgZ), (gk7, 46, Mg.cells ⟨22, a.to, a.fr, 0, 0, a.ky, spZ, spZ, slZ, cZ, bvZ, slZ, false⟩)]) := HF.out.set 3 rfl _
  generalize wk8.setRow gk7 (Mg.cells ⟨22, a.to, a.fr, 0, 0, a.ky, spZ, spZ, slZ, cZ, bvZ, slZ, false⟩) = wk9 at HF ⊢
  refine WL.nil ?_
  try simp only [pS]
  go_upto_region 4 with fail
  refine WL.start ?_
  refine tK (.pointer (some ⟨gk1, 11, none⟩)) ?_
  refine tK (.pointer (some ⟨gk1, 11, none⟩)) ?_
  refine tW (.int .i64 a.st.n) (eL 3 _ rfl ⟨gk1, 11, none⟩ (load_one ((HF.out.box 0 _ _ _ rfl).cell 11 |>.trans (by kernel_rfl)) Try.und3 rfl)) ?_
  refine tK (.int .i64 a.st.n) ?_
  try simp only [pS]
  refine WL.nil ?_
  try simp only [pS]
  go_upto_region 6 with fail
  refine WL.start ?_
  refine tK (.pointer (some ⟨gk1, 7, none⟩)) ?_
  refine tK (.pointer (some ⟨gk1, 7, none⟩)) ?_
  refine tW (.int .i64 a.ky.k) (eL 3 _ rfl ⟨gk1, 7, none⟩ (load_one ((HF.out.box 0 _ _ _ rfl).cell 7 |>.trans (by kernel_rfl)) Try.und3 rfl)) ?_
  refine tW (.bool false) (eB .eql 3 _ _ _ rfl (.int .i64 a.ky.k) (.int .i64 1) _ (by rw [b_eql, hk1]; try rfl)) ?_
  refine tK (.bool false) ?_
  try simp only [pS]
  refine WL.nil ?_
  try simp only [pS]
  go_upto_region 8 with fail
  refine WL.start ?_
  refine tK (.pointer (some ⟨gk1, 7, none⟩)) ?_
  refine tK (.pointer (some ⟨gk1, 7, none⟩)) ?_
  refine tW (.int .i64 a.ky.k) (eL 3 _ rfl ⟨gk1, 7, none⟩ (load_one ((HF.out.box 0 _ _ _ rfl).cell 7 |>.trans (by kernel_rfl)) Try.und3 rfl)) ?_
  refine tW (.bool false) (eB .neq 3 _ _ _ rfl (.int .i64 a.ky.k) (.int .i64 2) _ (by rw [b_neq, hk2]; try rfl)) ?_
  refine tK (.bool false) ?_
  refine tK (.int .i64 a.st.n) ?_
  try simp only [pS]
  refine wp_callW 21 #[.int .i64 a.st.n] (by kernel_rfl) _ (askable_any _ _) (by kernel_rfl) ?_
  rintro e wq ⟨rfl, hwq⟩
  rw [hwq]
  clear hwq wq
  refine ⟨.bool true, by rw [hab], ?_⟩
  try simp only [pS]
  refine tK (.bool false) ?_
  refine tK (.bool false) ?_
  refine tK (.bool false) ?_
  try simp only [pS]
  refine WL.nil ?_
  try simp only [pS]
  go_upto_region 10 with fail
  refine WL.start ?_
  refine tK (.pointer (some ⟨gk3, 3, none⟩)) ?_
  refine tK (.pointer (some ⟨gk3, 3, none⟩)) ?_
  refine tW (.int .i64 h.k.up) (eL 3 _ rfl ⟨gk3, 3, none⟩ (load_one ((HF.out.box 1 _ _ _ rfl).cell 3 |>.trans (by kernel_rfl)) Try.und3 rfl)) ?_
  refine tK (.int .i64 a.st.n) ?_
  refine tW (.bool false) (eB .geq 3 _ _ _ rfl (.int .i64 h.k.up) (.int .i64 a.st.n) _ (by rw [b_geq, hup]; try rfl)) ?_
  refine tK (.bool false) ?_
  try simp only [pS]
  refine WL.nil ?_
  try simp only [pS]
  go_upto_region 5 with fail
  refine WL.start ?_
  refine tK (.int .i64 a.st.n) ?_
  refine tW (.agg (Hd.cells h)) (eL 49 _ rfl ⟨gk3, 0, none⟩ (run_load_part (cs := Hd.cs h) (sub := Hd.cs h) (HF.out.box 1 _ _ _ rfl) (Part.all _) Try.und40 rfl Try.size40)) ?_
  try simp only [pS]
  refine wp_callW 23 #[.pointer (some ⟨gk7, 0, none⟩), .int .i64 a.st.n, .agg (Hd.cells h)] (by kernel_rfl) _ (HK.out _ gk7 ⟨22, a.to, a.fr, 0, 0, a.ky, spZ, spZ, slZ, cZ, bvZ, slZ, false⟩ HF.out.kept (HF.out.low 3 _ _ _ rfl) (HF.out.box 3 _ _ _ rfl)) (by kernel_rfl) ?_
  rintro e wk10 ⟨⟨v, rfl⟩, hbx, hk⟩
  have HF : Hid (Fr No w (wk10) [(gk1, 46, Mg.cells a), (gk3, 49, Hd.cells h), (gk5, 46, Mg.cells mgZ), (gk7, 46, Mg.cells ⟨22, a.to, a.fr, 0, 0, a.ky, ⟨a.st.n, 0⟩, spZ, slZ, cZ, bvZ, slZ, (decide (min (topF h.k.up (decd ps)) (a.st.n + 63) < topF h.k.up (decd ps)))⟩)]) := HF.out.put 3 rfl hk hbx
  clear hbx hk
  refine ⟨v, rfl, ?_⟩
  try simp only [pS]
  refine WL.nil ?_
  try simp only [pS]
  go_upto_region 12 with fail
  refine WL.start ?_
  refine tW (.agg (Mg.cells ⟨22, a.to, a.fr, 0, 0, a.ky, ⟨a.st.n, 0⟩, spZ, slZ, cZ, bvZ, slZ, (decide (min (topF h.k.up (decd ps)) (a.st.n + 63) < topF h.k.up (decd ps)))⟩)) (eL 46 _ rfl ⟨gk7, 0, none⟩ (run_load_part (cs := Mg.cs ⟨22, a.to, a.fr, 0, 0, a.ky, ⟨a.st.n, 0⟩, spZ, slZ, cZ, bvZ, slZ, (decide (min (topF h.k.up (decd ps)) (a.st.n + 63) < topF h.k.up (decd ps)))⟩) (sub := Mg.cs ⟨22, a.to, a.fr, 0, 0, a.ky, ⟨a.st.n, 0⟩, spZ, slZ, cZ, bvZ, slZ, (decide (min (topF h.k.up (decd ps)) (a.st.n + 63) < topF h.k.up (decd ps)))⟩) (HF.out.box 3 _ _ _ rfl) (Part.all _) Try.und50 rfl Try.size50)) ?_
  try simp only [pS]
  refine wp_storeW 46 _ _ rfl ⟨gk5, 0, none⟩ (.agg (Mg.cells ⟨22, a.to, a.fr, 0, 0, a.ky, ⟨a.st.n, 0⟩, spZ, slZ, cZ, bvZ, slZ, (decide (min (topF h.k.up (decd ps)) (a.st.n + 63) < topF h.k.up (decd ps)))⟩)) (by kernel_rfl) (by kernel_rfl) (wk10.setRow gk5 (Mg.cells ⟨22, a.to, a.fr, 0, 0, a.ky, ⟨a.st.n, 0⟩, spZ, slZ, cZ, bvZ, slZ, (decide (min (topF h.k.up (decd ps)) (a.st.n + 63) < topF h.k.up (decd ps)))⟩)) (run_store_to (cur := Mg.cs mgZ) (vs := Mg.cs ⟨22, a.to, a.fr, 0, 0, a.ky, ⟨a.st.n, 0⟩, spZ, slZ, cZ, bvZ, slZ, (decide (min (topF h.k.up (decd ps)) (a.st.n + 63) < topF h.k.up (decd ps)))⟩) (new := Mg.cs ⟨22, a.to, a.fr, 0, 0, a.ky, ⟨a.st.n, 0⟩, spZ, slZ, cZ, bvZ, slZ, (decide (min (topF h.k.up (decd ps)) (a.st.n + 63) < topF h.k.up (decd ps)))⟩) (HF.out.box 2 _ _ _ rfl) (by kernel_rfl) Try.size50 (Nat.le_of_ble_eq_true (by kernel_rfl)) (Mg.oneL _) (by kernel_rfl)) (by kernel_rfl) ?_
  try simp only [pS]
  have HF : Hid (Fr No w _ [(gk1, 46, Mg.cells a), (gk3, 49, Hd.cells h), (gk5, 46, Mg.cells ⟨22, a.to, a.fr, 0, 0, a.ky, ⟨a.st.n, 0⟩, spZ, slZ, cZ, bvZ, slZ, (decide (min (topF h.k.up (decd ps)) (a.st.n + 63) < topF h.k.up (decd ps)))⟩), (gk7, 46, Mg.cells ⟨22, a.to, a.fr, 0, 0, a.ky, ⟨a.st.n, 0⟩, spZ, slZ, cZ, bvZ, slZ, (decide (min (topF h.k.up (decd ps)) (a.st.n + 63) < topF h.k.up (decd ps)))⟩)]) := HF.out.set 2 rfl _
  generalize wk10.setRow gk5 (Mg.cells ⟨22, a.to, a.fr, 0, 0, a.ky, ⟨a.st.n, 0⟩, spZ, slZ, cZ, bvZ, slZ, (decide (min (topF h.k.up (decd ps)) (a.st.n + 63) < topF h.k.up (decd ps)))⟩) = wk11 at HF ⊢
  refine WL.nil ?_
  try simp only [pS]
  go_wp2
  rw [HC.out]
  refine bodyPost_ret (results_row1 (by rfl) _ _ gk5 (Mg.cells ⟨22, a.to, a.fr, 0, 0, a.ky, ⟨a.st.n, 0⟩, spZ, slZ, cZ, bvZ, slZ, (decide (min (topF h.k.up (decd ps)) (a.st.n + 63) < topF h.k.up (decd ps)))⟩) (by rfl) (run_load_part (cs := Mg.cs ⟨22, a.to, a.fr, 0, 0, a.ky, ⟨a.st.n, 0⟩, spZ, slZ, cZ, bvZ, slZ, (decide (min (topF h.k.up (decd ps)) (a.st.n + 63) < topF h.k.up (decd ps)))⟩) (sub := Mg.cs ⟨22, a.to, a.fr, 0, 0, a.ky, ⟨a.st.n, 0⟩, spZ, slZ, cZ, bvZ, slZ, (decide (min (topF h.k.up (decd ps)) (a.st.n + 63) < topF h.k.up (decd ps)))⟩) (HF.out.box 2 _ _ _ rfl) (Part.all _) Try.und50 rfl Try.size50)) rfl ?_
  exact ⟨rfl, HF.out.kept⟩
set_option maxRecDepth 100000 in
set_option maxHeartbeats 4000000 in
theorem have_cmds_yes (a : Mg) (h : Hd) (ps : List Pl) (c : Nat) (w : World) (hk21 : (a.k == 21) = true) (hk1 : (a.ky.k == 1) = false) (hk2 : (a.ky.k == 2) = true) (hab : askB a.st.n = true) (hup : decide (a.st.n ≤ h.k.up) = false) (hr : RdP w h.r ps) (hlt : ∀ k, At h.r.a k → k < w.heap.size) (hm : ps.length ≤ 10000000000000) (hg : Rng h.k.up ps) (hg0 : ∀ x ∈ decd ps, 0 ≤ x.1 ∧ x.1 ≤ 4611686018427387904) (hc : (c : Int) = min (topF h.k.up (decd ps)) (a.st.n + 63) - a.st.n + 1) (hc1 : 1 ≤ c) : Calls Try.prog 7 #[.agg (Mg.cells a), .agg (Hd.cells h)] w (fun e w' => ∃ g : Nat, e = .returned (.agg (Mg.cells { haveM a with st := ⟨a.st.n, 0⟩, mo := decide (min (topF h.k.up (decd ps)) (a.st.n + 63) < topF h.k.up (decd ps)), cm := ⟨some ⟨g, 0, none⟩, c, c⟩ })) ∧ Box w' g 43 (cmL (decF a.st.n c (decd ps))).toArray ∧ w.heap.size ≤ g ∧ Kept No w w') := by
  obtain ⟨C, hC⟩ : ∃ C : Ending → World → Prop, C = (fun e w' => ∃ g : Nat, e = .returned (.agg (Mg.cells { haveM a with st := ⟨a.st.n, 0⟩, mo := decide (min (topF h.k.up (decd ps)) (a.st.n + 63) < topF h.k.up (decd ps)), cm := ⟨some ⟨g, 0, none⟩, c, c⟩ })) ∧ Box w' g 43 (cmL (decF a.st.n c (decd ps))).toArray ∧ w.heap.size ≤ g ∧ Kept No w w') := ⟨_, rfl⟩
  have HC : Hid (C = (fun e w' => ∃ g : Nat, e = .returned (.agg (Mg.cells { haveM a with st := ⟨a.st.n, 0⟩, mo := decide (min (topF h.k.up (decd ps)) (a.st.n + 63) < topF h.k.up (decd ps)), cm := ⟨some ⟨g, 0, none⟩, c, c⟩ })) ∧ Box w' g 43 (cmL (decF a.st.n c (decd ps))).toArray ∧ w.heap.size ≤ g ∧ Kept No w w')) := hC
  rw [← hC]
  clear hC
  have hn : 0 ≤ a.st.n ∧ a.st.n ≤ 4611686018427387 := by simp [askB] at hab; omega
  have HK : Hid (∀ W p m, Kept No w W → w.heap.size ≤ p → Box W p 46 (Mg.cells m) → Calls Try.prog 23 #[.pointer (some ⟨p, 0, none⟩), .int .i64 a.st.n, .agg (Hd.cells h)] W (fun e w' => ∃ g : Nat, (∃ v, e = .returned v) ∧ Box w' p 46 (Mg.cells { m with st := ⟨a.st.n, m.st.c⟩, mo := decide (min (topF h.k.up (decd ps)) (a.st.n + 63) < topF h.k.up (decd ps)), cm := ⟨some ⟨g, 0, none⟩, c, c⟩ }) ∧ Box w' g 43 (cmL (decF a.st.n c (decd ps))).toArray ∧ W.heap.size ≤ g ∧ Kept (Only p) W w')) := fun W p m hk hp hb => tellCommands_yes p m a.st.n h ps c W hb (fun k e f => by have := hlt k e; omega) (hr.no hk) (fun k e => Nat.lt_of_lt_of_le (hlt k e) hk.size) hm hg hg0 hn hc hc1
  clear hr hlt hm hg hg0 hc hn
  have HF : Hid (Fr No w w []) := Fr.start _ _
  go_enter Try.func7, Try.ntmps7
  go_upto_region 0 with fail
  refine WL.start ?_
  refine wp_runW (.pointer (some ⟨w.heap.size, 0, none⟩)) (w.alloc (.cells (Mg.cells a) 46)) (exec_box 46 _ rfl (Mg.cells a) (by kernel_rfl)) (by kernel_rfl) ?_
  try simp only [pS]
  have HF : Hid (Fr No w _ [(w.heap.size, 46, Mg.cells a)]) := HF.out.alloc _ _
  generalize w.alloc (.cells (Mg.cells a) 46) = wk2 at HF ⊢
  generalize w.heap.size = gk1 at HF ⊢
  refine wp_runW (.pointer (some ⟨wk2.heap.size, 0, none⟩)) (wk2.alloc (.cells (Hd.cells h) 49)) (exec_box 49 _ rfl (Hd.cells h) (by kernel_rfl)) (by kernel_rfl) ?_
  try simp only [pS]
  have HF : Hid (Fr No w _ [(gk1, 46, Mg.cells a), (wk2.heap.size, 49, Hd.cells h)]) := HF.out.alloc _ _
  generalize wk2.alloc (.cells (Hd.cells h) 49) = wk4 at HF ⊢
  generalize wk2.heap.size = gk3 at HF ⊢
  refine wp_runW (.pointer (some ⟨wk4.heap.size, 0, none⟩)) (wk4.alloc (.cells (Mg.cells mgZ) 46)) (exec_alloc 46 rfl (Mg.cells mgZ) zero50) (by kernel_rfl) ?_
  try simp only [pS]
  have HF : Hid (Fr No w _ [(gk1, 46, Mg.cells a), (gk3, 49, Hd.cells h), (wk4.heap.size, 46, Mg.cells mgZ)]) := HF.out.alloc _ _
  generalize wk4.alloc (.cells (Mg.cells mgZ) 46) = wk6 at HF ⊢
  generalize wk4.heap.size = gk5 at HF ⊢
  refine WL.nil ?_
  try simp only [pS]
  go_upto_region 1 with fail
  refine WL.start ?_
  refine tK (.pointer (some ⟨gk1, 0, none⟩)) ?_
  refine tW (.int .i64 a.k) (eL 3 _ rfl ⟨gk1, 0, none⟩ (load_one ((HF.out.box 0 _ _ _ rfl).cell 0 |>.trans (by kernel_rfl)) Try.und3 rfl)) ?_
  refine tW (.bool false) (eB .neq 3 _ _ _ rfl (.int .i64 a.k) (.int .i64 21) _ (by rw [b_neq, hk21]; try rfl)) ?_
  try simp only [pS]
  refine WL.nil ?_
  try simp only [pS]
  go_upto_region 3 with fail
  refine WL.start ?_
  refine tK (.pointer (some ⟨gk1, 3, none⟩)) ?_
  refine tW (.agg (Ad.cells a.to)) (eL 37 _ rfl ⟨gk1, 3, none⟩ (run_load_part (cs := Mg.cs a) (sub := Ad.cs a.to) (HF.out.box 0 _ _ _ rfl) (part_of (by kernel_rfl)) Try.und43 rfl Try.size43)) ?_
  refine tK (.pointer (some ⟨gk1, 1, none⟩)) ?_
  refine tW (.agg (Ad.cells a.fr)) (eL 37 _ rfl ⟨gk1, 1, none⟩ (run_load_part (cs := Mg.cs a) (sub := Ad.cs a.fr) (HF.out.box 0 _ _ _ rfl) (part_of (by kernel_rfl)) Try.und43 rfl Try.size43)) ?_
  refine tK (.pointer (some ⟨gk1, 7, none⟩)) ?_
  refine tW (.agg (Ky.cells a.ky)) (eL 39 _ rfl ⟨gk1, 7, none⟩ (run_load_part (cs := Mg.cs a) (sub := Ky.cs a.ky) (HF.out.box 0 _ _ _ rfl) (part_of (by kernel_rfl)) Try.und23 rfl Try.size23)) ?_
  refine tW (.agg (Mg.cells ⟨22, a.to, a.fr, 0, 0, a.ky, spZ, spZ, slZ, cZ, bvZ, slZ, false⟩)) (exec_build 46 _ rfl (Mg.cells ⟨22, a.to, a.fr, 0, 0, a.ky, spZ, spZ, slZ, cZ, bvZ, slZ, false⟩) (by kernel_rfl)) ?_
  try simp only [pS]
  refine wp_runW (.pointer (some ⟨wk6.heap.size, 0, none⟩)) (wk6.alloc (.cells (Mg.cells mgZ) 46)) (exec_alloc 46 rfl (Mg.cells mgZ) zero50) (by kernel_rfl) ?_
  try simp only [pS]
  have HF : Hid (Fr No w _ [(gk1, 46, Mg.cells a), (gk3, 49, Hd.cells h), (gk5, 46, Mg.cells mgZ), (wk6.heap.size, 46, Mg.cells mgZ)]) := HF.out.alloc _ _
  generalize wk6.alloc (.cells (Mg.cells mgZ) 46) = wk8 at HF ⊢
  generalize wk6.heap.size = gk7 at HF ⊢
  refine wp_storeW 46 _ _ rfl ⟨gk7, 0, none⟩ (.agg (Mg.cells ⟨22, a.to, a.fr, 0, 0, a.ky, spZ, spZ, slZ, cZ, bvZ, slZ, false⟩)) (by kernel_rfl) (by kernel_rfl) (wk8.setRow gk7 (Mg.cells ⟨22, a.to, a.fr, 0, 0, a.ky, spZ, spZ, slZ, cZ, bvZ, slZ, false⟩)) (run_store_to (cur := Mg.cs mgZ) (vs := Mg.cs ⟨22, a.to, a.fr, 0, 0, a.ky, spZ, spZ, slZ, cZ, bvZ, slZ, false⟩) (new := Mg.cs ⟨22, a.to, a.fr, 0, 0, a.ky, spZ, spZ, slZ, cZ, bvZ, slZ, false⟩) (HF.out.box 3 _ _ _ rfl) (by kernel_rfl) Try.size50 (Nat.le_of_ble_eq_true (by kernel_rfl)) (Mg.oneL _) (by kernel_rfl)) (by kernel_rfl) ?_
  try simp only [pS]
  have HF : Hid (Fr No w _ [(gk1, 46, Mg.cells a), (gk3, 49, Hd.cells h), (gk5, 46, Mg.cells mgZ), (gk7, 46, Mg.cells ⟨22, a.to, a.fr, 0, 0, a.ky, spZ, spZ, slZ, cZ, bvZ, slZ, false⟩)]) := HF.out.set 3 rfl _
  generalize wk8.setRow gk7 (Mg.cells ⟨22, a.to, a.fr, 0, 0, a.ky, spZ, spZ, slZ, cZ, bvZ, slZ, false⟩) = wk9 at HF ⊢
  refine WL.nil ?_
  try simp only [pS]
  go_upto_region 4 with fail
  refine WL.start ?_
  refine tK (.pointer (some ⟨gk1, 11, none⟩)) ?_
  refine tK (.pointer (some ⟨gk1, 11, none⟩)) ?_
  refine tW (.int .i64 a.st.n) (eL 3 _ rfl ⟨gk1, 11, none⟩ (load_one ((HF.out.box 0 _ _ _ rfl).cell 11 |>.trans (by kernel_rfl)) Try.und3 rfl)) ?_
  refine tK (.int .i64 a.st.n) ?_
  try simp only [pS]
  refine WL.nil ?_
  try simp only [pS]
  go_upto_region 6 with fail
  refine WL.start ?_
  refine tK (.pointer (some ⟨gk1, 7, none⟩)) ?_
  refine tK (.pointer (some ⟨gk1, 7, none⟩)) ?_
  refine tW (.int .i64 a.ky.k) (eL 3 _ rfl ⟨gk1, 7, none⟩ (load_one ((HF.out.box 0 _ _ _ rfl).cell 7 |>.trans (by kernel_rfl)) Try.und3 rfl)) ?_
  refine tW (.bool false) (eB .eql 3 _ _ _ rfl (.int .i64 a.ky.k) (.int .i64 1) _ (by rw [b_eql, hk1]; try rfl)) ?_
  refine tK (.bool false) ?_
  try simp only [pS]
  refine WL.nil ?_
  try simp only [pS]
  go_upto_region 8 with fail
  refine WL.start ?_
  refine tK (.pointer (some ⟨gk1, 7, none⟩)) ?_
  refine tK (.pointer (some ⟨gk1, 7, none⟩)) ?_
  refine tW (.int .i64 a.ky.k) (eL 3 _ rfl ⟨gk1, 7, none⟩ (load_one ((HF.out.box 0 _ _ _ rfl).cell 7 |>.trans (by kernel_rfl)) Try.und3 rfl)) ?_
  refine tW (.bool false) (eB .neq 3 _ _ _ rfl (.int .i64 a.ky.k) (.int .i64 2) _ (by rw [b_neq, hk2]; try rfl)) ?_
  refine tK (.bool false) ?_
  refine tK (.int .i64 a.st.n) ?_
  try simp only [pS]
  refine wp_callW 21 #[.int .i64 a.st.n] (by kernel_rfl) _ (askable_any _ _) (by kernel_rfl) ?_
  rintro e wq ⟨rfl, hwq⟩
  rw [hwq]
  clear hwq wq
  refine ⟨.bool true, by rw [hab], ?_⟩
  try simp only [pS]
  refine tK (.bool false) ?_
  refine tK (.bool false) ?_
  refine tK (.bool false) ?_
  try simp only [pS]
  refine WL.nil ?_
  try simp only [pS]
  go_upto_region 10 with fail
  refine WL.start ?_
  refine tK (.pointer (some ⟨gk3, 3, none⟩)) ?_
  refine tK (.pointer (some ⟨gk3, 3, none⟩)) ?_
  refine tW (.int .i64 h.k.up) (eL 3 _ rfl ⟨gk3, 3, none⟩ (load_one ((HF.out.box 1 _ _ _ rfl).cell 3 |>.trans (by kernel_rfl)) Try.und3 rfl)) ?_
  refine tK (.int .i64 a.st.n) ?_
  refine tW (.bool false) (eB .geq 3 _ _ _ rfl (.int .i64 h.k.up) (.int .i64 a.st.n) _ (by rw [b_geq, hup]; try rfl)) ?_
  refine tK (.bool false) ?_
  try simp only [pS]
  refine WL.nil ?_
  try simp only [pS]
  go_upto_region 5 with fail
  refine WL.start ?_
  refine tK (.int .i64 a.st.n) ?_
  refine tW (.agg (Hd.cells h)) (eL 49 _ rfl ⟨gk3, 0, none⟩ (run_load_part (cs := Hd.cs h) (sub := Hd.cs h) (HF.out.box 1 _ _ _ rfl) (Part.all _) Try.und40 rfl Try.size40)) ?_
  try simp only [pS]
  refine wp_callW 23 #[.pointer (some ⟨gk7, 0, none⟩), .int .i64 a.st.n, .agg (Hd.cells h)] (by kernel_rfl) _ (HK.out _ gk7 ⟨22, a.to, a.fr, 0, 0, a.ky, spZ, spZ, slZ, cZ, bvZ, slZ, false⟩ HF.out.kept (HF.out.low 3 _ _ _ rfl) (HF.out.box 3 _ _ _ rfl)) (by kernel_rfl) ?_
  rintro e wk10 ⟨g, ⟨v, rfl⟩, hbx, hbg, hgl, hk⟩
  have HG : Hid (Box wk10 g 43 (cmL (decF a.st.n c (decd ps))).toArray) := hbg
  have HGl : Hid (w.heap.size ≤ g) := Nat.le_trans HF.out.kept.size hgl
  have HF : Hid (Fr No w (wk10) [(gk1, 46, Mg.cells a), (gk3, 49, Hd.cells h), (gk5, 46, Mg.cells mgZ), (gk7, 46, Mg.cells ⟨22, a.to, a.fr, 0, 0, a.ky, ⟨a.st.n, 0⟩, spZ, slZ, cZ, bvZ, ⟨(some ⟨g, 0, none⟩), c, c⟩, (decide (min (topF h.k.up (decd ps)) (a.st.n + 63) < topF h.k.up (decd ps)))⟩)]) := HF.out.put 3 rfl hk hbx
  clear hbx hk hbg hgl
  refine ⟨v, rfl, ?_⟩
  try simp only [pS]
  refine WL.nil ?_
  try simp only [pS]
  go_upto_region 12 with fail
  refine WL.start ?_
  refine tW (.agg (Mg.cells ⟨22, a.to, a.fr, 0, 0, a.ky, ⟨a.st.n, 0⟩, spZ, slZ, cZ, bvZ, ⟨(some ⟨g, 0, none⟩), c, c⟩, (decide (min (topF h.k.up (decd ps)) (a.st.n + 63) < topF h.k.up (decd ps)))⟩)) (eL 46 _ rfl ⟨gk7, 0, none⟩ (run_load_part (cs := Mg.cs ⟨22, a.to, a.fr, 0, 0, a.ky, ⟨a.st.n, 0⟩, spZ, slZ, cZ, bvZ, ⟨(some ⟨g, 0, none⟩), c, c⟩, (decide (min (topF h.k.up (decd ps)) (a.st.n + 63) < topF h.k.up (decd ps)))⟩) (sub := Mg.cs ⟨22, a.to, a.fr, 0, 0, a.ky, ⟨a.st.n, 0⟩, spZ, slZ, cZ, bvZ, ⟨(some ⟨g, 0, none⟩), c, c⟩, (decide (min (topF h.k.up (decd ps)) (a.st.n + 63) < topF h.k.up (decd ps)))⟩) (HF.out.box 3 _ _ _ rfl) (Part.all _) Try.und50 rfl Try.size50)) ?_
  try simp only [pS]
  refine wp_storeW 46 _ _ rfl ⟨gk5, 0, none⟩ (.agg (Mg.cells ⟨22, a.to, a.fr, 0, 0, a.ky, ⟨a.st.n, 0⟩, spZ, slZ, cZ, bvZ, ⟨(some ⟨g, 0, none⟩), c, c⟩, (decide (min (topF h.k.up (decd ps)) (a.st.n + 63) < topF h.k.up (decd ps)))⟩)) (by kernel_rfl) (by kernel_rfl) (wk10.setRow gk5 (Mg.cells ⟨22, a.to, a.fr, 0, 0, a.ky, ⟨a.st.n, 0⟩, spZ, slZ, cZ, bvZ, ⟨(some ⟨g, 0, none⟩), c, c⟩, (decide (min (topF h.k.up (decd ps)) (a.st.n + 63) < topF h.k.up (decd ps)))⟩)) (run_store_to (cur := Mg.cs mgZ) (vs := Mg.cs ⟨22, a.to, a.fr, 0, 0, a.ky, ⟨a.st.n, 0⟩, spZ, slZ, cZ, bvZ, ⟨(some ⟨g, 0, none⟩), c, c⟩, (decide (min (topF h.k.up (decd ps)) (a.st.n + 63) < topF h.k.up (decd ps)))⟩) (new := Mg.cs ⟨22, a.to, a.fr, 0, 0, a.ky, ⟨a.st.n, 0⟩, spZ, slZ, cZ, bvZ, ⟨(some ⟨g, 0, none⟩), c, c⟩, (decide (min (topF h.k.up (decd ps)) (a.st.n + 63) < topF h.k.up (decd ps)))⟩) (HF.out.box 2 _ _ _ rfl) (by kernel_rfl) Try.size50 (Nat.le_of_ble_eq_true (by kernel_rfl)) (Mg.oneL _) (by kernel_rfl)) (by kernel_rfl) ?_
  try simp only [pS]
  have HG : Hid (Box (wk10.setRow gk5 (Mg.cells ⟨22, a.to, a.fr, 0, 0, a.ky, ⟨a.st.n, 0⟩, spZ, slZ, cZ, bvZ, ⟨(some ⟨g, 0, none⟩), c, c⟩, (decide (min (topF h.k.up (decd ps)) (a.st.n + 63) < topF h.k.up (decd ps)))⟩)) g 43 (cmL (decF a.st.n c (decd ps))).toArray) := HG.out.rowNe (box_ne HG.out (HF.out.box 2 _ _ _ rfl) (by decide)) _
  have HF : Hid (Fr No w _ [(gk1, 46, Mg.cells a), (gk3, 49, Hd.cells h), (gk5, 46, Mg.cells ⟨22, a.to, a.fr, 0, 0, a.ky, ⟨a.st.n, 0⟩, spZ, slZ, cZ, bvZ, ⟨(some ⟨g, 0, none⟩), c, c⟩, (decide (min (topF h.k.up (decd ps)) (a.st.n + 63) < topF h.k.up (decd ps)))⟩), (gk7, 46, Mg.cells ⟨22, a.to, a.fr, 0, 0, a.ky, ⟨a.st.n, 0⟩, spZ, slZ, cZ, bvZ, ⟨(some ⟨g, 0, none⟩), c, c⟩, (decide (min (topF h.k.up (decd ps)) (a.st.n + 63) < topF h.k.up (decd ps)))⟩)]) := HF.out.set 2 rfl _
  generalize wk10.setRow gk5 (Mg.cells ⟨22, a.to, a.fr, 0, 0, a.ky, ⟨a.st.n, 0⟩, spZ, slZ, cZ, bvZ, ⟨(some ⟨g, 0, none⟩), c, c⟩, (decide (min (topF h.k.up (decd ps)) (a.st.n + 63) < topF h.k.up (decd ps)))⟩) = wk11 at HF HG ⊢
  refine WL.nil ?_
  try simp only [pS]
  go_wp2
  rw [HC.out]
  refine bodyPost_ret (results_row1 (by rfl) _ _ gk5 (Mg.cells ⟨22, a.to, a.fr, 0, 0, a.ky, ⟨a.st.n, 0⟩, spZ, slZ, cZ, bvZ, ⟨(some ⟨g, 0, none⟩), c, c⟩, (decide (min (topF h.k.up (decd ps)) (a.st.n + 63) < topF h.k.up (decd ps)))⟩) (by rfl) (run_load_part (cs := Mg.cs ⟨22, a.to, a.fr, 0, 0, a.ky, ⟨a.st.n, 0⟩, spZ, slZ, cZ, bvZ, ⟨(some ⟨g, 0, none⟩), c, c⟩, (decide (min (topF h.k.up (decd ps)) (a.st.n + 63) < topF h.k.up (decd ps)))⟩) (sub := Mg.cs ⟨22, a.to, a.fr, 0, 0, a.ky, ⟨a.st.n, 0⟩, spZ, slZ, cZ, bvZ, ⟨(some ⟨g, 0, none⟩), c, c⟩, (decide (min (topF h.k.up (decd ps)) (a.st.n + 63) < topF h.k.up (decd ps)))⟩) (HF.out.box 2 _ _ _ rfl) (Part.all _) Try.und50 rfl Try.size50)) rfl ?_
  exact ⟨g, rfl, HG.out, HGl.out, HF.out.kept⟩

end Go.Proofs.Ytcgnbpaaalmkoab
