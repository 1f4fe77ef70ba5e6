import Derived.Test.YtcgnbpaaalmkoaaBh
namespace Go.Proofs.Ytcgnbpaaalmkoaa
open Go.RowKit
set_option linter.unusedVariables false
set_option linter.unusedSimpArgs false

/-- The row rises; how far it goes on without a gap. -/
def RiseL (u : Int) : List Pl → Prop
  | [] => True
  | p :: r => u < p.n ∧ RiseL p.n r
def refK (u : Int) : List Pl → Nat
  | [] => 0
  | p :: r => if p.n = u + 1 ∧ p.i.d = true then refK (u + 1) r + 1 else 0
theorem rise_of : ∀ (ps : List Pl) (u : Int), (∀ i, i < ps.length → (i = 0 → u < (pAt ps i).n) ∧ (0 < i → (pAt ps (i - 1)).n < (pAt ps i).n)) → RiseL u ps
  | [], u, _ => trivial
  | p :: r, u, h => by
    refine ⟨(h 0 (by simp)).1 rfl, rise_of r p.n (fun i hi => ⟨fun e => ?_, fun e => ?_⟩)⟩
    · subst e
      exact (h 1 (by simp only [List.length_cons]; omega)).2 (by omega)
    · obtain ⟨j, rfl⟩ : ∃ j, i = j + 1 := ⟨i - 1, by omega⟩
      exact (h (j + 2) (by simp only [List.length_cons]; omega)).2 (by omega)
theorem MayP.rise {h : Hd} {ps : List Pl} (H : MayP h ps) : RiseL h.k.up ps := rise_of ps _ (fun i hi => ⟨fun _ => (H.2.2 i hi).1.1, (H.2.2 i hi).2.1⟩)
theorem edge_far : ∀ (ps : List Pl) (u v : Int), RiseL v ps → u + 1 ≤ v → edgeF u (decd ps) = u
  | [], u, v, _, _ => rfl
  | p :: r, u, v, h, hv => by
    have h1 := h.1
    have h2 := edge_far r u p.n h.2 (by omega)
    unfold decd at h2 ⊢
    rw [List.filterMap_cons]
    cases hd : p.i.d
    · simpa using h2
    · simp only [if_true]
      exact (show (if p.n = u + 1 then edgeF p.n _ else u) = u from if_neg (by omega))
theorem edge_ref : ∀ (ps : List Pl) (u : Int), RiseL u ps → edgeF u (decd ps) = u + refK u ps
  | [], u, _ => by simp [decd, edgeF, refK]
  | p :: r, u, h => by
    have h1 := h.1
    have h2 := h.2
    by_cases hd : p.i.d = true
    · have hdec : decd (p :: r) = (p.n, p.i.c) :: decd r := by simp [decd, hd]
      rw [hdec]
      by_cases hn : p.n = u + 1
      · have hk : refK u (p :: r) = refK (u + 1) r + 1 := show (if p.n = u + 1 ∧ p.i.d = true then refK (u + 1) r + 1 else 0) = refK (u + 1) r + 1 from if_pos ⟨hn, hd⟩
        have he : edgeF u ((p.n, p.i.c) :: decd r) = edgeF p.n (decd r) := show (if p.n = u + 1 then edgeF p.n (decd r) else u) = edgeF p.n (decd r) from if_pos hn
        rw [he, hk, hn, edge_ref r (u + 1) (hn ▸ h2)]
        omega
      · have hk : refK u (p :: r) = 0 := show (if p.n = u + 1 ∧ p.i.d = true then refK (u + 1) r + 1 else 0) = 0 from if_neg (fun e => hn e.1)
        have he : edgeF u ((p.n, p.i.c) :: decd r) = u := show (if p.n = u + 1 then edgeF p.n (decd r) else u) = u from if_neg hn
        rw [he, hk]; omega
    · have hdec : decd (p :: r) = decd r := by simp [decd, hd]
      have hk : refK u (p :: r) = 0 := show (if p.n = u + 1 ∧ p.i.d = true then refK (u + 1) r + 1 else 0) = 0 from if_neg (fun e => hd e.2)
      rw [hdec, hk, edge_far r u p.n h2 (by omega)]; omega
theorem refN_K : ∀ (ps : List Pl) (u : Int) (k : Nat), refN u ps k → (k < ps.length → ¬ ((pAt ps k).n = u + k + 1 ∧ (pAt ps k).i.d = true)) → k = refK u ps
  | [], u, k, h, _ => by have := h.1; simp at this; subst this; rfl
  | p :: r, u, 0, h, hs => by
    have := hs (by simp)
    exact (show (if p.n = u + 1 ∧ p.i.d = true then refK (u + 1) r + 1 else 0) = 0 from if_neg (fun e => this ⟨by show p.n = u + ((0 : Nat) : Int) + 1; rw [e.1]; omega, e.2⟩)).symm
  | p :: r, u, k + 1, h, hs => by
    have h0 : p.n = u + ((0 : Nat) : Int) + 1 ∧ p.i.d = true := h.2 0 (by omega)
    rw [show refK u (p :: r) = refK (u + 1) r + 1 from (show (if p.n = u + 1 ∧ p.i.d = true then refK (u + 1) r + 1 else 0) = refK (u + 1) r + 1 from if_pos ⟨by omega, h0.2⟩)]
    have := refN_K r (u + 1) k ⟨by have := h.1; simp only [List.length_cons] at this; omega, fun j hj => by
      have h1 : (pAt r j).n = u + ((j + 1 : Nat) : Int) + 1 ∧ (pAt r j).i.d = true := h.2 (j + 1) (by omega)
      exact ⟨by omega, h1.2⟩⟩ (fun hk e => hs (by simp only [List.length_cons]; omega) ⟨by show (pAt r k).n = u + ((k + 1 : Nat) : Int) + 1; omega, e.2⟩)
    omega
theorem MayP.edge {h : Hd} {ps : List Pl} (H : MayP h ps) {k : Nat} (h1 : refN h.k.up ps k) (h2 : k < ps.length → ¬ ((pAt ps k).n = h.k.up + k + 1 ∧ (pAt ps k).i.d = true)) : h.k.up + k = edgeF h.k.up (decd ps) := by
  rw [edge_ref ps _ H.rise, ← refN_K ps _ k h1 h2]
theorem decd_mem {ps : List Pl} {x : Int × Cm} (h : x ∈ decd ps) : ∃ i, i < ps.length ∧ (pAt ps i).i.d = true ∧ x = ((pAt ps i).n, (pAt ps i).i.c) := by
  unfold decd at h
  obtain ⟨p, hp, hx⟩ := List.mem_filterMap.1 h
  obtain ⟨i, hi, rfl⟩ := List.mem_iff_getElem.1 hp
  have e : pAt ps i = ps[i] := by unfold pAt; rw [List.getElem?_eq_getElem hi]; rfl
  cases hd : ps[i].i.d
  · rw [hd] at hx; simp at hx
  · rw [hd] at hx; simp at hx
    exact ⟨i, hi, by rw [e]; exact hd, by rw [e]; exact hx.symm⟩
theorem MayP.rng {h : Hd} {ps : List Pl} (H : MayP h ps) : Rng h.k.up ps := by
  refine ⟨by have := H.1; omega, fun x hx => ?_⟩
  obtain ⟨i, hi, _, rfl⟩ := decd_mem hx
  have h1 := (H.2.2 i hi).1
  have h2 := H.1
  show -4611686018427387904 ≤ (pAt ps i).n ∧ (pAt ps i).n ≤ 4611686018427387904
  omega
theorem edgeF_le : ∀ (l : List (Int × Cm)) (u : Int) (hi : Int), u ≤ hi → (∀ x ∈ l, x.1 ≤ hi) → u ≤ edgeF u l ∧ edgeF u l ≤ hi
  | [], u, hi, h, _ => ⟨Int.le_refl _, h⟩
  | x :: r, u, hi, h, hx => by
    show u ≤ (if x.1 = u + 1 then edgeF x.1 r else u) ∧ (if x.1 = u + 1 then edgeF x.1 r else u) ≤ hi
    split
    · rename_i e
      have h1 := edgeF_le r x.1 hi (hx x (by simp)) (fun y hy => hx y (by simp [hy]))
      exact ⟨by omega, h1.2⟩
    · exact ⟨Int.le_refl _, h⟩
theorem MayP.edge_le {h : Hd} {ps : List Pl} (H : MayP h ps) : 0 ≤ edgeF h.k.up (decd ps) ∧ edgeF h.k.up (decd ps) ≤ 1048576 := by
  have h1 := edgeF_le (decd ps) h.k.up 1048576 H.1.2 (fun x hx => by
    obtain ⟨i, hi, _, rfl⟩ := decd_mem hx
    exact (H.2.2 i hi).1.2)
  have := H.1
  omega
set_option maxRecDepth 100000 in
set_option maxHeartbeats 4000000 in
theorem refAsk_any (fm ta : Int) (k : Ky) (h : Hd) (ps : List Pl) (w : World) (hr : RdP w h.r ps) (hm : ps.length ≤ 1099511627744) (hh : MayP h ps) : Calls Try.prog 15 #[.int .i64 fm, .int .i64 ta, .agg (Ky.cells k), .agg (Hd.cells h)] w (fun e w' => e = .returned (.agg (Mg.cells (askS fm ta k h ps))) ∧ Kept No w w') := by
  obtain ⟨C, hC⟩ : ∃ C : Ending → World → Prop, C = (fun e w' => e = .returned (.agg (Mg.cells (askS fm ta k h ps))) ∧ Kept No w w') := ⟨_, rfl⟩
  have HC : Hid (C = (fun e w' => e = .returned (.agg (Mg.cells (askS fm ta k h ps))) ∧ Kept No w w')) := hC
  rw [← hC]
  clear hC
  have HR : Hid (RdP w h.r ps) := hr
  have HM : Hid (MayP h ps) := hh
  have hu := hh.1
  have hE := hh.edge_le
  clear hr hh
  have HF : Hid (Fr No w w []) := Fr.start _ _
  go_enter Try.func15, Try.ntmps15
  go_upto_region 0 with fail
  refine WL.start ?_
  refine wp_runW (.pointer (some ⟨w.heap.size, 0, none⟩)) (w.alloc (.cells (Ky.cells k) 23)) (exec_box 23 _ rfl (Ky.cells k) (by kernel_rfl)) (by kernel_rfl) ?_
  try simp only [pS]
  have HF : Hid (Fr No w _ [(w.heap.size, 23, Ky.cells k)]) := HF.out.alloc _ _
  generalize w.alloc (.cells (Ky.cells k) 23) = wk2 at HF ⊢
  generalize w.heap.size = gk1 at HF ⊢
  refine wp_runW (.pointer (some ⟨wk2.heap.size, 0, none⟩)) (wk2.alloc (.cells (Hd.cells h) 35)) (exec_box 35 _ rfl (Hd.cells h) (by kernel_rfl)) (by kernel_rfl) ?_
  try simp only [pS]
  have HF : Hid (Fr No w _ [(gk1, 23, Ky.cells k), (wk2.heap.size, 35, Hd.cells h)]) := HF.out.alloc _ _
  generalize wk2.alloc (.cells (Hd.cells h) 35) = wk4 at HF ⊢
  generalize wk2.heap.size = gk3 at HF ⊢
  refine wp_runW (.pointer (some ⟨wk4.heap.size, 0, none⟩)) (wk4.alloc (.cells (Mg.cells mgZ) 50)) (exec_alloc 50 rfl (Mg.cells mgZ) zero50) (by kernel_rfl) ?_
  try simp only [pS]
  have HF : Hid (Fr No w _ [(gk1, 23, Ky.cells k), (gk3, 35, Hd.cells h), (wk4.heap.size, 50, Mg.cells mgZ)]) := HF.out.alloc _ _
  generalize wk4.alloc (.cells (Mg.cells mgZ) 50) = wk6 at HF ⊢
  generalize wk4.heap.size = gk5 at HF ⊢
  refine WL.nil ?_
  try simp only [pS]
  go_upto_region 1 with fail
  refine WL.start ?_
  refine tK (.int .i64 fm) ?_
  refine tW (.agg (Ad.cells ⟨false, fm⟩)) (exec_build 43 _ rfl (Ad.cells ⟨false, fm⟩) (by kernel_rfl)) ?_
  refine tK (.int .i64 ta) ?_
  refine tW (.agg (Ad.cells ⟨false, ta⟩)) (exec_build 43 _ rfl (Ad.cells ⟨false, ta⟩) (by kernel_rfl)) ?_
  refine tW (.agg (Ky.cells k)) (eL 23 _ rfl ⟨gk1, 0, none⟩ (run_load_part (cs := Ky.cs k) (sub := Ky.cs k) (HF.out.box 0 _ _ _ rfl) (Part.all _) Try.und23 rfl Try.size23)) ?_
  refine tW (.agg (Mg.cells ⟨21, ⟨false, fm⟩, ⟨false, ta⟩, 0, 0, k, spZ, spZ, slZ, cZ, bvZ, slZ, false⟩)) (exec_build 50 _ rfl (Mg.cells ⟨21, ⟨false, fm⟩, ⟨false, ta⟩, 0, 0, k, spZ, spZ, slZ, cZ, bvZ, slZ, false⟩) (by kernel_rfl)) ?_
  try simp only [pS]
  refine wp_runW (.pointer (some ⟨wk6.heap.size, 0, none⟩)) (wk6.alloc (.cells (Mg.cells mgZ) 50)) (exec_alloc 50 rfl (Mg.cells mgZ) zero50) (by kernel_rfl) ?_
  try simp only [pS]
  have HF : Hid (Fr No w _ [(gk1, 23, Ky.cells k), (gk3, 35, Hd.cells h), (gk5, 50, Mg.cells mgZ), (wk6.heap.size, 50, Mg.cells mgZ)]) := HF.out.alloc _ _
  generalize wk6.alloc (.cells (Mg.cells mgZ) 50) = wk8 at HF ⊢
  generalize wk6.heap.size = gk7 at HF ⊢
  refine wp_storeW 50 _ _ rfl ⟨gk7, 0, none⟩ (.agg (Mg.cells ⟨21, ⟨false, fm⟩, ⟨false, ta⟩, 0, 0, k, spZ, spZ, slZ, cZ, bvZ, slZ, false⟩)) (by kernel_rfl) (by kernel_rfl) (wk8.setRow gk7 (Mg.cells ⟨21, ⟨false, fm⟩, ⟨false, ta⟩, 0, 0, k, spZ, spZ, slZ, cZ, bvZ, slZ, false⟩)) (run_store_to (cur := Mg.cs mgZ) (vs := Mg.cs ⟨21, ⟨false, fm⟩, ⟨false, ta⟩, 0, 0, k, spZ, spZ, slZ, cZ, bvZ, slZ, false⟩) (new := Mg.cs ⟨21, ⟨false, fm⟩, ⟨false, ta⟩, 0, 0, k, spZ, spZ, slZ, cZ, bvZ, slZ, false⟩) (HF.out.box 3 _ _ _ rfl) (by kernel_rfl) Try.size50 (Nat.le_of_ble_eq_true (by kernel_rfl)) (Mg.oneL _) (by kernel_rfl)) (by kernel_rfl) ?_
  try simp only [pS]
  have HF : Hid (Fr No w _ [(gk1, 23, Ky.cells k), (gk3, 35, Hd.cells h), (gk5, 50, Mg.cells mgZ), (gk7, 50, Mg.cells ⟨21, ⟨false, fm⟩, ⟨false, ta⟩, 0, 0, k, spZ, spZ, slZ, cZ, bvZ, slZ, false⟩)]) := HF.out.set 3 rfl _
  generalize wk8.setRow gk7 (Mg.cells ⟨21, ⟨false, fm⟩, ⟨false, ta⟩, 0, 0, k, spZ, spZ, slZ, cZ, bvZ, slZ, false⟩) = wk9 at HF ⊢
  refine WL.nil ?_
  try simp only [pS]
  go_upto_region 2 with fail
  refine WL.start ?_
  refine tK (.pointer (some ⟨gk1, 0, none⟩)) ?_
  refine tW (.int .i64 k.k) (eL 3 _ rfl ⟨gk1, 0, none⟩ (load_one ((HF.out.box 0 _ _ _ rfl).cell 0 |>.trans (by kernel_rfl)) Try.und3 rfl)) ?_
  try simp only [pS]
  cases q1 : (k.k == 2)
  ·skip
   refine tW (.bool false) (eB .eql 3 _ _ _ rfl (.int .i64 k.k) (.int .i64 2) _ (by rw [b_eql, q1]; try rfl)) ?_
   try simp only [pS]
   refine WL.nil ?_
   try simp only [pS]
   go_upto_region 5 with fail
   refine WL.start ?_
   refine tK (.pointer (some ⟨gk1, 0, none⟩)) ?_
   refine tW (.int .i64 k.k) (eL 3 _ rfl ⟨gk1, 0, none⟩ (load_one ((HF.out.box 0 _ _ _ rfl).cell 0 |>.trans (by kernel_rfl)) Try.und3 rfl)) ?_
   try simp only [pS]
   cases q2 : (k.k == 1)
   ·skip
    refine tW (.bool false) (eB .eql 3 _ _ _ rfl (.int .i64 k.k) (.int .i64 1) _ (by rw [b_eql, q2]; try rfl)) ?_
    try simp only [pS]
    refine WL.nil ?_
    try simp only [pS]
    go_upto_region 7 with fail
    refine WL.start ?_
    refine tW (.agg (Mg.cells mgZ)) (exec_build 50 _ rfl (Mg.cells mgZ) (by kernel_rfl)) ?_
    try simp only [pS]
    refine wp_storeW 50 _ _ rfl ⟨gk5, 0, none⟩ (.agg (Mg.cells mgZ)) (by kernel_rfl) (by kernel_rfl) (wk9.setRow gk5 (Mg.cells mgZ)) (run_store_to (cur := Mg.cs mgZ) (vs := Mg.cs mgZ) (new := Mg.cs mgZ) (HF.out.box 2 _ _ _ rfl) (by kernel_rfl) Try.size50 (Nat.le_of_ble_eq_true (by kernel_rfl)) (Mg.oneL _) (by kernel_rfl)) (by kernel_rfl) ?_
    try simp only [pS]
    have HF : Hid (Fr No w _ [(gk1, 23, Ky.cells k), (gk3, 35, Hd.cells h), (gk5, 50, Mg.cells mgZ), (gk7, 50, Mg.cells ⟨21, ⟨false, fm⟩, ⟨false, ta⟩, 0, 0, k, spZ, spZ, slZ, cZ, bvZ, slZ, false⟩)]) := HF.out.set 2 rfl _
    generalize wk9.setRow gk5 (Mg.cells mgZ) = wk10 at HF ⊢
    refine WL.nil ?_
    try simp only [pS]
    go_wp2
    rw [HC.out]
    refine bodyPost_ret (results_row1 (by rfl) _ _ gk5 (Mg.cells mgZ) (by rfl) (run_load_part (cs := Mg.cs mgZ) (sub := Mg.cs mgZ) (HF.out.box 2 _ _ _ rfl) (Part.all _) Try.und50 rfl Try.size50)) rfl ?_
    refine ⟨?_, HF.out.kept⟩
    unfold askS
    rw [q2, q1]
    rfl
   ·skip
    refine tW (.bool true) (eB .eql 3 _ _ _ rfl (.int .i64 k.k) (.int .i64 1) _ (by rw [b_eql, q2]; try rfl)) ?_
    try simp only [pS]
    refine WL.nil ?_
    try simp only [pS]
    go_upto_region 6 with fail
    refine WL.start ?_
    refine tW (.agg (Mg.cells ⟨21, ⟨false, fm⟩, ⟨false, ta⟩, 0, 0, k, spZ, spZ, slZ, cZ, bvZ, slZ, false⟩)) (eL 50 _ rfl ⟨gk7, 0, none⟩ (run_load_part (cs := Mg.cs ⟨21, ⟨false, fm⟩, ⟨false, ta⟩, 0, 0, k, spZ, spZ, slZ, cZ, bvZ, slZ, false⟩) (sub := Mg.cs ⟨21, ⟨false, fm⟩, ⟨false, ta⟩, 0, 0, k, spZ, spZ, slZ, cZ, bvZ, slZ, false⟩) (HF.out.box 3 _ _ _ rfl) (Part.all _) Try.und50 rfl Try.size50)) ?_
    try simp only [pS]
    refine wp_storeW 50 _ _ rfl ⟨gk5, 0, none⟩ (.agg (Mg.cells ⟨21, ⟨false, fm⟩, ⟨false, ta⟩, 0, 0, k, spZ, spZ, slZ, cZ, bvZ, slZ, false⟩)) (by kernel_rfl) (by kernel_rfl) (wk9.setRow gk5 (Mg.cells ⟨21, ⟨false, fm⟩, ⟨false, ta⟩, 0, 0, k, spZ, spZ, slZ, cZ, bvZ, slZ, false⟩)) (run_store_to (cur := Mg.cs mgZ) (vs := Mg.cs ⟨21, ⟨false, fm⟩, ⟨false, ta⟩, 0, 0, k, spZ, spZ, slZ, cZ, bvZ, slZ, false⟩) (new := Mg.cs ⟨21, ⟨false, fm⟩, ⟨false, ta⟩, 0, 0, k, spZ, spZ, slZ, cZ, bvZ, slZ, false⟩) (HF.out.box 2 _ _ _ rfl) (by kernel_rfl) Try.size50 (Nat.le_of_ble_eq_true (by kernel_rfl)) (Mg.oneL _) (by kernel_rfl)) (by kernel_rfl) ?_
    try simp only [pS]
    have HF : Hid (Fr No w _ [(gk1, 23, Ky.cells k), (gk3, 35, Hd.cells h), (gk5, 50, Mg.cells ⟨21, ⟨false, fm⟩, ⟨false, ta⟩, 0, 0, k, spZ, spZ, slZ, cZ, bvZ, slZ, false⟩), (gk7, 50, Mg.cells ⟨21, ⟨false, fm⟩, ⟨false, ta⟩, 0, 0, k, spZ, spZ, slZ, cZ, bvZ, slZ, false⟩)]) := HF.out.set 2 rfl _
    generalize wk9.setRow gk5 (Mg.cells ⟨21, ⟨false, fm⟩, ⟨false, ta⟩, 0, 0, k, spZ, spZ, slZ, cZ, bvZ, slZ, false⟩) = wk11 at HF ⊢
    refine WL.nil ?_
    try simp only [pS]
    go_wp2
    rw [HC.out]
    refine bodyPost_ret (results_row1 (by rfl) _ _ gk5 (Mg.cells ⟨21, ⟨false, fm⟩, ⟨false, ta⟩, 0, 0, k, spZ, spZ, slZ, cZ, bvZ, slZ, false⟩) (by rfl) (run_load_part (cs := Mg.cs ⟨21, ⟨false, fm⟩, ⟨false, ta⟩, 0, 0, k, spZ, spZ, slZ, cZ, bvZ, slZ, false⟩) (sub := Mg.cs ⟨21, ⟨false, fm⟩, ⟨false, ta⟩, 0, 0, k, spZ, spZ, slZ, cZ, bvZ, slZ, false⟩) (HF.out.box 2 _ _ _ rfl) (Part.all _) Try.und50 rfl Try.size50)) rfl ?_
    refine ⟨?_, HF.out.kept⟩
    unfold askS
    rw [q2]
    rfl
  ·skip
   refine tW (.bool true) (eB .eql 3 _ _ _ rfl (.int .i64 k.k) (.int .i64 2) _ (by rw [b_eql, q1]; try rfl)) ?_
   try simp only [pS]
   refine WL.nil ?_
   try simp only [pS]
   go_upto_region 3 with fail
   refine WL.start ?_
   refine tW (.agg (Hd.cells h)) (eL 35 _ rfl ⟨gk3, 0, none⟩ (run_load_part (cs := Hd.cs h) (sub := Hd.cs h) (HF.out.box 1 _ _ _ rfl) (Part.all _) Try.und35 rfl Try.size35)) ?_
   try simp only [pS]
   refine wp_callW 41 #[.agg (Hd.cells h)] (by kernel_rfl) _ (refEdge_any h ps _ (HR.out.no HF.out.kept) (by omega) (by omega)) (by kernel_rfl) ?_
   rintro e wk12 ⟨kk, rfl, hN, hS, hk⟩
   rw [HM.out.edge hN hS]
   have HF : Hid (Fr No w (wk12) [(gk1, 23, Ky.cells k), (gk3, 35, Hd.cells h), (gk5, 50, Mg.cells mgZ), (gk7, 50, Mg.cells ⟨21, ⟨false, fm⟩, ⟨false, ta⟩, 0, 0, k, spZ, spZ, slZ, cZ, bvZ, slZ, false⟩)]) := HF.out.no hk
   clear hk hN hS
   refine ⟨.int .i64 (edgeF h.k.up (decd ps)), rfl, ?_⟩
   try simp only [pS]
   refine tW (.int .i64 (edgeF h.k.up (decd ps) + 1)) (eB .add 3 _ _ _ rfl (.int .i64 (edgeF h.k.up (decd ps))) (.int .i64 1) _ (b_addw _ _ _ (by rw [IntKind.wrap_i64]; omega) _)) ?_
   refine tK (.pointer (some ⟨gk7, 11, none⟩)) ?_
   refine tK (.pointer (some ⟨gk7, 11, none⟩)) ?_
   try simp only [pS]
   refine wp_storeW 3 _ _ rfl ⟨gk7, 11, none⟩ (.int .i64 (edgeF h.k.up (decd ps) + 1)) (by kernel_rfl) (by kernel_rfl) (wk12.setRow gk7 (Mg.cells ⟨21, ⟨false, fm⟩, ⟨false, ta⟩, 0, 0, k, ⟨(edgeF h.k.up (decd ps) + 1), 0⟩, spZ, slZ, cZ, bvZ, slZ, false⟩)) (run_store_to (cur := Mg.cs ⟨21, ⟨false, fm⟩, ⟨false, ta⟩, 0, 0, k, spZ, spZ, slZ, cZ, bvZ, slZ, false⟩) (vs := [.int .i64 (edgeF h.k.up (decd ps) + 1)]) (new := Mg.cs ⟨21, ⟨false, fm⟩, ⟨false, ta⟩, 0, 0, k, ⟨(edgeF h.k.up (decd ps) + 1), 0⟩, spZ, slZ, cZ, bvZ, slZ, false⟩) (HF.out.box 3 _ _ _ rfl) (by kernel_rfl) Try.size3 (Nat.le_of_ble_eq_true (by kernel_rfl)) (by simp [Value.oneCell', Sl.v]) (by kernel_rfl)) (by kernel_rfl) ?_
   try simp only [pS]
   have HF : Hid (Fr No w _ [(gk1, 23, Ky.cells k), (gk3, 35, Hd.cells h), (gk5, 50, Mg.cells mgZ), (gk7, 50, Mg.cells ⟨21, ⟨false, fm⟩, ⟨false, ta⟩, 0, 0, k, ⟨(edgeF h.k.up (decd ps) + 1), 0⟩, spZ, slZ, cZ, bvZ, slZ, false⟩)]) := HF.out.set 3 rfl _
   generalize wk12.setRow gk7 (Mg.cells ⟨21, ⟨false, fm⟩, ⟨false, ta⟩, 0, 0, k, ⟨(edgeF h.k.up (decd ps) + 1), 0⟩, spZ, slZ, cZ, bvZ, slZ, false⟩) = wk13 at HF ⊢
   refine WL.nil ?_
   try simp only [pS]
   go_upto_region 4 with fail
   refine WL.start ?_
   refine tW (.agg (Mg.cells ⟨21, ⟨false, fm⟩, ⟨false, ta⟩, 0, 0, k, ⟨(edgeF h.k.up (decd ps) + 1), 0⟩, spZ, slZ, cZ, bvZ, slZ, false⟩)) (eL 50 _ rfl ⟨gk7, 0, none⟩ (run_load_part (cs := Mg.cs ⟨21, ⟨false, fm⟩, ⟨false, ta⟩, 0, 0, k, ⟨(edgeF h.k.up (decd ps) + 1), 0⟩, spZ, slZ, cZ, bvZ, slZ, false⟩) (sub := Mg.cs ⟨21, ⟨false, fm⟩, ⟨false, ta⟩, 0, 0, k, ⟨(edgeF h.k.up (decd ps) + 1), 0⟩, spZ, slZ, cZ, bvZ, slZ, false⟩) (HF.out.box 3 _ _ _ rfl) (Part.all _) Try.und50 rfl Try.size50)) ?_
   try simp only [pS]
   refine wp_storeW 50 _ _ rfl ⟨gk5, 0, none⟩ (.agg (Mg.cells ⟨21, ⟨false, fm⟩, ⟨false, ta⟩, 0, 0, k, ⟨(edgeF h.k.up (decd ps) + 1), 0⟩, spZ, slZ, cZ, bvZ, slZ, false⟩)) (by kernel_rfl) (by kernel_rfl) (wk13.setRow gk5 (Mg.cells ⟨21, ⟨false, fm⟩, ⟨false, ta⟩, 0, 0, k, ⟨(edgeF h.k.up (decd ps) + 1), 0⟩, spZ, slZ, cZ, bvZ, slZ, false⟩)) (run_store_to (cur := Mg.cs mgZ) (vs := Mg.cs ⟨21, ⟨false, fm⟩, ⟨false, ta⟩, 0, 0, k, ⟨(edgeF h.k.up (decd ps) + 1), 0⟩, spZ, slZ, cZ, bvZ, slZ, false⟩) (new := Mg.cs ⟨21, ⟨false, fm⟩, ⟨false, ta⟩, 0, 0, k, ⟨(edgeF h.k.up (decd ps) + 1), 0⟩, spZ, slZ, cZ, bvZ, slZ, false⟩) (HF.out.box 2 _ _ _ rfl) (by kernel_rfl) Try.size50 (Nat.le_of_ble_eq_true (by kernel_rfl)) (Mg.oneL _) (by kernel_rfl)) (by kernel_rfl) ?_
   try simp only [pS]
   have HF : Hid (Fr No w _ [(gk1, 23, Ky.cells k), (gk3, 35, Hd.cells h), (gk5, 50, Mg.cells ⟨21, ⟨false, fm⟩, ⟨false, ta⟩, 0, 0, k, ⟨(edgeF h.k.up (decd ps) + 1), 0⟩, spZ, slZ, cZ, bvZ, slZ, false⟩), (gk7, 50, Mg.cells ⟨21, ⟨false, fm⟩, ⟨false, ta⟩, 0, 0, k, ⟨(edgeF h.k.up (decd ps) + 1), 0⟩, spZ, slZ, cZ, bvZ, slZ, false⟩)]) := HF.out.set 2 rfl _
   generalize wk13.setRow gk5 (Mg.cells ⟨21, ⟨false, fm⟩, ⟨false, ta⟩, 0, 0, k, ⟨(edgeF h.k.up (decd ps) + 1), 0⟩, spZ, slZ, cZ, bvZ, slZ, false⟩) = wk14 at HF ⊢
   refine WL.nil ?_
   try simp only [pS]
   go_wp2
   rw [HC.out]
   refine bodyPost_ret (results_row1 (by rfl) _ _ gk5 (Mg.cells ⟨21, ⟨false, fm⟩, ⟨false, ta⟩, 0, 0, k, ⟨(edgeF h.k.up (decd ps) + 1), 0⟩, spZ, slZ, cZ, bvZ, slZ, false⟩) (by rfl) (run_load_part (cs := Mg.cs ⟨21, ⟨false, fm⟩, ⟨false, ta⟩, 0, 0, k, ⟨(edgeF h.k.up (decd ps) + 1), 0⟩, spZ, slZ, cZ, bvZ, slZ, false⟩) (sub := Mg.cs ⟨21, ⟨false, fm⟩, ⟨false, ta⟩, 0, 0, k, ⟨(edgeF h.k.up (decd ps) + 1), 0⟩, spZ, slZ, cZ, bvZ, slZ, false⟩) (HF.out.box 2 _ _ _ rfl) (Part.all _) Try.und50 rfl Try.size50)) rfl ?_
   refine ⟨?_, HF.out.kept⟩
   unfold askS
   have e1 : (k.k == 1) = false := by have e2 : k.k = 2 := by simpa using q1
                                      rw [e2]; rfl
   rw [e1, q1]
   rfl

end Go.Proofs.Ytcgnbpaaalmkoaa
