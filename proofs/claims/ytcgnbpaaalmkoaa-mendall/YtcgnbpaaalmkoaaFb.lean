import Derived.Test.YtcgnbpaaalmkoaaFa
namespace Go.Proofs.Ytcgnbpaaalmkoaa
open Go.RowKit
set_option linter.unusedVariables false
set_option linter.unusedSimpArgs false

def trE (u : Int) : En := ⟨⟨#[98, 101, 104, 105, 110, 100]⟩, 1, u, 0⟩
set_option maxRecDepth 100000 in
set_option maxHeartbeats 4000000 in
theorem trim_no (u : Int) (w : World) (hu : decide (u < 1) = true) : Calls Try.prog 52 #[.int .i64 u] w (fun e w' => e = .returned (.agg (Bv.cells bvZ)) ∧ Kept No w w') := by
 obtain ⟨C, hC⟩ : ∃ C : Ending → World → Prop, C = (fun e w' => e = .returned (.agg (Bv.cells bvZ)) ∧ Kept No w w') := ⟨_, rfl⟩
 have HC : Hid (C = (fun e w' => e = .returned (.agg (Bv.cells bvZ)) ∧ Kept No w w')) := hC
 rw [← hC]
 clear hC
 have HF : Hid (Fr No w w []) := Fr.start _ _
 go_enter Try.func52, Try.ntmps52
 go_upto_region 0 with fail
 refine WL.start ?_
 refine wp_runW (.pointer (some ⟨w.heap.size, 0, none⟩)) (w.alloc (.cells (Bv.cells bvZ) 32)) (exec_alloc 32 rfl (Bv.cells bvZ) zero32) (by kernel_rfl) ?_
 try simp only [pS]
 have HF : Hid (Fr No w _ [(w.heap.size, 32, Bv.cells bvZ)]) := HF.out.alloc _ _
 generalize w.alloc (.cells (Bv.cells bvZ) 32) = wk2 at HF ⊢
 generalize w.heap.size = gk1 at HF ⊢
 refine WL.nil ?_
 try simp only [pS]
 go_upto_region 1 with fail
 refine WL.start ?_
 refine tK (.int .i64 u) ?_
 refine tW (.bool true) (eB .lss 3 _ _ _ rfl (.int .i64 u) (.int .i64 1) _ (by rw [b_lss, hu]; try rfl)) ?_
 try simp only [pS]
 refine WL.nil ?_
 try simp only [pS]
 go_upto_region 2 with fail
 refine WL.start ?_
 refine tW (.agg (Bv.cells bvZ)) (exec_build 32 _ rfl (Bv.cells bvZ) (by kernel_rfl)) ?_
 try simp only [pS]
 refine wp_storeW 32 _ _ rfl ⟨gk1, 0, none⟩ (.agg (Bv.cells bvZ)) (by kernel_rfl) (by kernel_rfl) (wk2.setRow gk1 (Bv.cells bvZ)) (run_store_to (cur := Bv.cs bvZ) (vs := Bv.cs bvZ) (new := Bv.cs bvZ) (HF.out.box 0 _ _ _ rfl) (by kernel_rfl) Try.size32 (Nat.le_of_ble_eq_true (by kernel_rfl)) (Bv.oneL _) (by kernel_rfl)) (by kernel_rfl) ?_
 try simp only [pS]
 have HF : Hid (Fr No w _ [(gk1, 32, Bv.cells bvZ)]) := HF.out.set 0 rfl _
 generalize wk2.setRow gk1 (Bv.cells bvZ) = wk3 at HF ⊢
 refine WL.nil ?_
 try simp only [pS]
 go_wp2
 rw [HC.out]
 refine bodyPost_ret (results_row1 (by rfl) _ _ gk1 (Bv.cells bvZ) (by rfl) (run_load_part (cs := Bv.cs bvZ) (sub := Bv.cs bvZ) (HF.out.box 0 _ _ _ rfl) (Part.all _) Try.und32 rfl Try.size32)) rfl ?_
 exact ⟨rfl, HF.out.kept⟩
set_option maxRecDepth 100000 in
set_option maxHeartbeats 4000000 in
theorem trim_yes (u : Int) (w : World) (hu : decide (u < 1) = false) : Calls Try.prog 52 #[.int .i64 u] w (fun e w' => ∃ g : Nat, e = .returned (.agg (Bv.cells ⟨u, ⟨some ⟨g, 0, none⟩, 1, 1⟩, slZ⟩)) ∧ Box w' g 110 (En.cells (trE u)) ∧ w.heap.size ≤ g ∧ Kept No w w') := by
 obtain ⟨C, hC⟩ : ∃ C : Ending → World → Prop, C = (fun e w' => ∃ g : Nat, e = .returned (.agg (Bv.cells ⟨u, ⟨some ⟨g, 0, none⟩, 1, 1⟩, slZ⟩)) ∧ Box w' g 110 (En.cells (trE u)) ∧ w.heap.size ≤ g ∧ Kept No w w') := ⟨_, rfl⟩
 have HC : Hid (C = (fun e w' => ∃ g : Nat, e = .returned (.agg (Bv.cells ⟨u, ⟨some ⟨g, 0, none⟩, 1, 1⟩, slZ⟩)) ∧ Box w' g 110 (En.cells (trE u)) ∧ w.heap.size ≤ g ∧ Kept No w w')) := hC
 rw [← hC]
 clear hC
 have HF : Hid (Fr No w w []) := Fr.start _ _
 go_enter Try.func52, Try.ntmps52
 go_upto_region 0 with fail
 refine WL.start ?_
 refine wp_runW (.pointer (some ⟨w.heap.size, 0, none⟩)) (w.alloc (.cells (Bv.cells bvZ) 32)) (exec_alloc 32 rfl (Bv.cells bvZ) zero32) (by kernel_rfl) ?_
 try simp only [pS]
 have HF : Hid (Fr No w _ [(w.heap.size, 32, Bv.cells bvZ)]) := HF.out.alloc _ _
 generalize w.alloc (.cells (Bv.cells bvZ) 32) = wk2 at HF ⊢
 generalize w.heap.size = gk1 at HF ⊢
 refine WL.nil ?_
 try simp only [pS]
 go_upto_region 1 with fail
 refine WL.start ?_
 refine tK (.int .i64 u) ?_
 refine tW (.bool false) (eB .lss 3 _ _ _ rfl (.int .i64 u) (.int .i64 1) _ (by rw [b_lss, hu]; try rfl)) ?_
 try simp only [pS]
 refine WL.nil ?_
 try simp only [pS]
 go_upto_region 3 with fail
 refine WL.start ?_
 refine tK (.int .i64 u) ?_
 refine tK (.int .i64 u) ?_
 refine tW (.agg #[.int .i64 1, .int .i64 u]) (exec_build 45 _ rfl (#[.int .i64 1, .int .i64 u]) (by kernel_rfl)) ?_
 refine tW (.agg (En.cells ⟨⟨#[98, 101, 104, 105, 110, 100]⟩, 1, u, 0⟩)) (exec_build 110 _ rfl (En.cells ⟨⟨#[98, 101, 104, 105, 110, 100]⟩, 1, u, 0⟩) (by kernel_rfl)) ?_
 try simp only [pS]
 refine wp_runW (.slice (some ⟨wk2.heap.size, 0, none⟩) 1 1) (wk2.alloc (.cells (En.cells ⟨⟨#[98, 101, 104, 105, 110, 100]⟩, 1, u, 0⟩) 110)) (exec_slice2 29 110 _ rfl (En.cells ⟨⟨#[98, 101, 104, 105, 110, 100]⟩, 1, u, 0⟩) (.agg (En.cells ⟨⟨#[98, 101, 104, 105, 110, 100]⟩, 1, u, 0⟩)) (by kernel_rfl) (by kernel_rfl)) (by kernel_rfl) ?_
 try simp only [pS]
 have HF : Hid (Fr No w _ [(gk1, 32, Bv.cells bvZ), (wk2.heap.size, 110, En.cells ⟨⟨#[98, 101, 104, 105, 110, 100]⟩, 1, u, 0⟩)]) := HF.out.alloc _ _
 generalize wk2.alloc (.cells (En.cells ⟨⟨#[98, 101, 104, 105, 110, 100]⟩, 1, u, 0⟩) 110) = wk4 at HF ⊢
 generalize wk2.heap.size = gk3 at HF ⊢
 refine tW (.agg (Bv.cells ⟨u, ⟨(some ⟨gk3, 0, none⟩), 1, 1⟩, slZ⟩)) (exec_build 32 _ rfl (Bv.cells ⟨u, ⟨(some ⟨gk3, 0, none⟩), 1, 1⟩, slZ⟩) (by kernel_rfl)) ?_
 try simp only [pS]
 refine wp_storeW 32 _ _ rfl ⟨gk1, 0, none⟩ (.agg (Bv.cells ⟨u, ⟨(some ⟨gk3, 0, none⟩), 1, 1⟩, slZ⟩)) (by kernel_rfl) (by kernel_rfl) (wk4.setRow gk1 (Bv.cells ⟨u, ⟨(some ⟨gk3, 0, none⟩), 1, 1⟩, slZ⟩)) (run_store_to (cur := Bv.cs bvZ) (vs := Bv.cs ⟨u, ⟨(some ⟨gk3, 0, none⟩), 1, 1⟩, slZ⟩) (new := Bv.cs ⟨u, ⟨(some ⟨gk3, 0, none⟩), 1, 1⟩, slZ⟩) (HF.out.box 0 _ _ _ rfl) (by kernel_rfl) Try.size32 (Nat.le_of_ble_eq_true (by kernel_rfl)) (Bv.oneL _) (by kernel_rfl)) (by kernel_rfl) ?_
 try simp only [pS]
 have HF : Hid (Fr No w _ [(gk1, 32, Bv.cells ⟨u, ⟨(some ⟨gk3, 0, none⟩), 1, 1⟩, slZ⟩), (gk3, 110, En.cells ⟨⟨#[98, 101, 104, 105, 110, 100]⟩, 1, u, 0⟩)]) := HF.out.set 0 rfl _
 generalize wk4.setRow gk1 (Bv.cells ⟨u, ⟨(some ⟨gk3, 0, none⟩), 1, 1⟩, slZ⟩) = wk5 at HF ⊢
 refine WL.nil ?_
 try simp only [pS]
 go_wp2
 rw [HC.out]
 refine bodyPost_ret (results_row1 (by rfl) _ _ gk1 (Bv.cells ⟨u, ⟨(some ⟨gk3, 0, none⟩), 1, 1⟩, slZ⟩) (by rfl) (run_load_part (cs := Bv.cs ⟨u, ⟨(some ⟨gk3, 0, none⟩), 1, 1⟩, slZ⟩) (sub := Bv.cs ⟨u, ⟨(some ⟨gk3, 0, none⟩), 1, 1⟩, slZ⟩) (HF.out.box 0 _ _ _ rfl) (Part.all _) Try.und32 rfl Try.size32)) rfl ?_
 exact ⟨gk3, rfl, HF.out.box 1 _ _ _ rfl, HF.out.low 1 _ _ _ rfl, HF.out.kept⟩
def EdL (w : World) (h : Hd) (ps : List Pl) (e : Ending) (w' : World) : Prop := ∃ n : Nat, e = .returned (.int .i64 ((n : Nat) : Int)) ∧ (h.k.up ≤ n ∧ (n : Int) ≤ h.k.up + h.r.l + 1) ∧ (∀ i : Nat, 1 ≤ i → i ≤ n → knowB h ps i = true) ∧ ¬ ((n : Int) ≤ h.k.up + h.r.l ∧ knowB h ps ((n + 1 : Nat) : Int) = true) ∧ Kept No w w'
set_option maxRecDepth 100000 in
set_option maxHeartbeats 4000000 in
theorem edgeL_any (h : Hd) (ps : List Pl) (w : World) (hr : RdP w h.r ps) (hm : ps.length ≤ 1048577) (hu : 0 ≤ h.k.up ∧ h.k.up ≤ 1048576) : Calls Try.prog 28 #[.agg (Hd.cells h)] w (EdL w h ps) := by
 obtain ⟨C, hC⟩ : ∃ C : Ending → World → Prop, C = (EdL w h ps) := ⟨_, rfl⟩
 have HC : Hid (C = (EdL w h ps)) := hC
 rw [← hC]
 clear hC
 have HR : Hid (RdP w h.r ps) := hr
 have hn : h.r.l ≤ 1048577 := by rw [← hr.len]; exact hm
 have hm2 : ps.length ≤ 10000000000000 := by omega
 clear hr
 have HF : Hid (Fr No w w []) := Fr.start _ _
 go_enter Try.func28, Try.ntmps28
 go_upto_region 0 with fail
 refine WL.start ?_
 refine wp_runW (.pointer (some ⟨w.heap.size, 0, none⟩)) (w.alloc (.cells (Hd.cells h) 35)) (exec_box 35 _ rfl (Hd.cells h) (by kernel_rfl)) (by kernel_rfl) ?_
 try simp only [pS]
 have HF : Hid (Fr No w _ [(w.heap.size, 35, Hd.cells h)]) := HF.out.alloc _ _
 generalize w.alloc (.cells (Hd.cells h) 35) = wk2 at HF ⊢
 generalize w.heap.size = gk1 at HF ⊢
 refine tK (.int .i64 0) ?_
 try simp only [pS]
 refine WL.nil ?_
 try simp only [pS]
 go_upto_region 1 with fail
 refine WL.start ?_
 refine tK (.int .i64 0) ?_
 try simp only [pS]
 refine WL.nil ?_
 try simp only [pS]
 go_wp2
 go_loopw [3] (fun v3 wr => ∃ n : Nat, v3 = .int .i64 ((n : Nat) : Int) ∧ (n : Int) ≤ h.k.up + h.r.l + 1 ∧ Hid (∀ i : Nat, 1 ≤ i → i ≤ n → knowB h ps i = true) ∧ Hid (Fr No w wr [(gk1, 35, Hd.cells h)])) (fun i _ => 2097160 - (intOf i).toNat)
 case atStart => exact ⟨0, by go_num, by omega, show ∀ i : Nat, 1 ≤ i → i ≤ 0 → knowB h ps i = true from fun i h1 h2 => by omega, HF⟩
 case round =>
  clear HF
  obtain ⟨n, rfl, hi, HP, HF⟩ := hrel
  go_upto_region 2 with fail
  refine WL.start ?_
  refine tK (.int .i64 ((n : Nat) : Int)) ?_
  refine tK (.pointer (some ⟨gk1, 3, none⟩)) ?_
  refine tK (.pointer (some ⟨gk1, 3, none⟩)) ?_
  refine tW (.int .i64 h.k.up) (eL 3 _ rfl ⟨gk1, 3, none⟩ (load_one ((HF.out.box 0 _ _ _ rfl).cell 3 |>.trans (by kernel_rfl)) Try.und3 rfl)) ?_
  try simp only [pS]
  cases q1 : (decide (((n : Nat) : Int) < h.k.up))
  ·skip
   refine tW (.bool false) (eB .lss 3 _ _ _ rfl (.int .i64 ((n : Nat) : Int)) (.int .i64 h.k.up) _ (by rw [b_lss, q1]; try rfl)) ?_
   refine tK (.bool false) ?_
   refine tK (.int .i64 ((n : Nat) : Int)) ?_
   refine tK (.pointer (some ⟨gk1, 3, none⟩)) ?_
   refine tK (.pointer (some ⟨gk1, 3, none⟩)) ?_
   refine tW (.int .i64 h.k.up) (eL 3 _ rfl ⟨gk1, 3, none⟩ (load_one ((HF.out.box 0 _ _ _ rfl).cell 3 |>.trans (by kernel_rfl)) Try.und3 rfl)) ?_
   refine tK (.pointer (some ⟨gk1, 6, none⟩)) ?_
   refine tW (h.r.v) (eL 33 _ rfl ⟨gk1, 6, none⟩ (load_one ((HF.out.box 0 _ _ _ rfl).cell 6 |>.trans (by kernel_rfl)) Try.und33 rfl)) ?_
   refine tK (.int .i64 ((h.r.l : Nat) : Int)) ?_
   refine tW (.int .i64 (h.k.up + ((h.r.l : Nat) : Int))) (eB .add 3 _ _ _ rfl (.int .i64 h.k.up) (.int .i64 ((h.r.l : Nat) : Int)) _ (b_addw _ _ _ (by rw [IntKind.wrap_i64]; omega) _)) ?_
   try simp only [pS]
   cases q2 : (decide (((n : Nat) : Int) ≤ (h.k.up + ((h.r.l : Nat) : Int))))
   ·skip
    refine tW (.bool false) (eB .leq 3 _ _ _ rfl (.int .i64 ((n : Nat) : Int)) (.int .i64 (h.k.up + ((h.r.l : Nat) : Int))) _ (by rw [b_leq, q2]; try rfl)) ?_
    refine tK (.bool false) ?_
    refine sK ?_
    refine sK ?_
    refine sK ?_
    refine sK ?_
    refine tK (.bool false) ?_
    refine tK (.bool false) ?_
    try simp only [pS]
    refine WL.nil ?_
    try simp only [pS]
    go_upto_region 4 with fail
    refine WL.start ?_
    refine tK (.int .i64 ((n : Nat) : Int)) ?_
    refine tK (.int .i64 ((n : Nat) : Int)) ?_
    try simp only [pS]
    refine WL.nil ?_
    try simp only [pS]
    go_wp2
    rw [HC.out]
    exact ⟨n, rfl, ⟨by have u := of_decide_eq_false q1; omega, hi⟩, HP.out, (fun e => by have u := of_decide_eq_false q2; omega), HF.out.kept⟩
   ·skip
    refine tW (.bool true) (eB .leq 3 _ _ _ rfl (.int .i64 ((n : Nat) : Int)) (.int .i64 (h.k.up + ((h.r.l : Nat) : Int))) _ (by rw [b_leq, q2]; try rfl)) ?_
    refine tK (.bool true) ?_
    refine tW (.agg (Hd.cells h)) (eL 35 _ rfl ⟨gk1, 0, none⟩ (run_load_part (cs := Hd.cs h) (sub := Hd.cs h) (HF.out.box 0 _ _ _ rfl) (Part.all _) Try.und35 rfl Try.size35)) ?_
    refine tK (.int .i64 ((n : Nat) : Int)) ?_
    refine tW (.int .i64 (((n + 1) : Nat) : Int)) (eB .add 3 _ _ _ rfl (.int .i64 ((n : Nat) : Int)) (.int .i64 1) _ (b_addw _ _ _ (by rw [IntKind.wrap_i64]; omega) _)) ?_
    try simp only [pS]
    cases q3 : (knowB h ps (((n + 1) : Nat) : Int))
    ·skip
     refine wp_callW 30 #[.agg (Hd.cells h), .int .i64 (((n + 1) : Nat) : Int)] (by kernel_rfl) _ (knows_any h ps (((n + 1) : Nat) : Int) _ (HR.out.no HF.out.kept) hm2) (by kernel_rfl) ?_
     rintro e wk3 ⟨rfl, hk⟩
     have HF : Hid (Fr No w (wk3) [(gk1, 35, Hd.cells h)]) := HF.out.no hk
     clear hk
     refine ⟨.bool false, by rw [q3], ?_⟩
     try simp only [pS]
     refine tK (.bool false) ?_
     refine tK (.bool false) ?_
     try simp only [pS]
     refine WL.nil ?_
     try simp only [pS]
     go_upto_region 4 with fail
     refine WL.start ?_
     refine tK (.int .i64 ((n : Nat) : Int)) ?_
     refine tK (.int .i64 ((n : Nat) : Int)) ?_
     try simp only [pS]
     refine WL.nil ?_
     try simp only [pS]
     go_wp2
     rw [HC.out]
     exact ⟨n, rfl, ⟨by have u := of_decide_eq_false q1; omega, hi⟩, HP.out, (fun e => by rw [show knowB h ps ((n + 1 : Nat) : Int) = false from q3] at e; cases e.2), HF.out.kept⟩
    ·skip
     refine wp_callW 30 #[.agg (Hd.cells h), .int .i64 (((n + 1) : Nat) : Int)] (by kernel_rfl) _ (knows_any h ps (((n + 1) : Nat) : Int) _ (HR.out.no HF.out.kept) hm2) (by kernel_rfl) ?_
     rintro e wk4 ⟨rfl, hk⟩
     have HF : Hid (Fr No w (wk4) [(gk1, 35, Hd.cells h)]) := HF.out.no hk
     clear hk
     refine ⟨.bool true, by rw [q3], ?_⟩
     try simp only [pS]
     refine tK (.bool true) ?_
     refine tK (.bool true) ?_
     try simp only [pS]
     refine WL.nil ?_
     try simp only [pS]
     have hkn : knowB h ps ((n + 1 : Nat) : Int) = true := q3
     have hle : ((n + 1 : Nat) : Int) ≤ h.k.up + h.r.l + 1 := by have u := of_decide_eq_true q2; omega
     have HP2 : Hid (∀ i : Nat, 1 ≤ i → i ≤ n + 1 → knowB h ps i = true) := show ∀ i : Nat, 1 ≤ i → i ≤ n + 1 → knowB h ps i = true from fun i h1 h2 => by
      by_cases e : i = n + 1
      · rw [e]; exact hkn
      · exact HP.out i h1 (by omega)
     clear hkn q1 q2 q3
     go_upto_region 3 with fail
     refine WL.start ?_
     refine tK (.int .i64 ((n : Nat) : Int)) ?_
     refine tW (.int .i64 (((n + 1) : Nat) : Int)) (eB .add 3 _ _ _ rfl (.int .i64 ((n : Nat) : Int)) (.int .i64 1) _ (b_addw _ _ _ (by rw [IntKind.wrap_i64]; omega) _)) ?_
     refine tK (.int .i64 (((n + 1) : Nat) : Int)) ?_
     try simp only [pS]
     refine WL.nil ?_
     try simp only [pS]
     go_wp2
     go_roundw
     case rel => exact ⟨n + 1, by go_num, hle, HP2, HF⟩
     case measure => simp [intOf]; omega
  ·skip
   refine tW (.bool true) (eB .lss 3 _ _ _ rfl (.int .i64 ((n : Nat) : Int)) (.int .i64 h.k.up) _ (by rw [b_lss, q1]; try rfl)) ?_
   refine tK (.bool true) ?_
   refine sK ?_
   refine sK ?_
   refine sK ?_
   refine sK ?_
   refine sK ?_
   refine sK ?_
   refine sK ?_
   refine sK ?_
   refine sK ?_
   refine sK ?_
   refine sK ?_
   refine sK ?_
   refine sK ?_
   refine sK ?_
   refine sK ?_
   refine tK (.bool true) ?_
   try simp only [pS]
   refine WL.nil ?_
   try simp only [pS]
   have hkn : knowB h ps ((n + 1 : Nat) : Int) = true := by unfold knowB; rw [decide_eq_true (by have u := of_decide_eq_true q1; omega)]; rfl
   have hle : ((n + 1 : Nat) : Int) ≤ h.k.up + h.r.l + 1 := by have u := of_decide_eq_true q1; omega
   have HP2 : Hid (∀ i : Nat, 1 ≤ i → i ≤ n + 1 → knowB h ps i = true) := show ∀ i : Nat, 1 ≤ i → i ≤ n + 1 → knowB h ps i = true from fun i h1 h2 => by
    by_cases e : i = n + 1
    · rw [e]; exact hkn
    · exact HP.out i h1 (by omega)
   clear hkn q1
   go_upto_region 3 with fail
   refine WL.start ?_
   refine tK (.int .i64 ((n : Nat) : Int)) ?_
   refine tW (.int .i64 (((n + 1) : Nat) : Int)) (eB .add 3 _ _ _ rfl (.int .i64 ((n : Nat) : Int)) (.int .i64 1) _ (b_addw _ _ _ (by rw [IntKind.wrap_i64]; omega) _)) ?_
   refine tK (.int .i64 (((n + 1) : Nat) : Int)) ?_
   try simp only [pS]
   refine WL.nil ?_
   try simp only [pS]
   go_wp2
   go_roundw
   case rel => exact ⟨n + 1, by go_num, hle, HP2, HF⟩
   case measure => simp [intOf]; omega

end Go.Proofs.Ytcgnbpaaalmkoaa
