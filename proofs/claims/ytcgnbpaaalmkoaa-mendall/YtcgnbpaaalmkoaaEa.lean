import Derived.Test.YtcgnbpaaalmkoaaEb
namespace Go.Proofs.Ytcgnbpaaalmkoaa
open Go.RowKit
set_option linter.unusedVariables false
set_option linter.unusedSimpArgs false

/-- What is held when a change is laid down: the row. -/
structure OwR (w : World) (base : Nat) (s : Sl) (ps : List Pl) : Prop where
 own : Own 89 15 w base s.a s.k s.l (plL ps)
 len : ps.length = s.l
theorem OwR.kept {S : Nat → Prop} {w w' : World} {base : Nat} {s : Sl} {es : List Pl} (h : OwR w base s es) (hk : Kept S w w') (hS : ∀ k, At s.a k → ¬ S k) : OwR w' base s es := ⟨h.own.kept hk hS, h.len⟩
theorem OwR.no {w w' : World} {base : Nat} {s : Sl} {es : List Pl} (h : OwR w base s es) (hk : Kept No w w') : OwR w' base s es := h.kept hk (fun _ _ e => e)
theorem OwR.rd {w : World} {base : Nat} {s : Sl} {ps : List Pl} (h : OwR w base s ps) : RdP w s ps := ⟨Own.rows h.own (plL_c ps) (by omega), h.len, h.own.cap0⟩
theorem Fr.app2 {w0 w w' : World} {l : List (Nat × TypeId × Array Value)} {T : TypeId} {c cap n : Nat} {sa : Option Addr} {vs : List Value} (h : Fr No w0 w l) (ho : Own T c w w0.heap.size sa cap n vs) (hk : Kept (At sa) w w') (hT : ∀ x ∈ l, x.2.1 ≠ T ∨ ¬ At sa x.1) : Fr No w0 w' l :=
 ⟨h.kept.trans hk (fun _ e => e) (fun k hk' e => by have := ho.base e; omega), fun i g T' cs hi => (h.box i g T' cs hi).kept hk (fun e => by
  rcases hT _ (List.mem_of_getElem? hi) with h1 | h1
  · exact ho.notBox (h.box i g T' cs hi) (fun e2 => h1 e2.symm) e
  · exact h1 e), h.low, h.inj⟩
theorem cell_pl (e : Pl) (j : Nat) (u : Value) (h : e.cs[j]? = some u) : e.cells[j]? = some u := by unfold Pl.cells; rw [List.getElem?_toArray]; exact h
theorem drop_at {ps : List Pl} {i : Nat} (h : i < ps.length) : ps.drop i = pAt ps i :: ps.drop (i + 1) := by
 rw [List.drop_eq_getElem_cons h]
 unfold pAt
 rw [List.getElem?_eq_getElem h]; rfl
set_option maxRecDepth 100000 in
set_option maxHeartbeats 4000000 in
theorem laid_block (h : Hd) (c : Ch) (w : World) (hk1 : (c.ky.k == 1) = true) : Calls Try.prog 24 #[.agg (Hd.cells h), .agg (Ch.cells c)] w (fun e w' => e = .returned (.agg (Hd.cells ⟨c.b, h.k, h.r⟩)) ∧ Kept No w w') := by
 obtain ⟨C, hC⟩ : ∃ C : Ending → World → Prop, C = (fun e w' => e = .returned (.agg (Hd.cells ⟨c.b, h.k, h.r⟩)) ∧ Kept No w w') := ⟨_, rfl⟩
 have HC : Hid (C = (fun e w' => e = .returned (.agg (Hd.cells ⟨c.b, h.k, h.r⟩)) ∧ Kept No w w')) := hC
 rw [← hC]
 clear hC
 have HF : Hid (Fr No w w []) := Fr.start _ _
 go_enter Try.func24, Try.ntmps24
 go_upto_region 0 with fail
 refine WL.start ?_
 refine wp_runW (.pointer (some ⟨w.heap.size, 0, none⟩)) (w.alloc (.cells (Hd.cells h) 35)) (exec_box 35 _ rfl (Hd.cells h) (by kernel_rfl)) (by kernel_rfl) ?_
 try simp only [pS]
 have HF : Hid (Fr No w _ [(w.heap.size, 35, Hd.cells h)]) := HF.out.alloc _ _
 generalize w.alloc (.cells (Hd.cells h) 35) = wk2 at HF ⊢
 generalize w.heap.size = gk1 at HF ⊢
 refine wp_runW (.pointer (some ⟨wk2.heap.size, 0, none⟩)) (wk2.alloc (.cells (Ch.cells c) 72)) (exec_box 72 _ rfl (Ch.cells c) (by kernel_rfl)) (by kernel_rfl) ?_
 try simp only [pS]
 have HF : Hid (Fr No w _ [(gk1, 35, Hd.cells h), (wk2.heap.size, 72, Ch.cells c)]) := HF.out.alloc _ _
 generalize wk2.alloc (.cells (Ch.cells c) 72) = wk4 at HF ⊢
 generalize wk2.heap.size = gk3 at HF ⊢
 refine wp_runW (.pointer (some ⟨wk4.heap.size, 0, none⟩)) (wk4.alloc (.cells (Hd.cells hdZ) 35)) (exec_alloc 35 rfl (Hd.cells hdZ) zero35) (by kernel_rfl) ?_
 try simp only [pS]
 have HF : Hid (Fr No w _ [(gk1, 35, Hd.cells h), (gk3, 72, Ch.cells c), (wk4.heap.size, 35, Hd.cells hdZ)]) := HF.out.alloc _ _
 generalize wk4.alloc (.cells (Hd.cells hdZ) 35) = wk6 at HF ⊢
 generalize wk4.heap.size = gk5 at HF ⊢
 refine WL.nil ?_
 try simp only [pS]
 go_upto_region 1 with fail
 refine WL.start ?_
 refine tK (.pointer (some ⟨gk1, 0, none⟩)) ?_
 refine tW (.agg (Bl.cells h.b)) (eL 28 _ rfl ⟨gk1, 0, none⟩ (run_load_part (cs := Hd.cs h) (sub := Bl.cs h.b) (HF.out.box 0 _ _ _ rfl) (part_of (by kernel_rfl)) Try.und28 rfl Try.size28)) ?_
 refine tK (.pointer (some ⟨gk1, 3, none⟩)) ?_
 refine tW (.agg (Bv.cells h.k)) (eL 32 _ rfl ⟨gk1, 3, none⟩ (run_load_part (cs := Hd.cs h) (sub := Bv.cs h.k) (HF.out.box 0 _ _ _ rfl) (part_of (by kernel_rfl)) Try.und32 rfl Try.size32)) ?_
 refine tW (.agg (Hd.cells ⟨h.b, h.k, slZ⟩)) (exec_build 35 _ rfl (Hd.cells ⟨h.b, h.k, slZ⟩) (by kernel_rfl)) ?_
 try simp only [pS]
 refine wp_runW (.pointer (some ⟨wk6.heap.size, 0, none⟩)) (wk6.alloc (.cells (Hd.cells hdZ) 35)) (exec_alloc 35 rfl (Hd.cells hdZ) zero35) (by kernel_rfl) ?_
 try simp only [pS]
 have HF : Hid (Fr No w _ [(gk1, 35, Hd.cells h), (gk3, 72, Ch.cells c), (gk5, 35, Hd.cells hdZ), (wk6.heap.size, 35, Hd.cells hdZ)]) := HF.out.alloc _ _
 generalize wk6.alloc (.cells (Hd.cells hdZ) 35) = wk8 at HF ⊢
 generalize wk6.heap.size = gk7 at HF ⊢
 refine wp_storeW 35 _ _ rfl ⟨gk7, 0, none⟩ (.agg (Hd.cells ⟨h.b, h.k, slZ⟩)) (by kernel_rfl) (by kernel_rfl) (wk8.setRow gk7 (Hd.cells ⟨h.b, h.k, slZ⟩)) (run_store_to (cur := Hd.cs hdZ) (vs := Hd.cs ⟨h.b, h.k, slZ⟩) (new := Hd.cs ⟨h.b, h.k, slZ⟩) (HF.out.box 3 _ _ _ rfl) (by kernel_rfl) Try.size35 (Nat.le_of_ble_eq_true (by kernel_rfl)) (Hd.oneL _) (by kernel_rfl)) (by kernel_rfl) ?_
 try simp only [pS]
 have HF : Hid (Fr No w _ [(gk1, 35, Hd.cells h), (gk3, 72, Ch.cells c), (gk5, 35, Hd.cells hdZ), (gk7, 35, Hd.cells ⟨h.b, h.k, slZ⟩)]) := HF.out.set 3 rfl _
 generalize wk8.setRow gk7 (Hd.cells ⟨h.b, h.k, slZ⟩) = wk9 at HF ⊢
 refine WL.nil ?_
 try simp only [pS]
 go_upto_region 2 with fail
 refine WL.start ?_
 refine tK (.pointer (some ⟨gk3, 0, none⟩)) ?_
 refine tK (.pointer (some ⟨gk3, 0, none⟩)) ?_
 refine tW (.int .i64 c.ky.k) (eL 3 _ rfl ⟨gk3, 0, none⟩ (load_one ((HF.out.box 1 _ _ _ rfl).cell 0 |>.trans (by kernel_rfl)) Try.und3 rfl)) ?_
 refine tW (.bool true) (eB .eql 3 _ _ _ rfl (.int .i64 c.ky.k) (.int .i64 1) _ (by rw [b_eql, hk1]; try rfl)) ?_
 try simp only [pS]
 refine WL.nil ?_
 try simp only [pS]
 go_upto_region 3 with fail
 refine WL.start ?_
 refine tK (.pointer (some ⟨gk3, 4, none⟩)) ?_
 refine tW (.agg (Bl.cells c.b)) (eL 28 _ rfl ⟨gk3, 4, none⟩ (run_load_part (cs := Ch.cs c) (sub := Bl.cs c.b) (HF.out.box 1 _ _ _ rfl) (part_of (by kernel_rfl)) Try.und28 rfl Try.size28)) ?_
 refine tK (.pointer (some ⟨gk7, 0, none⟩)) ?_
 try simp only [pS]
 refine wp_storeW 28 _ _ rfl ⟨gk7, 0, none⟩ (.agg (Bl.cells c.b)) (by kernel_rfl) (by kernel_rfl) (wk9.setRow gk7 (Hd.cells ⟨c.b, h.k, slZ⟩)) (run_store_to (cur := Hd.cs ⟨h.b, h.k, slZ⟩) (vs := Bl.cs c.b) (new := Hd.cs ⟨c.b, h.k, slZ⟩) (HF.out.box 3 _ _ _ rfl) (by kernel_rfl) Try.size28 (Nat.le_of_ble_eq_true (by kernel_rfl)) (Bl.oneL _) (by kernel_rfl)) (by kernel_rfl) ?_
 try simp only [pS]
 have HF : Hid (Fr No w _ [(gk1, 35, Hd.cells h), (gk3, 72, Ch.cells c), (gk5, 35, Hd.cells hdZ), (gk7, 35, Hd.cells ⟨c.b, h.k, slZ⟩)]) := HF.out.set 3 rfl _
 generalize wk9.setRow gk7 (Hd.cells ⟨c.b, h.k, slZ⟩) = wk10 at HF ⊢
 refine WL.nil ?_
 try simp only [pS]
 go_upto_region 4 with fail
 refine WL.start ?_
 refine tK (.pointer (some ⟨gk1, 6, none⟩)) ?_
 refine tW (h.r.v) (eL 33 _ rfl ⟨gk1, 6, none⟩ (load_one ((HF.out.box 0 _ _ _ rfl).cell 6 |>.trans (by kernel_rfl)) Try.und33 rfl)) ?_
 refine tK (.pointer (some ⟨gk7, 6, none⟩)) ?_
 try simp only [pS]
 refine wp_storeW 33 _ _ rfl ⟨gk7, 6, none⟩ (h.r.v) (by kernel_rfl) (by kernel_rfl) (wk10.setRow gk7 (Hd.cells ⟨c.b, h.k, h.r⟩)) (run_store_to (cur := Hd.cs ⟨c.b, h.k, slZ⟩) (vs := [h.r.v]) (new := Hd.cs ⟨c.b, h.k, h.r⟩) (HF.out.box 3 _ _ _ rfl) (by kernel_rfl) Try.size33 (Nat.le_of_ble_eq_true (by kernel_rfl)) (by simp [Value.oneCell', Sl.v]) (by kernel_rfl)) (by kernel_rfl) ?_
 try simp only [pS]
 have HF : Hid (Fr No w _ [(gk1, 35, Hd.cells h), (gk3, 72, Ch.cells c), (gk5, 35, Hd.cells hdZ), (gk7, 35, Hd.cells ⟨c.b, h.k, h.r⟩)]) := HF.out.set 3 rfl _
 generalize wk10.setRow gk7 (Hd.cells ⟨c.b, h.k, h.r⟩) = wk11 at HF ⊢
 refine WL.nil ?_
 try simp only [pS]
 go_upto_region 5 with fail
 refine WL.start ?_
 refine tW (.agg (Hd.cells ⟨c.b, h.k, h.r⟩)) (eL 35 _ rfl ⟨gk7, 0, none⟩ (run_load_part (cs := Hd.cs ⟨c.b, h.k, h.r⟩) (sub := Hd.cs ⟨c.b, h.k, h.r⟩) (HF.out.box 3 _ _ _ rfl) (Part.all _) Try.und35 rfl Try.size35)) ?_
 try simp only [pS]
 refine wp_storeW 35 _ _ rfl ⟨gk5, 0, none⟩ (.agg (Hd.cells ⟨c.b, h.k, h.r⟩)) (by kernel_rfl) (by kernel_rfl) (wk11.setRow gk5 (Hd.cells ⟨c.b, h.k, h.r⟩)) (run_store_to (cur := Hd.cs hdZ) (vs := Hd.cs ⟨c.b, h.k, h.r⟩) (new := Hd.cs ⟨c.b, h.k, h.r⟩) (HF.out.box 2 _ _ _ rfl) (by kernel_rfl) Try.size35 (Nat.le_of_ble_eq_true (by kernel_rfl)) (Hd.oneL _) (by kernel_rfl)) (by kernel_rfl) ?_
 try simp only [pS]
 have HF : Hid (Fr No w _ [(gk1, 35, Hd.cells h), (gk3, 72, Ch.cells c), (gk5, 35, Hd.cells ⟨c.b, h.k, h.r⟩), (gk7, 35, Hd.cells ⟨c.b, h.k, h.r⟩)]) := HF.out.set 2 rfl _
 generalize wk11.setRow gk5 (Hd.cells ⟨c.b, h.k, h.r⟩) = wk12 at HF ⊢
 refine WL.nil ?_
 try simp only [pS]
 go_wp2
 rw [HC.out]
 refine bodyPost_ret (results_row1 (by rfl) _ _ gk5 (Hd.cells ⟨c.b, h.k, h.r⟩) (by rfl) (run_load_part (cs := Hd.cs ⟨c.b, h.k, h.r⟩) (sub := Hd.cs ⟨c.b, h.k, h.r⟩) (HF.out.box 2 _ _ _ rfl) (Part.all _) Try.und35 rfl Try.size35)) rfl ?_
 exact ⟨rfl, HF.out.kept⟩
set_option maxRecDepth 100000 in
set_option maxHeartbeats 4000000 in
theorem laid_bucket (h : Hd) (c : Ch) (ps : List Pl) (w : World) (hk1 : (c.ky.k == 1) = false) (hk2 : (c.ky.k == 2) = true) (hr : RdP w h.r ps) (hm : ps.length ≤ 1048577) : Calls Try.prog 24 #[.agg (Hd.cells h), .agg (Ch.cells c)] w (fun e w' => ∃ s' : Sl, e = .returned (.agg (Hd.cells ⟨h.b, c.bk, s'⟩)) ∧ OwR w' w.heap.size s' (ps.filter (fun x => decide (c.bk.up < x.n))) ∧ Kept No w w') := by
 obtain ⟨C, hC⟩ : ∃ C : Ending → World → Prop, C = (fun e w' => ∃ s' : Sl, e = .returned (.agg (Hd.cells ⟨h.b, c.bk, s'⟩)) ∧ OwR w' w.heap.size s' (ps.filter (fun x => decide (c.bk.up < x.n))) ∧ Kept No w w') := ⟨_, rfl⟩
 have HC : Hid (C = (fun e w' => ∃ s' : Sl, e = .returned (.agg (Hd.cells ⟨h.b, c.bk, s'⟩)) ∧ OwR w' w.heap.size s' (ps.filter (fun x => decide (c.bk.up < x.n))) ∧ Kept No w w')) := hC
 rw [← hC]
 clear hC
 have HR : Hid (RdP w h.r ps) := hr
 have HL : Hid (ps.length = h.r.l) := hr.len
 have hn : h.r.l ≤ 1048577 := by rw [← hr.len]; exact hm
 clear hr hm
 have HF : Hid (Fr No w w []) := Fr.start _ _
 go_enter Try.func24, Try.ntmps24
 go_upto_region 0 with fail
 refine WL.start ?_
 refine wp_runW (.pointer (some ⟨w.heap.size, 0, none⟩)) (w.alloc (.cells (Hd.cells h) 35)) (exec_box 35 _ rfl (Hd.cells h) (by kernel_rfl)) (by kernel_rfl) ?_
 try simp only [pS]
 have HF : Hid (Fr No w _ [(w.heap.size, 35, Hd.cells h)]) := HF.out.alloc _ _
 generalize w.alloc (.cells (Hd.cells h) 35) = wk2 at HF ⊢
 generalize w.heap.size = gk1 at HF ⊢
 refine wp_runW (.pointer (some ⟨wk2.heap.size, 0, none⟩)) (wk2.alloc (.cells (Ch.cells c) 72)) (exec_box 72 _ rfl (Ch.cells c) (by kernel_rfl)) (by kernel_rfl) ?_
 try simp only [pS]
 have HF : Hid (Fr No w _ [(gk1, 35, Hd.cells h), (wk2.heap.size, 72, Ch.cells c)]) := HF.out.alloc _ _
 generalize wk2.alloc (.cells (Ch.cells c) 72) = wk4 at HF ⊢
 generalize wk2.heap.size = gk3 at HF ⊢
 refine wp_runW (.pointer (some ⟨wk4.heap.size, 0, none⟩)) (wk4.alloc (.cells (Hd.cells hdZ) 35)) (exec_alloc 35 rfl (Hd.cells hdZ) zero35) (by kernel_rfl) ?_
 try simp only [pS]
 have HF : Hid (Fr No w _ [(gk1, 35, Hd.cells h), (gk3, 72, Ch.cells c), (wk4.heap.size, 35, Hd.cells hdZ)]) := HF.out.alloc _ _
 generalize wk4.alloc (.cells (Hd.cells hdZ) 35) = wk6 at HF ⊢
 generalize wk4.heap.size = gk5 at HF ⊢
 refine WL.nil ?_
 try simp only [pS]
 go_upto_region 1 with fail
 refine WL.start ?_
 refine tK (.pointer (some ⟨gk1, 0, none⟩)) ?_
 refine tW (.agg (Bl.cells h.b)) (eL 28 _ rfl ⟨gk1, 0, none⟩ (run_load_part (cs := Hd.cs h) (sub := Bl.cs h.b) (HF.out.box 0 _ _ _ rfl) (part_of (by kernel_rfl)) Try.und28 rfl Try.size28)) ?_
 refine tK (.pointer (some ⟨gk1, 3, none⟩)) ?_
 refine tW (.agg (Bv.cells h.k)) (eL 32 _ rfl ⟨gk1, 3, none⟩ (run_load_part (cs := Hd.cs h) (sub := Bv.cs h.k) (HF.out.box 0 _ _ _ rfl) (part_of (by kernel_rfl)) Try.und32 rfl Try.size32)) ?_
 refine tW (.agg (Hd.cells ⟨h.b, h.k, slZ⟩)) (exec_build 35 _ rfl (Hd.cells ⟨h.b, h.k, slZ⟩) (by kernel_rfl)) ?_
 try simp only [pS]
 refine wp_runW (.pointer (some ⟨wk6.heap.size, 0, none⟩)) (wk6.alloc (.cells (Hd.cells hdZ) 35)) (exec_alloc 35 rfl (Hd.cells hdZ) zero35) (by kernel_rfl) ?_
 try simp only [pS]
 have HF : Hid (Fr No w _ [(gk1, 35, Hd.cells h), (gk3, 72, Ch.cells c), (gk5, 35, Hd.cells hdZ), (wk6.heap.size, 35, Hd.cells hdZ)]) := HF.out.alloc _ _
 generalize wk6.alloc (.cells (Hd.cells hdZ) 35) = wk8 at HF ⊢
 generalize wk6.heap.size = gk7 at HF ⊢
 refine wp_storeW 35 _ _ rfl ⟨gk7, 0, none⟩ (.agg (Hd.cells ⟨h.b, h.k, slZ⟩)) (by kernel_rfl) (by kernel_rfl) (wk8.setRow gk7 (Hd.cells ⟨h.b, h.k, slZ⟩)) (run_store_to (cur := Hd.cs hdZ) (vs := Hd.cs ⟨h.b, h.k, slZ⟩) (new := Hd.cs ⟨h.b, h.k, slZ⟩) (HF.out.box 3 _ _ _ rfl) (by kernel_rfl) Try.size35 (Nat.le_of_ble_eq_true (by kernel_rfl)) (Hd.oneL _) (by kernel_rfl)) (by kernel_rfl) ?_
 try simp only [pS]
 have HF : Hid (Fr No w _ [(gk1, 35, Hd.cells h), (gk3, 72, Ch.cells c), (gk5, 35, Hd.cells hdZ), (gk7, 35, Hd.cells ⟨h.b, h.k, slZ⟩)]) := HF.out.set 3 rfl _
 generalize wk8.setRow gk7 (Hd.cells ⟨h.b, h.k, slZ⟩) = wk9 at HF ⊢
 refine WL.nil ?_
 try simp only [pS]
 go_upto_region 2 with fail
 refine WL.start ?_
 refine tK (.pointer (some ⟨gk3, 0, none⟩)) ?_
 refine tK (.pointer (some ⟨gk3, 0, none⟩)) ?_
 refine tW (.int .i64 c.ky.k) (eL 3 _ rfl ⟨gk3, 0, none⟩ (load_one ((HF.out.box 1 _ _ _ rfl).cell 0 |>.trans (by kernel_rfl)) Try.und3 rfl)) ?_
 refine tW (.bool false) (eB .eql 3 _ _ _ rfl (.int .i64 c.ky.k) (.int .i64 1) _ (by rw [b_eql, hk1]; try rfl)) ?_
 try simp only [pS]
 refine WL.nil ?_
 try simp only [pS]
 go_upto_region 6 with fail
 refine WL.start ?_
 refine tK (.pointer (some ⟨gk3, 0, none⟩)) ?_
 refine tK (.pointer (some ⟨gk3, 0, none⟩)) ?_
 refine tW (.int .i64 c.ky.k) (eL 3 _ rfl ⟨gk3, 0, none⟩ (load_one ((HF.out.box 1 _ _ _ rfl).cell 0 |>.trans (by kernel_rfl)) Try.und3 rfl)) ?_
 refine tW (.bool true) (eB .eql 3 _ _ _ rfl (.int .i64 c.ky.k) (.int .i64 2) _ (by rw [b_eql, hk2]; try rfl)) ?_
 refine tK (.bool true) ?_
 try simp only [pS]
 refine WL.nil ?_
 try simp only [pS]
 go_upto_region 7 with fail
 refine WL.start ?_
 refine tK (.bool true) ?_
 try simp only [pS]
 refine WL.nil ?_
 try simp only [pS]
 go_upto_region 8 with fail
 refine WL.start ?_
 refine tK (.pointer (some ⟨gk3, 21, none⟩)) ?_
 refine tW (.agg (Bv.cells c.bk)) (eL 32 _ rfl ⟨gk3, 21, none⟩ (run_load_part (cs := Ch.cs c) (sub := Bv.cs c.bk) (HF.out.box 1 _ _ _ rfl) (part_of (by kernel_rfl)) Try.und32 rfl Try.size32)) ?_
 refine tK (.pointer (some ⟨gk7, 3, none⟩)) ?_
 try simp only [pS]
 refine wp_storeW 32 _ _ rfl ⟨gk7, 3, none⟩ (.agg (Bv.cells c.bk)) (by kernel_rfl) (by kernel_rfl) (wk9.setRow gk7 (Hd.cells ⟨h.b, c.bk, slZ⟩)) (run_store_to (cur := Hd.cs ⟨h.b, h.k, slZ⟩) (vs := Bv.cs c.bk) (new := Hd.cs ⟨h.b, c.bk, slZ⟩) (HF.out.box 3 _ _ _ rfl) (by kernel_rfl) Try.size32 (Nat.le_of_ble_eq_true (by kernel_rfl)) (Bv.oneL _) (by kernel_rfl)) (by kernel_rfl) ?_
 try simp only [pS]
 have HF : Hid (Fr No w _ [(gk1, 35, Hd.cells h), (gk3, 72, Ch.cells c), (gk5, 35, Hd.cells hdZ), (gk7, 35, Hd.cells ⟨h.b, c.bk, slZ⟩)]) := HF.out.set 3 rfl _
 generalize wk9.setRow gk7 (Hd.cells ⟨h.b, c.bk, slZ⟩) = wk10 at HF ⊢
 refine WL.nil ?_
 try simp only [pS]
 go_upto_region 9 with fail
 refine WL.start ?_
 refine tK (.int .i64 0) ?_
 try simp only [pS]
 refine WL.nil ?_
 try simp only [pS]
 go_wp2
 go_loopw [6, 7, 8] (fun v6 v7 v8 wr => ∃ (i : Nat) (sa : Option Addr) (sn sc : Nat) (out : List Pl), v6 = .bool true ∧ v7 = .int .i64 ((i : Nat) : Int) ∧ i ≤ h.r.l ∧ sn ≤ i ∧ Hid (out ++ (ps.drop i).filter (fun x => decide (c.bk.up < x.n)) = (ps.filter (fun x => decide (c.bk.up < x.n)))) ∧ Hid (OwR wr w.heap.size ⟨sa, sn, sc⟩ out) ∧ Hid (Fr No w wr [(gk1, 35, Hd.cells h), (gk3, 72, Ch.cells c), (gk5, 35, Hd.cells hdZ), (gk7, 35, Hd.cells ⟨h.b, c.bk, ⟨sa, sn, sc⟩⟩)])) (fun _ i _ _ => h.r.l - (intOf i).toNat)
 case atStart => exact ⟨0, none, 0, 0, [], rfl, by go_num, by omega, by omega, show [] ++ (ps.drop 0).filter _ = _ from by simp, ⟨Own.nil _ _ _ _, rfl⟩, HF⟩
 case round =>
  clear HF
  obtain ⟨i, sa, sn, sc, out, rfl, rfl, hi, hsn, HP, HO, HF⟩ := hrel
  by_cases hlt : i < h.r.l
  · skip
    obtain ⟨pb, po, hcx⟩ := HR.out.at (i := i) hlt
    have hca := hcx.1
    have hsl : Hid (h.r.v = .slice (some ⟨pb, po, none⟩) h.r.l h.r.k) := by show h.r.v = _; unfold Sl.v; rw [hca]
    have hdr := drop_at (ps := ps) (i := i) (by rw [HL.out]; exact hlt)
    have hcc := hcx.2
    have hmem : pAt ps i ∈ ps := List.mem_of_getElem? (pAt_some (by rw [HL.out]; exact hlt))
    obtain ⟨x, hx⟩ : ∃ x, x = pAt ps i := ⟨_, rfl⟩
    rw [← hx] at hcc hdr hmem
    have HX : Hid (ps.drop i = x :: ps.drop (i + 1)) := hdr
    have HME : Hid (x ∈ ps) := hmem
    have cx : Hid (∀ (j : Nat) v, (Pl.cs x)[j]? = some v → w.cell? ⟨pb, po + i * 15 + j, none⟩ = some v) := hcc
    clear hcx hca hcc hdr hx hmem
    go_upto_region 10 with fail
    refine WL.start ?_
    refine tK (.int .i64 ((i : Nat) : Int)) ?_
    refine tK (.pointer (some ⟨gk1, 6, none⟩)) ?_
    refine tW (h.r.v) (eL 33 _ rfl ⟨gk1, 6, none⟩ (load_one ((HF.out.box 0 _ _ _ rfl).cell 6 |>.trans (by kernel_rfl)) Try.und33 rfl)) ?_
    refine tK (.int .i64 ((h.r.l : Nat) : Int)) ?_
    refine tW (.bool true) (eB .lss 3 _ _ _ rfl (.int .i64 ((i : Nat) : Int)) (.int .i64 ((h.r.l : Nat) : Int)) _ (by rw [b_lss, decide_eq_true (by omega)])) ?_
    try simp only [pS]
    refine WL.nil ?_
    try simp only [pS]
    go_upto_region 12 with fail
    refine WL.start ?_
    refine tK (.pointer (some ⟨gk1, 6, none⟩)) ?_
    refine tW (h.r.v) (eL 33 _ rfl ⟨gk1, 6, none⟩ (load_one ((HF.out.box 0 _ _ _ rfl).cell 6 |>.trans (by kernel_rfl)) Try.und33 rfl)) ?_
    refine tK (.int .i64 ((i : Nat) : Int)) ?_
    refine tW (.pointer (some ⟨pb, po + i * 15, none⟩)) (exec_ixA 33 15 Try.und33e Try.size33e _ _ rfl pb po h.r.l h.r.k i (Eq.trans (b := h.r.v) (by kernel_rfl) hsl.out) (by kernel_rfl) hlt) ?_
    refine tW (.agg (Pl.cells x)) (eL 89 _ rfl ⟨pb, po + i * 15, none⟩ (load_cells (it := Pl.cs x) (fun j v hv => HF.out.kept.cell (cx.out j v hv) (fun e => e)) Try.und89 rfl Try.size89)) ?_
    try simp only [pS]
    refine wp_runW (.pointer (some ⟨wr.heap.size, 0, none⟩)) (wr.alloc (.cells (Pl.cells plZ) 89)) (exec_alloc 89 rfl (Pl.cells plZ) zero89) (by kernel_rfl) ?_
    try simp only [pS]
    have hx8 : Hid (¬ At sa wr.heap.size) := show ¬ At sa wr.heap.size from fun e => Nat.lt_irrefl _ (HO.out.own.lt e)
    have HO : Hid (OwR (wr.alloc (.cells (Pl.cells plZ) 89)) w.heap.size ⟨sa, sn, sc⟩ (out)) := HO.out.no ((Kept.refl No _).alloc _)
    have HF : Hid (Fr No w _ [(gk1, 35, Hd.cells h), (gk3, 72, Ch.cells c), (gk5, 35, Hd.cells hdZ), (gk7, 35, Hd.cells ⟨h.b, c.bk, ⟨sa, sn, sc⟩⟩), (wr.heap.size, 89, Pl.cells plZ)]) := HF.out.alloc _ _
    generalize wr.alloc (.cells (Pl.cells plZ) 89) = wk12 at HF HO ⊢
    generalize wr.heap.size = gk11 at HF hx8 ⊢
    refine wp_storeW 89 _ _ rfl ⟨gk11, 0, none⟩ (.agg (Pl.cells x)) (by kernel_rfl) (by kernel_rfl) (wk12.setRow gk11 (Pl.cells x)) (run_store_to (cur := Pl.cs plZ) (vs := Pl.cs x) (new := Pl.cs x) (HF.out.box 4 _ _ _ rfl) (by kernel_rfl) Try.size89 (Nat.le_of_ble_eq_true (by kernel_rfl)) (Pl.oneL _) (by kernel_rfl)) (by kernel_rfl) ?_
    try simp only [pS]
    have HO : Hid (OwR (wk12.setRow gk11 (Pl.cells x)) w.heap.size ⟨sa, sn, sc⟩ (out)) := HO.out.kept (Kept.setRow _ _ _) (fun k h e => hx8.out ((show k = gk11 from e) ▸ h))
    have HF : Hid (Fr No w _ [(gk1, 35, Hd.cells h), (gk3, 72, Ch.cells c), (gk5, 35, Hd.cells hdZ), (gk7, 35, Hd.cells ⟨h.b, c.bk, ⟨sa, sn, sc⟩⟩), (gk11, 89, Pl.cells x)]) := HF.out.set 4 rfl _
    generalize wk12.setRow gk11 (Pl.cells x) = wk13 at HF HO ⊢
    refine WL.nil ?_
    try simp only [pS]
    go_upto_region 13 with fail
    refine WL.start ?_
    refine tK (.bool true) ?_
    refine tK (.bool false) ?_
    refine tK (.bool false) ?_
    refine sK ?_
    refine sK ?_
    refine sK ?_
    refine sK ?_
    refine sK ?_
    refine sK ?_
    refine tK (.bool false) ?_
    try simp only [pS]
    refine WL.nil ?_
    try simp only [pS]
    go_upto_region 17 with fail
    refine WL.start ?_
    refine tK (.pointer (some ⟨gk11, 0, none⟩)) ?_
    refine tW (.int .i64 x.n) (eL 3 _ rfl ⟨gk11, 0, none⟩ (load_one ((HF.out.box 4 _ _ _ rfl).cell 0 |>.trans (by kernel_rfl)) Try.und3 rfl)) ?_
    refine tK (.pointer (some ⟨gk7, 3, none⟩)) ?_
    refine tK (.pointer (some ⟨gk7, 3, none⟩)) ?_
    refine tW (.int .i64 c.bk.up) (eL 3 _ rfl ⟨gk7, 3, none⟩ (load_one ((HF.out.box 3 _ _ _ rfl).cell 3 |>.trans (by kernel_rfl)) Try.und3 rfl)) ?_
    try simp only [pS]
    cases q1 : (decide (c.bk.up < x.n))
    ·skip
     refine tW (.bool false) (eB .gtr 3 _ _ _ rfl (.int .i64 x.n) (.int .i64 c.bk.up) _ (by rw [b_gtr, q1]; try rfl)) ?_
     try simp only [pS]
     refine WL.nil ?_
     try simp only [pS]
     go_upto_region 11 with fail
     refine WL.start ?_
     refine tK (.int .i64 ((i : Nat) : Int)) ?_
     refine tW (.int .i64 (((i + 1) : Nat) : Int)) (eB .add 3 _ _ _ rfl (.int .i64 ((i : Nat) : Int)) (.int .i64 1) _ (b_addw _ _ _ (by rw [IntKind.wrap_i64]; omega) _)) ?_
     refine tK (.int .i64 (((i + 1) : Nat) : Int)) ?_
     try simp only [pS]
     refine WL.nil ?_
     try simp only [pS]
     have HF : Hid (Fr No w wk13 [(gk1, 35, Hd.cells h), (gk3, 72, Ch.cells c), (gk5, 35, Hd.cells hdZ), (gk7, 35, Hd.cells ⟨h.b, c.bk, ⟨sa, sn, sc⟩⟩)]) := (show Fr No w wk13 ([(gk1, 35, Hd.cells h), (gk3, 72, Ch.cells c), (gk5, 35, Hd.cells hdZ), (gk7, 35, Hd.cells ⟨h.b, c.bk, ⟨sa, sn, sc⟩⟩)] ++ [(gk11, 89, Pl.cells x)]) from HF.out).front
     have HP2 : Hid (out ++ (ps.drop (i + 1)).filter (fun x => decide (c.bk.up < x.n)) = (ps.filter (fun x => decide (c.bk.up < x.n)))) := by show _ = _; rw [← HP.out, HX.out, List.filter_cons, q1]; simp
     go_wp2
     go_roundw
     case rel => exact ⟨i + 1, sa, sn, sc, _, rfl, by go_num, by omega, by omega, HP2, HO, HF⟩
     case measure => simp [intOf]; omega
    ·skip
     refine tW (.bool true) (eB .gtr 3 _ _ _ rfl (.int .i64 x.n) (.int .i64 c.bk.up) _ (by rw [b_gtr, q1]; try rfl)) ?_
     try simp only [pS]
     refine WL.nil ?_
     try simp only [pS]
     go_upto_region 18 with fail
     refine WL.start ?_
     refine tK (.pointer (some ⟨gk7, 6, none⟩)) ?_
     refine tW (.slice sa sn sc) (eL 33 _ rfl ⟨gk7, 6, none⟩ (load_one ((HF.out.box 3 _ _ _ rfl).cell 6 |>.trans (by kernel_rfl)) Try.und33 rfl)) ?_
     refine tW (.agg (Pl.cells x)) (eL 89 _ rfl ⟨gk11, 0, none⟩ (run_load_part (cs := Pl.cs x) (sub := Pl.cs x) (HF.out.box 4 _ _ _ rfl) (Part.all _) Try.und89 rfl Try.size89)) ?_
     try simp only [pS]
     refine wp_runW (.slice (some ⟨wk13.heap.size, 0, none⟩) 1 1) (wk13.alloc (.cells (Pl.cells x) 89)) (exec_slice2 33 89 _ rfl (Pl.cells x) (.agg (Pl.cells x)) (by kernel_rfl) (by kernel_rfl)) (by kernel_rfl) ?_
     try simp only [pS]
     have HO : Hid (OwR (wk13.alloc (.cells (Pl.cells x) 89)) w.heap.size ⟨sa, sn, sc⟩ (out)) := HO.out.no ((Kept.refl No _).alloc _)
     have HF : Hid (Fr No w _ [(gk1, 35, Hd.cells h), (gk3, 72, Ch.cells c), (gk5, 35, Hd.cells hdZ), (gk7, 35, Hd.cells ⟨h.b, c.bk, ⟨sa, sn, sc⟩⟩), (gk11, 89, Pl.cells x), (wk13.heap.size, 89, Pl.cells x)]) := HF.out.alloc _ _
     generalize wk13.alloc (.cells (Pl.cells x) 89) = wk15 at HF HO ⊢
     generalize wk13.heap.size = gk14 at HF ⊢
     obtain ⟨sa1, cap1, wa1, hrun, hown, hk2, hat2⟩ := run_appN (w := wk15) 33 33 89 15 128 (.agg plZ.cells) Try.und33 Try.info89 rfl (by omega) w.heap.size sn sc sa (plL out) HO.out.own (some ⟨gk14, 0, none⟩) 1 1 (Pl.cs x) rfl (fun e => by cases e) (fun j u hj => ⟨_, rfl, by rw [addr_add, Nat.zero_add, (HF.out.box 5 _ _ _ rfl).cell]; exact cell_pl _ _ _ hj⟩) (Pl.oneL _) (by omega) (by omega) (by have := HF.out.kept.size; omega)
     have hO0 := HO.out.own
     have hO1 := HO.out.len
     refine wp_runW (.slice sa1 (sn + 1) cap1) wa1 (exec_appN _ _ 33 33 rfl _ _ (by kernel_rfl) (by kernel_rfl) hrun) (by kernel_rfl) ?_
     try simp only [pS]
     have hx9 : Hid (¬ At sa1 gk11) := show ¬ At sa1 gk11 from fun e => by
      rcases hat2 _ e with e | e
      · exact hx8.out e
      · have := (HF.out.box 4 _ _ _ rfl).lt; omega
     have HO : Hid (OwR wa1 w.heap.size ⟨sa1, sn + 1, cap1⟩ (out ++ [x])) := ⟨by rw [plL_app, plL_1]; exact hown, by simp at hO1 ⊢; omega⟩
     have HF : Hid (Fr No w wa1 [(gk1, 35, Hd.cells h), (gk3, 72, Ch.cells c), (gk5, 35, Hd.cells hdZ), (gk7, 35, Hd.cells ⟨h.b, c.bk, ⟨sa, sn, sc⟩⟩), (gk11, 89, Pl.cells x)]) := (show Fr No w wk15 ([(gk1, 35, Hd.cells h), (gk3, 72, Ch.cells c), (gk5, 35, Hd.cells hdZ), (gk7, 35, Hd.cells ⟨h.b, c.bk, ⟨sa, sn, sc⟩⟩), (gk11, 89, Pl.cells x)] ++ [(gk14, 89, Pl.cells x)]) from HF.out).front.app2 hO0 hk2 (by simp [hx8.out])
     clear hown hk2 hat2 hrun hO0 hO1 hx8
     have hx8 : Hid (¬ At sa1 gk11) := hx9
     clear hx9
     refine tK (.pointer (some ⟨gk7, 6, none⟩)) ?_
     try simp only [pS]
     refine wp_storeW 33 _ _ rfl ⟨gk7, 6, none⟩ (.slice sa1 (sn + 1) cap1) (by kernel_rfl) (by kernel_rfl) (wa1.setRow gk7 (Hd.cells ⟨h.b, c.bk, ⟨sa1, (sn + 1), cap1⟩⟩)) (run_store_to (cur := Hd.cs ⟨h.b, c.bk, ⟨sa, sn, sc⟩⟩) (vs := [.slice sa1 (sn + 1) cap1]) (new := Hd.cs ⟨h.b, c.bk, ⟨sa1, (sn + 1), cap1⟩⟩) (HF.out.box 3 _ _ _ rfl) (by kernel_rfl) Try.size33 (Nat.le_of_ble_eq_true (by kernel_rfl)) (by simp [Value.oneCell', Sl.v]) (by kernel_rfl)) (by kernel_rfl) ?_
     try simp only [pS]
     have HO : Hid (OwR (wa1.setRow gk7 (Hd.cells ⟨h.b, c.bk, ⟨sa1, (sn + 1), cap1⟩⟩)) w.heap.size ⟨sa1, (sn + 1), cap1⟩ (out ++ [x])) := HO.out.kept (Kept.setRow _ _ _) (fun k h e => (HO.out.own.notBox (HF.out.box 3 _ _ _ rfl) (by decide)) ((show k = gk7 from e) ▸ h))
     have HF : Hid (Fr No w _ [(gk1, 35, Hd.cells h), (gk3, 72, Ch.cells c), (gk5, 35, Hd.cells hdZ), (gk7, 35, Hd.cells ⟨h.b, c.bk, ⟨sa1, (sn + 1), cap1⟩⟩), (gk11, 89, Pl.cells x)]) := HF.out.set 3 rfl _
     generalize wa1.setRow gk7 (Hd.cells ⟨h.b, c.bk, ⟨sa1, (sn + 1), cap1⟩⟩) = wk16 at HF HO ⊢
     refine WL.nil ?_
     try simp only [pS]
     go_upto_region 11 with fail
     refine WL.start ?_
     refine tK (.int .i64 ((i : Nat) : Int)) ?_
     refine tW (.int .i64 (((i + 1) : Nat) : Int)) (eB .add 3 _ _ _ rfl (.int .i64 ((i : Nat) : Int)) (.int .i64 1) _ (b_addw _ _ _ (by rw [IntKind.wrap_i64]; omega) _)) ?_
     refine tK (.int .i64 (((i + 1) : Nat) : Int)) ?_
     try simp only [pS]
     refine WL.nil ?_
     try simp only [pS]
     have HF : Hid (Fr No w wk16 [(gk1, 35, Hd.cells h), (gk3, 72, Ch.cells c), (gk5, 35, Hd.cells hdZ), (gk7, 35, Hd.cells ⟨h.b, c.bk, ⟨sa1, (sn + 1), cap1⟩⟩)]) := (show Fr No w wk16 ([(gk1, 35, Hd.cells h), (gk3, 72, Ch.cells c), (gk5, 35, Hd.cells hdZ), (gk7, 35, Hd.cells ⟨h.b, c.bk, ⟨sa1, (sn + 1), cap1⟩⟩)] ++ [(gk11, 89, Pl.cells x)]) from HF.out).front
     have HP2 : Hid ((out ++ [x]) ++ (ps.drop (i + 1)).filter (fun x => decide (c.bk.up < x.n)) = (ps.filter (fun x => decide (c.bk.up < x.n)))) := by show _ = _; rw [← HP.out, HX.out, List.filter_cons, q1]; simp
     go_wp2
     go_roundw
     case rel => exact ⟨i + 1, sa1, (sn + 1), cap1, _, rfl, by go_num, by omega, by omega, HP2, HO, HF⟩
     case measure => simp [intOf]; omega
  · skip
    go_upto_region 10 with fail
    refine WL.start ?_
    refine tK (.int .i64 ((i : Nat) : Int)) ?_
    refine tK (.pointer (some ⟨gk1, 6, none⟩)) ?_
    refine tW (h.r.v) (eL 33 _ rfl ⟨gk1, 6, none⟩ (load_one ((HF.out.box 0 _ _ _ rfl).cell 6 |>.trans (by kernel_rfl)) Try.und33 rfl)) ?_
    refine tK (.int .i64 ((h.r.l : Nat) : Int)) ?_
    refine tW (.bool false) (eB .lss 3 _ _ _ rfl (.int .i64 ((i : Nat) : Int)) (.int .i64 ((h.r.l : Nat) : Int)) _ (by rw [b_lss, decide_eq_false (by omega)])) ?_
    try simp only [pS]
    refine WL.nil ?_
    try simp only [pS]
    go_upto_region 19 with fail
    refine WL.start ?_
    refine tK (.bool true) ?_
    refine tK (.bool false) ?_
    try simp only [pS]
    refine WL.nil ?_
    try simp only [pS]
    go_upto_region 21 with fail
    refine WL.start ?_
    refine tW (.agg (Hd.cells ⟨h.b, c.bk, ⟨sa, sn, sc⟩⟩)) (eL 35 _ rfl ⟨gk7, 0, none⟩ (run_load_part (cs := Hd.cs ⟨h.b, c.bk, ⟨sa, sn, sc⟩⟩) (sub := Hd.cs ⟨h.b, c.bk, ⟨sa, sn, sc⟩⟩) (HF.out.box 3 _ _ _ rfl) (Part.all _) Try.und35 rfl Try.size35)) ?_
    try simp only [pS]
    refine wp_storeW 35 _ _ rfl ⟨gk5, 0, none⟩ (.agg (Hd.cells ⟨h.b, c.bk, ⟨sa, sn, sc⟩⟩)) (by kernel_rfl) (by kernel_rfl) (wr.setRow gk5 (Hd.cells ⟨h.b, c.bk, ⟨sa, sn, sc⟩⟩)) (run_store_to (cur := Hd.cs hdZ) (vs := Hd.cs ⟨h.b, c.bk, ⟨sa, sn, sc⟩⟩) (new := Hd.cs ⟨h.b, c.bk, ⟨sa, sn, sc⟩⟩) (HF.out.box 2 _ _ _ rfl) (by kernel_rfl) Try.size35 (Nat.le_of_ble_eq_true (by kernel_rfl)) (Hd.oneL _) (by kernel_rfl)) (by kernel_rfl) ?_
    try simp only [pS]
    have HO : Hid (OwR (wr.setRow gk5 (Hd.cells ⟨h.b, c.bk, ⟨sa, sn, sc⟩⟩)) w.heap.size ⟨sa, sn, sc⟩ (out)) := HO.out.kept (Kept.setRow _ _ _) (fun k h e => (HO.out.own.notBox (HF.out.box 2 _ _ _ rfl) (by decide)) ((show k = gk5 from e) ▸ h))
    have HF : Hid (Fr No w _ [(gk1, 35, Hd.cells h), (gk3, 72, Ch.cells c), (gk5, 35, Hd.cells ⟨h.b, c.bk, ⟨sa, sn, sc⟩⟩), (gk7, 35, Hd.cells ⟨h.b, c.bk, ⟨sa, sn, sc⟩⟩)]) := HF.out.set 2 rfl _
    generalize wr.setRow gk5 (Hd.cells ⟨h.b, c.bk, ⟨sa, sn, sc⟩⟩) = wk17 at HF HO ⊢
    refine WL.nil ?_
    try simp only [pS]
    go_wp2
    rw [HC.out]
    refine bodyPost_ret (results_row1 (by rfl) _ _ gk5 (Hd.cells ⟨h.b, c.bk, ⟨sa, sn, sc⟩⟩) (by rfl) (run_load_part (cs := Hd.cs ⟨h.b, c.bk, ⟨sa, sn, sc⟩⟩) (sub := Hd.cs ⟨h.b, c.bk, ⟨sa, sn, sc⟩⟩) (HF.out.box 2 _ _ _ rfl) (Part.all _) Try.und35 rfl Try.size35)) rfl ?_
    exact ⟨⟨sa, sn, sc⟩, rfl, (by have := HP.out; rw [List.drop_of_length_le (by rw [HL.out]; omega)] at this; rw [← this]; simpa using HO.out), HF.out.kept⟩
set_option maxRecDepth 100000 in
set_option maxHeartbeats 4000000 in
theorem laid_inst (h : Hd) (c : Ch) (ps : List Pl) (w : World) (hk1 : (c.ky.k == 1) = false) (hk2 : (c.ky.k == 2) = false) (hr : RdP w h.r ps) (hm : ps.length ≤ 1048577) (hg : ∀ x ∈ ps, h.k.up < x.n) : Calls Try.prog 24 #[.agg (Hd.cells h), .agg (Ch.cells c)] w (fun e w' => ∃ s' : Sl, e = .returned (.agg (Hd.cells ⟨h.b, h.k, s'⟩)) ∧ OwR w' w.heap.size s' (insP c.ky.b c.i ps) ∧ Kept No w w') := by
 obtain ⟨C, hC⟩ : ∃ C : Ending → World → Prop, C = (fun e w' => ∃ s' : Sl, e = .returned (.agg (Hd.cells ⟨h.b, h.k, s'⟩)) ∧ OwR w' w.heap.size s' (insP c.ky.b c.i ps) ∧ Kept No w w') := ⟨_, rfl⟩
 have HC : Hid (C = (fun e w' => ∃ s' : Sl, e = .returned (.agg (Hd.cells ⟨h.b, h.k, s'⟩)) ∧ OwR w' w.heap.size s' (insP c.ky.b c.i ps) ∧ Kept No w w')) := hC
 rw [← hC]
 clear hC
 have HR : Hid (RdP w h.r ps) := hr
 have HL : Hid (ps.length = h.r.l) := hr.len
 have hn : h.r.l ≤ 1048577 := by rw [← hr.len]; exact hm
 clear hr hm
 have HF : Hid (Fr No w w []) := Fr.start _ _
 go_enter Try.func24, Try.ntmps24
 go_upto_region 0 with fail
 refine WL.start ?_
 refine wp_runW (.pointer (some ⟨w.heap.size, 0, none⟩)) (w.alloc (.cells (Hd.cells h) 35)) (exec_box 35 _ rfl (Hd.cells h) (by kernel_rfl)) (by kernel_rfl) ?_
 try simp only [pS]
 have HF : Hid (Fr No w _ [(w.heap.size, 35, Hd.cells h)]) := HF.out.alloc _ _
 generalize w.alloc (.cells (Hd.cells h) 35) = wk2 at HF ⊢
 generalize w.heap.size = gk1 at HF ⊢
 refine wp_runW (.pointer (some ⟨wk2.heap.size, 0, none⟩)) (wk2.alloc (.cells (Ch.cells c) 72)) (exec_box 72 _ rfl (Ch.cells c) (by kernel_rfl)) (by kernel_rfl) ?_
 try simp only [pS]
 have HF : Hid (Fr No w _ [(gk1, 35, Hd.cells h), (wk2.heap.size, 72, Ch.cells c)]) := HF.out.alloc _ _
 generalize wk2.alloc (.cells (Ch.cells c) 72) = wk4 at HF ⊢
 generalize wk2.heap.size = gk3 at HF ⊢
 refine wp_runW (.pointer (some ⟨wk4.heap.size, 0, none⟩)) (wk4.alloc (.cells (Hd.cells hdZ) 35)) (exec_alloc 35 rfl (Hd.cells hdZ) zero35) (by kernel_rfl) ?_
 try simp only [pS]
 have HF : Hid (Fr No w _ [(gk1, 35, Hd.cells h), (gk3, 72, Ch.cells c), (wk4.heap.size, 35, Hd.cells hdZ)]) := HF.out.alloc _ _
 generalize wk4.alloc (.cells (Hd.cells hdZ) 35) = wk6 at HF ⊢
 generalize wk4.heap.size = gk5 at HF ⊢
 refine WL.nil ?_
 try simp only [pS]
 go_upto_region 1 with fail
 refine WL.start ?_
 refine tK (.pointer (some ⟨gk1, 0, none⟩)) ?_
 refine tW (.agg (Bl.cells h.b)) (eL 28 _ rfl ⟨gk1, 0, none⟩ (run_load_part (cs := Hd.cs h) (sub := Bl.cs h.b) (HF.out.box 0 _ _ _ rfl) (part_of (by kernel_rfl)) Try.und28 rfl Try.size28)) ?_
 refine tK (.pointer (some ⟨gk1, 3, none⟩)) ?_
 refine tW (.agg (Bv.cells h.k)) (eL 32 _ rfl ⟨gk1, 3, none⟩ (run_load_part (cs := Hd.cs h) (sub := Bv.cs h.k) (HF.out.box 0 _ _ _ rfl) (part_of (by kernel_rfl)) Try.und32 rfl Try.size32)) ?_
 refine tW (.agg (Hd.cells ⟨h.b, h.k, slZ⟩)) (exec_build 35 _ rfl (Hd.cells ⟨h.b, h.k, slZ⟩) (by kernel_rfl)) ?_
 try simp only [pS]
 refine wp_runW (.pointer (some ⟨wk6.heap.size, 0, none⟩)) (wk6.alloc (.cells (Hd.cells hdZ) 35)) (exec_alloc 35 rfl (Hd.cells hdZ) zero35) (by kernel_rfl) ?_
 try simp only [pS]
 have HF : Hid (Fr No w _ [(gk1, 35, Hd.cells h), (gk3, 72, Ch.cells c), (gk5, 35, Hd.cells hdZ), (wk6.heap.size, 35, Hd.cells hdZ)]) := HF.out.alloc _ _
 generalize wk6.alloc (.cells (Hd.cells hdZ) 35) = wk8 at HF ⊢
 generalize wk6.heap.size = gk7 at HF ⊢
 refine wp_storeW 35 _ _ rfl ⟨gk7, 0, none⟩ (.agg (Hd.cells ⟨h.b, h.k, slZ⟩)) (by kernel_rfl) (by kernel_rfl) (wk8.setRow gk7 (Hd.cells ⟨h.b, h.k, slZ⟩)) (run_store_to (cur := Hd.cs hdZ) (vs := Hd.cs ⟨h.b, h.k, slZ⟩) (new := Hd.cs ⟨h.b, h.k, slZ⟩) (HF.out.box 3 _ _ _ rfl) (by kernel_rfl) Try.size35 (Nat.le_of_ble_eq_true (by kernel_rfl)) (Hd.oneL _) (by kernel_rfl)) (by kernel_rfl) ?_
 try simp only [pS]
 have HF : Hid (Fr No w _ [(gk1, 35, Hd.cells h), (gk3, 72, Ch.cells c), (gk5, 35, Hd.cells hdZ), (gk7, 35, Hd.cells ⟨h.b, h.k, slZ⟩)]) := HF.out.set 3 rfl _
 generalize wk8.setRow gk7 (Hd.cells ⟨h.b, h.k, slZ⟩) = wk9 at HF ⊢
 refine WL.nil ?_
 try simp only [pS]
 go_upto_region 2 with fail
 refine WL.start ?_
 refine tK (.pointer (some ⟨gk3, 0, none⟩)) ?_
 refine tK (.pointer (some ⟨gk3, 0, none⟩)) ?_
 refine tW (.int .i64 c.ky.k) (eL 3 _ rfl ⟨gk3, 0, none⟩ (load_one ((HF.out.box 1 _ _ _ rfl).cell 0 |>.trans (by kernel_rfl)) Try.und3 rfl)) ?_
 refine tW (.bool false) (eB .eql 3 _ _ _ rfl (.int .i64 c.ky.k) (.int .i64 1) _ (by rw [b_eql, hk1]; try rfl)) ?_
 try simp only [pS]
 refine WL.nil ?_
 try simp only [pS]
 go_upto_region 6 with fail
 refine WL.start ?_
 refine tK (.pointer (some ⟨gk3, 0, none⟩)) ?_
 refine tK (.pointer (some ⟨gk3, 0, none⟩)) ?_
 refine tW (.int .i64 c.ky.k) (eL 3 _ rfl ⟨gk3, 0, none⟩ (load_one ((HF.out.box 1 _ _ _ rfl).cell 0 |>.trans (by kernel_rfl)) Try.und3 rfl)) ?_
 refine tW (.bool false) (eB .eql 3 _ _ _ rfl (.int .i64 c.ky.k) (.int .i64 2) _ (by rw [b_eql, hk2]; try rfl)) ?_
 refine tK (.bool false) ?_
 try simp only [pS]
 refine WL.nil ?_
 try simp only [pS]
 go_upto_region 7 with fail
 refine WL.start ?_
 refine tK (.bool false) ?_
 try simp only [pS]
 refine WL.nil ?_
 try simp only [pS]
 go_upto_region 9 with fail
 refine WL.start ?_
 refine tK (.int .i64 0) ?_
 try simp only [pS]
 refine WL.nil ?_
 try simp only [pS]
 go_wp2
 go_loopw [6, 7, 8] (fun v6 v7 v8 wr => ∃ (i : Nat) (pl : Bool) (sa : Option Addr) (sn sc : Nat) (out : List Pl), v6 = .bool pl ∧ v7 = .int .i64 ((i : Nat) : Int) ∧ i ≤ h.r.l ∧ sn ≤ i + 1 ∧ (pl = false → sn ≤ i) ∧ Hid (out ++ (bif pl then ps.drop i else insP c.ky.b c.i (ps.drop i)) = insP c.ky.b c.i ps) ∧ Hid (OwR wr w.heap.size ⟨sa, sn, sc⟩ out) ∧ Hid (Fr No w wr [(gk1, 35, Hd.cells h), (gk3, 72, Ch.cells c), (gk5, 35, Hd.cells hdZ), (gk7, 35, Hd.cells ⟨h.b, h.k, ⟨sa, sn, sc⟩⟩)])) (fun _ i _ _ => h.r.l - (intOf i).toNat)
 case atStart => exact ⟨0, false, none, 0, 0, [], rfl, by go_num, by omega, by omega, fun _ => by omega, show [] ++ insP c.ky.b c.i (ps.drop 0) = _ from by simp, ⟨Own.nil _ _ _ _, rfl⟩, HF⟩
 case round =>
  clear HF
  obtain ⟨i, pl, sa, sn, sc, out, rfl, rfl, hi, hsn, hsf, HP, HO, HF⟩ := hrel
  by_cases hlt : i < h.r.l
  · skip
    obtain ⟨pb, po, hcx⟩ := HR.out.at (i := i) hlt
    have hca := hcx.1
    have hsl : Hid (h.r.v = .slice (some ⟨pb, po, none⟩) h.r.l h.r.k) := by show h.r.v = _; unfold Sl.v; rw [hca]
    have hdr := drop_at (ps := ps) (i := i) (by rw [HL.out]; exact hlt)
    have hcc := hcx.2
    have hmem : pAt ps i ∈ ps := List.mem_of_getElem? (pAt_some (by rw [HL.out]; exact hlt))
    obtain ⟨x, hx⟩ : ∃ x, x = pAt ps i := ⟨_, rfl⟩
    rw [← hx] at hcc hdr hmem
    have HX : Hid (ps.drop i = x :: ps.drop (i + 1)) := hdr
    have HME : Hid (x ∈ ps) := hmem
    have cx : Hid (∀ (j : Nat) v, (Pl.cs x)[j]? = some v → w.cell? ⟨pb, po + i * 15 + j, none⟩ = some v) := hcc
    clear hcx hca hcc hdr hx hmem
    have hgt : decide (h.k.up < x.n) = true := decide_eq_true (hg x HME.out)
    rcases pl with _ | _
    ·skip
     have hsf2 := hsf rfl
     go_upto_region 10 with fail
     refine WL.start ?_
     refine tK (.int .i64 ((i : Nat) : Int)) ?_
     refine tK (.pointer (some ⟨gk1, 6, none⟩)) ?_
     refine tW (h.r.v) (eL 33 _ rfl ⟨gk1, 6, none⟩ (load_one ((HF.out.box 0 _ _ _ rfl).cell 6 |>.trans (by kernel_rfl)) Try.und33 rfl)) ?_
     refine tK (.int .i64 ((h.r.l : Nat) : Int)) ?_
     refine tW (.bool true) (eB .lss 3 _ _ _ rfl (.int .i64 ((i : Nat) : Int)) (.int .i64 ((h.r.l : Nat) : Int)) _ (by rw [b_lss, decide_eq_true (by omega)])) ?_
     try simp only [pS]
     refine WL.nil ?_
     try simp only [pS]
     go_upto_region 12 with fail
     refine WL.start ?_
     refine tK (.pointer (some ⟨gk1, 6, none⟩)) ?_
     refine tW (h.r.v) (eL 33 _ rfl ⟨gk1, 6, none⟩ (load_one ((HF.out.box 0 _ _ _ rfl).cell 6 |>.trans (by kernel_rfl)) Try.und33 rfl)) ?_
     refine tK (.int .i64 ((i : Nat) : Int)) ?_
     refine tW (.pointer (some ⟨pb, po + i * 15, none⟩)) (exec_ixA 33 15 Try.und33e Try.size33e _ _ rfl pb po h.r.l h.r.k i (Eq.trans (b := h.r.v) (by kernel_rfl) hsl.out) (by kernel_rfl) hlt) ?_
     refine tW (.agg (Pl.cells x)) (eL 89 _ rfl ⟨pb, po + i * 15, none⟩ (load_cells (it := Pl.cs x) (fun j v hv => HF.out.kept.cell (cx.out j v hv) (fun e => e)) Try.und89 rfl Try.size89)) ?_
     try simp only [pS]
     refine wp_runW (.pointer (some ⟨wr.heap.size, 0, none⟩)) (wr.alloc (.cells (Pl.cells plZ) 89)) (exec_alloc 89 rfl (Pl.cells plZ) zero89) (by kernel_rfl) ?_
     try simp only [pS]
     have hx8 : Hid (¬ At sa wr.heap.size) := show ¬ At sa wr.heap.size from fun e => Nat.lt_irrefl _ (HO.out.own.lt e)
     have HO : Hid (OwR (wr.alloc (.cells (Pl.cells plZ) 89)) w.heap.size ⟨sa, sn, sc⟩ (out)) := HO.out.no ((Kept.refl No _).alloc _)
     have HF : Hid (Fr No w _ [(gk1, 35, Hd.cells h), (gk3, 72, Ch.cells c), (gk5, 35, Hd.cells hdZ), (gk7, 35, Hd.cells ⟨h.b, h.k, ⟨sa, sn, sc⟩⟩), (wr.heap.size, 89, Pl.cells plZ)]) := HF.out.alloc _ _
     generalize wr.alloc (.cells (Pl.cells plZ) 89) = wk11 at HF HO ⊢
     generalize wr.heap.size = gk10 at HF hx8 ⊢
     refine wp_storeW 89 _ _ rfl ⟨gk10, 0, none⟩ (.agg (Pl.cells x)) (by kernel_rfl) (by kernel_rfl) (wk11.setRow gk10 (Pl.cells x)) (run_store_to (cur := Pl.cs plZ) (vs := Pl.cs x) (new := Pl.cs x) (HF.out.box 4 _ _ _ rfl) (by kernel_rfl) Try.size89 (Nat.le_of_ble_eq_true (by kernel_rfl)) (Pl.oneL _) (by kernel_rfl)) (by kernel_rfl) ?_
     try simp only [pS]
     have HO : Hid (OwR (wk11.setRow gk10 (Pl.cells x)) w.heap.size ⟨sa, sn, sc⟩ (out)) := HO.out.kept (Kept.setRow _ _ _) (fun k h e => hx8.out ((show k = gk10 from e) ▸ h))
     have HF : Hid (Fr No w _ [(gk1, 35, Hd.cells h), (gk3, 72, Ch.cells c), (gk5, 35, Hd.cells hdZ), (gk7, 35, Hd.cells ⟨h.b, h.k, ⟨sa, sn, sc⟩⟩), (gk10, 89, Pl.cells x)]) := HF.out.set 4 rfl _
     generalize wk11.setRow gk10 (Pl.cells x) = wk12 at HF HO ⊢
     refine WL.nil ?_
     try simp only [pS]
     go_upto_region 13 with fail
     refine WL.start ?_
     refine tK (.bool false) ?_
     refine tK (.bool true) ?_
     refine tK (.bool true) ?_
     refine tK (.pointer (some ⟨gk10, 0, none⟩)) ?_
     refine tW (.int .i64 x.n) (eL 3 _ rfl ⟨gk10, 0, none⟩ (load_one ((HF.out.box 4 _ _ _ rfl).cell 0 |>.trans (by kernel_rfl)) Try.und3 rfl)) ?_
     refine tK (.pointer (some ⟨gk3, 0, none⟩)) ?_
     refine tK (.pointer (some ⟨gk3, 2, none⟩)) ?_
     refine tW (.int .i64 c.ky.b) (eL 3 _ rfl ⟨gk3, 2, none⟩ (load_one ((HF.out.box 1 _ _ _ rfl).cell 2 |>.trans (by kernel_rfl)) Try.und3 rfl)) ?_
     try simp only [pS]
     cases q1 : (decide (c.ky.b ≤ x.n))
     ·skip
      refine tW (.bool false) (eB .geq 3 _ _ _ rfl (.int .i64 x.n) (.int .i64 c.ky.b) _ (by rw [b_geq, q1]; try rfl)) ?_
      refine tK (.bool false) ?_
      try simp only [pS]
      refine WL.nil ?_
      try simp only [pS]
      go_upto_region 17 with fail
      refine WL.start ?_
      refine tK (.pointer (some ⟨gk10, 0, none⟩)) ?_
      refine tW (.int .i64 x.n) (eL 3 _ rfl ⟨gk10, 0, none⟩ (load_one ((HF.out.box 4 _ _ _ rfl).cell 0 |>.trans (by kernel_rfl)) Try.und3 rfl)) ?_
      refine tK (.pointer (some ⟨gk7, 3, none⟩)) ?_
      refine tK (.pointer (some ⟨gk7, 3, none⟩)) ?_
      refine tW (.int .i64 h.k.up) (eL 3 _ rfl ⟨gk7, 3, none⟩ (load_one ((HF.out.box 3 _ _ _ rfl).cell 3 |>.trans (by kernel_rfl)) Try.und3 rfl)) ?_
      refine tW (.bool true) (eB .gtr 3 _ _ _ rfl (.int .i64 x.n) (.int .i64 h.k.up) _ (by rw [b_gtr, hgt]; try rfl)) ?_
      try simp only [pS]
      refine WL.nil ?_
      try simp only [pS]
      go_upto_region 18 with fail
      refine WL.start ?_
      refine tK (.pointer (some ⟨gk7, 6, none⟩)) ?_
      refine tW (.slice sa sn sc) (eL 33 _ rfl ⟨gk7, 6, none⟩ (load_one ((HF.out.box 3 _ _ _ rfl).cell 6 |>.trans (by kernel_rfl)) Try.und33 rfl)) ?_
      refine tW (.agg (Pl.cells x)) (eL 89 _ rfl ⟨gk10, 0, none⟩ (run_load_part (cs := Pl.cs x) (sub := Pl.cs x) (HF.out.box 4 _ _ _ rfl) (Part.all _) Try.und89 rfl Try.size89)) ?_
      try simp only [pS]
      refine wp_runW (.slice (some ⟨wk12.heap.size, 0, none⟩) 1 1) (wk12.alloc (.cells (Pl.cells x) 89)) (exec_slice2 33 89 _ rfl (Pl.cells x) (.agg (Pl.cells x)) (by kernel_rfl) (by kernel_rfl)) (by kernel_rfl) ?_
      try simp only [pS]
      have HO : Hid (OwR (wk12.alloc (.cells (Pl.cells x) 89)) w.heap.size ⟨sa, sn, sc⟩ (out)) := HO.out.no ((Kept.refl No _).alloc _)
      have HF : Hid (Fr No w _ [(gk1, 35, Hd.cells h), (gk3, 72, Ch.cells c), (gk5, 35, Hd.cells hdZ), (gk7, 35, Hd.cells ⟨h.b, h.k, ⟨sa, sn, sc⟩⟩), (gk10, 89, Pl.cells x), (wk12.heap.size, 89, Pl.cells x)]) := HF.out.alloc _ _
      generalize wk12.alloc (.cells (Pl.cells x) 89) = wk14 at HF HO ⊢
      generalize wk12.heap.size = gk13 at HF ⊢
      obtain ⟨sa1, cap1, wa1, hrun, hown, hk2, hat2⟩ := run_appN (w := wk14) 33 33 89 15 128 (.agg plZ.cells) Try.und33 Try.info89 rfl (by omega) w.heap.size sn sc sa (plL out) HO.out.own (some ⟨gk13, 0, none⟩) 1 1 (Pl.cs x) rfl (fun e => by cases e) (fun j u hj => ⟨_, rfl, by rw [addr_add, Nat.zero_add, (HF.out.box 5 _ _ _ rfl).cell]; exact cell_pl _ _ _ hj⟩) (Pl.oneL _) (by omega) (by omega) (by have := HF.out.kept.size; omega)
      have hO0 := HO.out.own
      have hO1 := HO.out.len
      refine wp_runW (.slice sa1 (sn + 1) cap1) wa1 (exec_appN _ _ 33 33 rfl _ _ (by kernel_rfl) (by kernel_rfl) hrun) (by kernel_rfl) ?_
      try simp only [pS]
      have hx9 : Hid (¬ At sa1 gk10) := show ¬ At sa1 gk10 from fun e => by
       rcases hat2 _ e with e | e
       · exact hx8.out e
       · have := (HF.out.box 4 _ _ _ rfl).lt; omega
      have HO : Hid (OwR wa1 w.heap.size ⟨sa1, sn + 1, cap1⟩ (out ++ [x])) := ⟨by rw [plL_app, plL_1]; exact hown, by simp at hO1 ⊢; omega⟩
      have HF : Hid (Fr No w wa1 [(gk1, 35, Hd.cells h), (gk3, 72, Ch.cells c), (gk5, 35, Hd.cells hdZ), (gk7, 35, Hd.cells ⟨h.b, h.k, ⟨sa, sn, sc⟩⟩), (gk10, 89, Pl.cells x)]) := (show Fr No w wk14 ([(gk1, 35, Hd.cells h), (gk3, 72, Ch.cells c), (gk5, 35, Hd.cells hdZ), (gk7, 35, Hd.cells ⟨h.b, h.k, ⟨sa, sn, sc⟩⟩), (gk10, 89, Pl.cells x)] ++ [(gk13, 89, Pl.cells x)]) from HF.out).front.app2 hO0 hk2 (by simp [hx8.out])
      clear hown hk2 hat2 hrun hO0 hO1 hx8
      have hx8 : Hid (¬ At sa1 gk10) := hx9
      clear hx9
      refine tK (.pointer (some ⟨gk7, 6, none⟩)) ?_
      try simp only [pS]
      refine wp_storeW 33 _ _ rfl ⟨gk7, 6, none⟩ (.slice sa1 (sn + 1) cap1) (by kernel_rfl) (by kernel_rfl) (wa1.setRow gk7 (Hd.cells ⟨h.b, h.k, ⟨sa1, (sn + 1), cap1⟩⟩)) (run_store_to (cur := Hd.cs ⟨h.b, h.k, ⟨sa, sn, sc⟩⟩) (vs := [.slice sa1 (sn + 1) cap1]) (new := Hd.cs ⟨h.b, h.k, ⟨sa1, (sn + 1), cap1⟩⟩) (HF.out.box 3 _ _ _ rfl) (by kernel_rfl) Try.size33 (Nat.le_of_ble_eq_true (by kernel_rfl)) (by simp [Value.oneCell', Sl.v]) (by kernel_rfl)) (by kernel_rfl) ?_
      try simp only [pS]
      have HO : Hid (OwR (wa1.setRow gk7 (Hd.cells ⟨h.b, h.k, ⟨sa1, (sn + 1), cap1⟩⟩)) w.heap.size ⟨sa1, (sn + 1), cap1⟩ (out ++ [x])) := HO.out.kept (Kept.setRow _ _ _) (fun k h e => (HO.out.own.notBox (HF.out.box 3 _ _ _ rfl) (by decide)) ((show k = gk7 from e) ▸ h))
      have HF : Hid (Fr No w _ [(gk1, 35, Hd.cells h), (gk3, 72, Ch.cells c), (gk5, 35, Hd.cells hdZ), (gk7, 35, Hd.cells ⟨h.b, h.k, ⟨sa1, (sn + 1), cap1⟩⟩), (gk10, 89, Pl.cells x)]) := HF.out.set 3 rfl _
      generalize wa1.setRow gk7 (Hd.cells ⟨h.b, h.k, ⟨sa1, (sn + 1), cap1⟩⟩) = wk15 at HF HO ⊢
      refine WL.nil ?_
      try simp only [pS]
      go_upto_region 11 with fail
      refine WL.start ?_
      refine tK (.int .i64 ((i : Nat) : Int)) ?_
      refine tW (.int .i64 (((i + 1) : Nat) : Int)) (eB .add 3 _ _ _ rfl (.int .i64 ((i : Nat) : Int)) (.int .i64 1) _ (b_addw _ _ _ (by rw [IntKind.wrap_i64]; omega) _)) ?_
      refine tK (.int .i64 (((i + 1) : Nat) : Int)) ?_
      try simp only [pS]
      refine WL.nil ?_
      try simp only [pS]
      have HF : Hid (Fr No w wk15 [(gk1, 35, Hd.cells h), (gk3, 72, Ch.cells c), (gk5, 35, Hd.cells hdZ), (gk7, 35, Hd.cells ⟨h.b, h.k, ⟨sa1, (sn + 1), cap1⟩⟩)]) := (show Fr No w wk15 ([(gk1, 35, Hd.cells h), (gk3, 72, Ch.cells c), (gk5, 35, Hd.cells hdZ), (gk7, 35, Hd.cells ⟨h.b, h.k, ⟨sa1, (sn + 1), cap1⟩⟩)] ++ [(gk10, 89, Pl.cells x)]) from HF.out).front
      have HP2 : Hid ((out ++ [x]) ++ insP c.ky.b c.i (ps.drop (i + 1)) = insP c.ky.b c.i ps) := by show _ = _; rw [← HP.out, HX.out]; show _ = out ++ (if c.ky.b ≤ x.n then _ else _); rw [if_neg (of_decide_eq_false q1)]; simp
      go_wp2
      go_roundw
      case rel => exact ⟨i + 1, false, sa1, (sn + 1), cap1, _, rfl, by go_num, by omega, by omega, (fun e => by omega), HP2, HO, HF⟩
      case measure => simp [intOf]; omega
     ·skip
      refine tW (.bool true) (eB .geq 3 _ _ _ rfl (.int .i64 x.n) (.int .i64 c.ky.b) _ (by rw [b_geq, q1]; try rfl)) ?_
      refine tK (.bool true) ?_
      try simp only [pS]
      refine WL.nil ?_
      try simp only [pS]
      go_upto_region 14 with fail
      refine WL.start ?_
      refine tK (.pointer (some ⟨gk7, 6, none⟩)) ?_
      refine tW (.slice sa sn sc) (eL 33 _ rfl ⟨gk7, 6, none⟩ (load_one ((HF.out.box 3 _ _ _ rfl).cell 6 |>.trans (by kernel_rfl)) Try.und33 rfl)) ?_
      refine tK (.pointer (some ⟨gk3, 0, none⟩)) ?_
      refine tK (.pointer (some ⟨gk3, 2, none⟩)) ?_
      refine tW (.int .i64 c.ky.b) (eL 3 _ rfl ⟨gk3, 2, none⟩ (load_one ((HF.out.box 1 _ _ _ rfl).cell 2 |>.trans (by kernel_rfl)) Try.und3 rfl)) ?_
      refine tK (.pointer (some ⟨gk3, 7, none⟩)) ?_
      refine tW (.agg (In.cells c.i)) (eL 70 _ rfl ⟨gk3, 7, none⟩ (run_load_part (cs := Ch.cs c) (sub := In.cs c.i) (HF.out.box 1 _ _ _ rfl) (part_of (by kernel_rfl)) Try.und70 rfl Try.size70)) ?_
      refine tW (.agg (Pl.cells ⟨c.ky.b, c.i⟩)) (exec_build 89 _ rfl (Pl.cells ⟨c.ky.b, c.i⟩) (by kernel_rfl)) ?_
      try simp only [pS]
      refine wp_runW (.slice (some ⟨wk12.heap.size, 0, none⟩) 1 1) (wk12.alloc (.cells (Pl.cells ⟨c.ky.b, c.i⟩) 89)) (exec_slice2 33 89 _ rfl (Pl.cells ⟨c.ky.b, c.i⟩) (.agg (Pl.cells ⟨c.ky.b, c.i⟩)) (by kernel_rfl) (by kernel_rfl)) (by kernel_rfl) ?_
      try simp only [pS]
      have HO : Hid (OwR (wk12.alloc (.cells (Pl.cells ⟨c.ky.b, c.i⟩) 89)) w.heap.size ⟨sa, sn, sc⟩ (out)) := HO.out.no ((Kept.refl No _).alloc _)
      have HF : Hid (Fr No w _ [(gk1, 35, Hd.cells h), (gk3, 72, Ch.cells c), (gk5, 35, Hd.cells hdZ), (gk7, 35, Hd.cells ⟨h.b, h.k, ⟨sa, sn, sc⟩⟩), (gk10, 89, Pl.cells x), (wk12.heap.size, 89, Pl.cells ⟨c.ky.b, c.i⟩)]) := HF.out.alloc _ _
      generalize wk12.alloc (.cells (Pl.cells ⟨c.ky.b, c.i⟩) 89) = wk17 at HF HO ⊢
      generalize wk12.heap.size = gk16 at HF ⊢
      obtain ⟨sa1, cap1, wa1, hrun, hown, hk2, hat2⟩ := run_appN (w := wk17) 33 33 89 15 128 (.agg plZ.cells) Try.und33 Try.info89 rfl (by omega) w.heap.size sn sc sa (plL out) HO.out.own (some ⟨gk16, 0, none⟩) 1 1 (Pl.cs ⟨c.ky.b, c.i⟩) rfl (fun e => by cases e) (fun j u hj => ⟨_, rfl, by rw [addr_add, Nat.zero_add, (HF.out.box 5 _ _ _ rfl).cell]; exact cell_pl _ _ _ hj⟩) (Pl.oneL _) (by omega) (by omega) (by have := HF.out.kept.size; omega)
      have hO0 := HO.out.own
      have hO1 := HO.out.len
      refine wp_runW (.slice sa1 (sn + 1) cap1) wa1 (exec_appN _ _ 33 33 rfl _ _ (by kernel_rfl) (by kernel_rfl) hrun) (by kernel_rfl) ?_
      try simp only [pS]
      have hx9 : Hid (¬ At sa1 gk10) := show ¬ At sa1 gk10 from fun e => by
       rcases hat2 _ e with e | e
       · exact hx8.out e
       · have := (HF.out.box 4 _ _ _ rfl).lt; omega
      have HO : Hid (OwR wa1 w.heap.size ⟨sa1, sn + 1, cap1⟩ (out ++ [⟨c.ky.b, c.i⟩])) := ⟨by rw [plL_app, plL_1]; exact hown, by simp at hO1 ⊢; omega⟩
      have HF : Hid (Fr No w wa1 [(gk1, 35, Hd.cells h), (gk3, 72, Ch.cells c), (gk5, 35, Hd.cells hdZ), (gk7, 35, Hd.cells ⟨h.b, h.k, ⟨sa, sn, sc⟩⟩), (gk10, 89, Pl.cells x)]) := (show Fr No w wk17 ([(gk1, 35, Hd.cells h), (gk3, 72, Ch.cells c), (gk5, 35, Hd.cells hdZ), (gk7, 35, Hd.cells ⟨h.b, h.k, ⟨sa, sn, sc⟩⟩), (gk10, 89, Pl.cells x)] ++ [(gk16, 89, Pl.cells ⟨c.ky.b, c.i⟩)]) from HF.out).front.app2 hO0 hk2 (by simp [hx8.out])
      clear hown hk2 hat2 hrun hO0 hO1 hx8
      have hx8 : Hid (¬ At sa1 gk10) := hx9
      clear hx9
      refine tK (.pointer (some ⟨gk7, 6, none⟩)) ?_
      try simp only [pS]
      refine wp_storeW 33 _ _ rfl ⟨gk7, 6, none⟩ (.slice sa1 (sn + 1) cap1) (by kernel_rfl) (by kernel_rfl) (wa1.setRow gk7 (Hd.cells ⟨h.b, h.k, ⟨sa1, (sn + 1), cap1⟩⟩)) (run_store_to (cur := Hd.cs ⟨h.b, h.k, ⟨sa, sn, sc⟩⟩) (vs := [.slice sa1 (sn + 1) cap1]) (new := Hd.cs ⟨h.b, h.k, ⟨sa1, (sn + 1), cap1⟩⟩) (HF.out.box 3 _ _ _ rfl) (by kernel_rfl) Try.size33 (Nat.le_of_ble_eq_true (by kernel_rfl)) (by simp [Value.oneCell', Sl.v]) (by kernel_rfl)) (by kernel_rfl) ?_
      try simp only [pS]
      have HO : Hid (OwR (wa1.setRow gk7 (Hd.cells ⟨h.b, h.k, ⟨sa1, (sn + 1), cap1⟩⟩)) w.heap.size ⟨sa1, (sn + 1), cap1⟩ (out ++ [⟨c.ky.b, c.i⟩])) := HO.out.kept (Kept.setRow _ _ _) (fun k h e => (HO.out.own.notBox (HF.out.box 3 _ _ _ rfl) (by decide)) ((show k = gk7 from e) ▸ h))
      have HF : Hid (Fr No w _ [(gk1, 35, Hd.cells h), (gk3, 72, Ch.cells c), (gk5, 35, Hd.cells hdZ), (gk7, 35, Hd.cells ⟨h.b, h.k, ⟨sa1, (sn + 1), cap1⟩⟩), (gk10, 89, Pl.cells x)]) := HF.out.set 3 rfl _
      generalize wa1.setRow gk7 (Hd.cells ⟨h.b, h.k, ⟨sa1, (sn + 1), cap1⟩⟩) = wk18 at HF HO ⊢
      refine WL.nil ?_
      try simp only [pS]
      go_upto_region 15 with fail
      refine WL.start ?_
      refine tK (.bool true) ?_
      try simp only [pS]
      refine WL.nil ?_
      try simp only [pS]
      go_upto_region 16 with fail
      refine WL.start ?_
      refine tK (.pointer (some ⟨gk10, 0, none⟩)) ?_
      refine tW (.int .i64 x.n) (eL 3 _ rfl ⟨gk10, 0, none⟩ (load_one ((HF.out.box 4 _ _ _ rfl).cell 0 |>.trans (by kernel_rfl)) Try.und3 rfl)) ?_
      refine tK (.pointer (some ⟨gk3, 0, none⟩)) ?_
      refine tK (.pointer (some ⟨gk3, 2, none⟩)) ?_
      refine tW (.int .i64 c.ky.b) (eL 3 _ rfl ⟨gk3, 2, none⟩ (load_one ((HF.out.box 1 _ _ _ rfl).cell 2 |>.trans (by kernel_rfl)) Try.und3 rfl)) ?_
      try simp only [pS]
      cases q2 : (x.n == c.ky.b)
      ·skip
       refine tW (.bool false) (eB .eql 3 _ _ _ rfl (.int .i64 x.n) (.int .i64 c.ky.b) _ (by rw [b_eql, q2]; try rfl)) ?_
       try simp only [pS]
       refine WL.nil ?_
       try simp only [pS]
       go_upto_region 17 with fail
       refine WL.start ?_
       refine tK (.pointer (some ⟨gk10, 0, none⟩)) ?_
       refine tW (.int .i64 x.n) (eL 3 _ rfl ⟨gk10, 0, none⟩ (load_one ((HF.out.box 4 _ _ _ rfl).cell 0 |>.trans (by kernel_rfl)) Try.und3 rfl)) ?_
       refine tK (.pointer (some ⟨gk7, 3, none⟩)) ?_
       refine tK (.pointer (some ⟨gk7, 3, none⟩)) ?_
       refine tW (.int .i64 h.k.up) (eL 3 _ rfl ⟨gk7, 3, none⟩ (load_one ((HF.out.box 3 _ _ _ rfl).cell 3 |>.trans (by kernel_rfl)) Try.und3 rfl)) ?_
       refine tW (.bool true) (eB .gtr 3 _ _ _ rfl (.int .i64 x.n) (.int .i64 h.k.up) _ (by rw [b_gtr, hgt]; try rfl)) ?_
       try simp only [pS]
       refine WL.nil ?_
       try simp only [pS]
       go_upto_region 18 with fail
       refine WL.start ?_
       refine tK (.pointer (some ⟨gk7, 6, none⟩)) ?_
       refine tW (.slice sa1 (sn + 1) cap1) (eL 33 _ rfl ⟨gk7, 6, none⟩ (load_one ((HF.out.box 3 _ _ _ rfl).cell 6 |>.trans (by kernel_rfl)) Try.und33 rfl)) ?_
       refine tW (.agg (Pl.cells x)) (eL 89 _ rfl ⟨gk10, 0, none⟩ (run_load_part (cs := Pl.cs x) (sub := Pl.cs x) (HF.out.box 4 _ _ _ rfl) (Part.all _) Try.und89 rfl Try.size89)) ?_
       try simp only [pS]
       refine wp_runW (.slice (some ⟨wk18.heap.size, 0, none⟩) 1 1) (wk18.alloc (.cells (Pl.cells x) 89)) (exec_slice2 33 89 _ rfl (Pl.cells x) (.agg (Pl.cells x)) (by kernel_rfl) (by kernel_rfl)) (by kernel_rfl) ?_
       try simp only [pS]
       have HO : Hid (OwR (wk18.alloc (.cells (Pl.cells x) 89)) w.heap.size ⟨sa1, (sn + 1), cap1⟩ (out ++ [⟨c.ky.b, c.i⟩])) := HO.out.no ((Kept.refl No _).alloc _)
       have HF : Hid (Fr No w _ [(gk1, 35, Hd.cells h), (gk3, 72, Ch.cells c), (gk5, 35, Hd.cells hdZ), (gk7, 35, Hd.cells ⟨h.b, h.k, ⟨sa1, (sn + 1), cap1⟩⟩), (gk10, 89, Pl.cells x), (wk18.heap.size, 89, Pl.cells x)]) := HF.out.alloc _ _
       generalize wk18.alloc (.cells (Pl.cells x) 89) = wk20 at HF HO ⊢
       generalize wk18.heap.size = gk19 at HF ⊢
       obtain ⟨sa2, cap2, wa2, hrun, hown, hk2, hat2⟩ := run_appN (w := wk20) 33 33 89 15 128 (.agg plZ.cells) Try.und33 Try.info89 rfl (by omega) w.heap.size (sn + 1) cap1 sa1 (plL (out ++ [⟨c.ky.b, c.i⟩])) HO.out.own (some ⟨gk19, 0, none⟩) 1 1 (Pl.cs x) rfl (fun e => by cases e) (fun j u hj => ⟨_, rfl, by rw [addr_add, Nat.zero_add, (HF.out.box 5 _ _ _ rfl).cell]; exact cell_pl _ _ _ hj⟩) (Pl.oneL _) (by omega) (by omega) (by have := HF.out.kept.size; omega)
       have hO0 := HO.out.own
       have hO1 := HO.out.len
       refine wp_runW (.slice sa2 ((sn + 1) + 1) cap2) wa2 (exec_appN _ _ 33 33 rfl _ _ (by kernel_rfl) (by kernel_rfl) hrun) (by kernel_rfl) ?_
       try simp only [pS]
       have hx9 : Hid (¬ At sa2 gk10) := show ¬ At sa2 gk10 from fun e => by
        rcases hat2 _ e with e | e
        · exact hx8.out e
        · have := (HF.out.box 4 _ _ _ rfl).lt; omega
       have HO : Hid (OwR wa2 w.heap.size ⟨sa2, (sn + 1) + 1, cap2⟩ ((out ++ [⟨c.ky.b, c.i⟩]) ++ [x])) := ⟨by rw [plL_app, plL_1]; exact hown, by simp at hO1 ⊢; omega⟩
       have HF : Hid (Fr No w wa2 [(gk1, 35, Hd.cells h), (gk3, 72, Ch.cells c), (gk5, 35, Hd.cells hdZ), (gk7, 35, Hd.cells ⟨h.b, h.k, ⟨sa1, (sn + 1), cap1⟩⟩), (gk10, 89, Pl.cells x)]) := (show Fr No w wk20 ([(gk1, 35, Hd.cells h), (gk3, 72, Ch.cells c), (gk5, 35, Hd.cells hdZ), (gk7, 35, Hd.cells ⟨h.b, h.k, ⟨sa1, (sn + 1), cap1⟩⟩), (gk10, 89, Pl.cells x)] ++ [(gk19, 89, Pl.cells x)]) from HF.out).front.app2 hO0 hk2 (by simp [hx8.out])
       clear hown hk2 hat2 hrun hO0 hO1 hx8
       have hx8 : Hid (¬ At sa2 gk10) := hx9
       clear hx9
       refine tK (.pointer (some ⟨gk7, 6, none⟩)) ?_
       try simp only [pS]
       refine wp_storeW 33 _ _ rfl ⟨gk7, 6, none⟩ (.slice sa2 ((sn + 1) + 1) cap2) (by kernel_rfl) (by kernel_rfl) (wa2.setRow gk7 (Hd.cells ⟨h.b, h.k, ⟨sa2, ((sn + 1) + 1), cap2⟩⟩)) (run_store_to (cur := Hd.cs ⟨h.b, h.k, ⟨sa1, (sn + 1), cap1⟩⟩) (vs := [.slice sa2 ((sn + 1) + 1) cap2]) (new := Hd.cs ⟨h.b, h.k, ⟨sa2, ((sn + 1) + 1), cap2⟩⟩) (HF.out.box 3 _ _ _ rfl) (by kernel_rfl) Try.size33 (Nat.le_of_ble_eq_true (by kernel_rfl)) (by simp [Value.oneCell', Sl.v]) (by kernel_rfl)) (by kernel_rfl) ?_
       try simp only [pS]
       have HO : Hid (OwR (wa2.setRow gk7 (Hd.cells ⟨h.b, h.k, ⟨sa2, ((sn + 1) + 1), cap2⟩⟩)) w.heap.size ⟨sa2, ((sn + 1) + 1), cap2⟩ ((out ++ [⟨c.ky.b, c.i⟩]) ++ [x])) := HO.out.kept (Kept.setRow _ _ _) (fun k h e => (HO.out.own.notBox (HF.out.box 3 _ _ _ rfl) (by decide)) ((show k = gk7 from e) ▸ h))
       have HF : Hid (Fr No w _ [(gk1, 35, Hd.cells h), (gk3, 72, Ch.cells c), (gk5, 35, Hd.cells hdZ), (gk7, 35, Hd.cells ⟨h.b, h.k, ⟨sa2, ((sn + 1) + 1), cap2⟩⟩), (gk10, 89, Pl.cells x)]) := HF.out.set 3 rfl _
       generalize wa2.setRow gk7 (Hd.cells ⟨h.b, h.k, ⟨sa2, ((sn + 1) + 1), cap2⟩⟩) = wk21 at HF HO ⊢
       refine WL.nil ?_
       try simp only [pS]
       go_upto_region 11 with fail
       refine WL.start ?_
       refine tK (.int .i64 ((i : Nat) : Int)) ?_
       refine tW (.int .i64 (((i + 1) : Nat) : Int)) (eB .add 3 _ _ _ rfl (.int .i64 ((i : Nat) : Int)) (.int .i64 1) _ (b_addw _ _ _ (by rw [IntKind.wrap_i64]; omega) _)) ?_
       refine tK (.int .i64 (((i + 1) : Nat) : Int)) ?_
       try simp only [pS]
       refine WL.nil ?_
       try simp only [pS]
       have HF : Hid (Fr No w wk21 [(gk1, 35, Hd.cells h), (gk3, 72, Ch.cells c), (gk5, 35, Hd.cells hdZ), (gk7, 35, Hd.cells ⟨h.b, h.k, ⟨sa2, ((sn + 1) + 1), cap2⟩⟩)]) := (show Fr No w wk21 ([(gk1, 35, Hd.cells h), (gk3, 72, Ch.cells c), (gk5, 35, Hd.cells hdZ), (gk7, 35, Hd.cells ⟨h.b, h.k, ⟨sa2, ((sn + 1) + 1), cap2⟩⟩)] ++ [(gk10, 89, Pl.cells x)]) from HF.out).front
       have HP2 : Hid (((out ++ [⟨c.ky.b, c.i⟩]) ++ [x]) ++ ps.drop (i + 1) = insP c.ky.b c.i ps) := by show _ = _; rw [← HP.out, HX.out]; show _ = out ++ (if c.ky.b ≤ x.n then (if x.n = c.ky.b then _ else _) else _); rw [if_pos (of_decide_eq_true q1), if_neg (by simpa using q2)]; simp
       go_wp2
       go_roundw
       case rel => exact ⟨i + 1, true, sa2, ((sn + 1) + 1), cap2, _, rfl, by go_num, by omega, by omega, (fun e => by cases e), HP2, HO, HF⟩
       case measure => simp [intOf]; omega
      ·skip
       refine tW (.bool true) (eB .eql 3 _ _ _ rfl (.int .i64 x.n) (.int .i64 c.ky.b) _ (by rw [b_eql, q2]; try rfl)) ?_
       try simp only [pS]
       refine WL.nil ?_
       try simp only [pS]
       go_upto_region 11 with fail
       refine WL.start ?_
       refine tK (.int .i64 ((i : Nat) : Int)) ?_
       refine tW (.int .i64 (((i + 1) : Nat) : Int)) (eB .add 3 _ _ _ rfl (.int .i64 ((i : Nat) : Int)) (.int .i64 1) _ (b_addw _ _ _ (by rw [IntKind.wrap_i64]; omega) _)) ?_
       refine tK (.int .i64 (((i + 1) : Nat) : Int)) ?_
       try simp only [pS]
       refine WL.nil ?_
       try simp only [pS]
       have HF : Hid (Fr No w wk18 [(gk1, 35, Hd.cells h), (gk3, 72, Ch.cells c), (gk5, 35, Hd.cells hdZ), (gk7, 35, Hd.cells ⟨h.b, h.k, ⟨sa1, (sn + 1), cap1⟩⟩)]) := (show Fr No w wk18 ([(gk1, 35, Hd.cells h), (gk3, 72, Ch.cells c), (gk5, 35, Hd.cells hdZ), (gk7, 35, Hd.cells ⟨h.b, h.k, ⟨sa1, (sn + 1), cap1⟩⟩)] ++ [(gk10, 89, Pl.cells x)]) from HF.out).front
       have HP2 : Hid ((out ++ [⟨c.ky.b, c.i⟩]) ++ ps.drop (i + 1) = insP c.ky.b c.i ps) := by show _ = _; rw [← HP.out, HX.out]; show _ = out ++ (if c.ky.b ≤ x.n then (if x.n = c.ky.b then _ else _) else _); rw [if_pos (of_decide_eq_true q1), if_pos (by simpa using q2)]; simp
       go_wp2
       go_roundw
       case rel => exact ⟨i + 1, true, sa1, (sn + 1), cap1, _, rfl, by go_num, by omega, by omega, (fun e => by cases e), HP2, HO, HF⟩
       case measure => simp [intOf]; omega
    ·skip
     go_upto_region 10 with fail
     refine WL.start ?_
     refine tK (.int .i64 ((i : Nat) : Int)) ?_
     refine tK (.pointer (some ⟨gk1, 6, none⟩)) ?_
     refine tW (h.r.v) (eL 33 _ rfl ⟨gk1, 6, none⟩ (load_one ((HF.out.box 0 _ _ _ rfl).cell 6 |>.trans (by kernel_rfl)) Try.und33 rfl)) ?_
     refine tK (.int .i64 ((h.r.l : Nat) : Int)) ?_
     refine tW (.bool true) (eB .lss 3 _ _ _ rfl (.int .i64 ((i : Nat) : Int)) (.int .i64 ((h.r.l : Nat) : Int)) _ (by rw [b_lss, decide_eq_true (by omega)])) ?_
     try simp only [pS]
     refine WL.nil ?_
     try simp only [pS]
     go_upto_region 12 with fail
     refine WL.start ?_
     refine tK (.pointer (some ⟨gk1, 6, none⟩)) ?_
     refine tW (h.r.v) (eL 33 _ rfl ⟨gk1, 6, none⟩ (load_one ((HF.out.box 0 _ _ _ rfl).cell 6 |>.trans (by kernel_rfl)) Try.und33 rfl)) ?_
     refine tK (.int .i64 ((i : Nat) : Int)) ?_
     refine tW (.pointer (some ⟨pb, po + i * 15, none⟩)) (exec_ixA 33 15 Try.und33e Try.size33e _ _ rfl pb po h.r.l h.r.k i (Eq.trans (b := h.r.v) (by kernel_rfl) hsl.out) (by kernel_rfl) hlt) ?_
     refine tW (.agg (Pl.cells x)) (eL 89 _ rfl ⟨pb, po + i * 15, none⟩ (load_cells (it := Pl.cs x) (fun j v hv => HF.out.kept.cell (cx.out j v hv) (fun e => e)) Try.und89 rfl Try.size89)) ?_
     try simp only [pS]
     refine wp_runW (.pointer (some ⟨wr.heap.size, 0, none⟩)) (wr.alloc (.cells (Pl.cells plZ) 89)) (exec_alloc 89 rfl (Pl.cells plZ) zero89) (by kernel_rfl) ?_
     try simp only [pS]
     have hx8 : Hid (¬ At sa wr.heap.size) := show ¬ At sa wr.heap.size from fun e => Nat.lt_irrefl _ (HO.out.own.lt e)
     have HO : Hid (OwR (wr.alloc (.cells (Pl.cells plZ) 89)) w.heap.size ⟨sa, sn, sc⟩ (out)) := HO.out.no ((Kept.refl No _).alloc _)
     have HF : Hid (Fr No w _ [(gk1, 35, Hd.cells h), (gk3, 72, Ch.cells c), (gk5, 35, Hd.cells hdZ), (gk7, 35, Hd.cells ⟨h.b, h.k, ⟨sa, sn, sc⟩⟩), (wr.heap.size, 89, Pl.cells plZ)]) := HF.out.alloc _ _
     generalize wr.alloc (.cells (Pl.cells plZ) 89) = wk23 at HF HO ⊢
     generalize wr.heap.size = gk22 at HF hx8 ⊢
     refine wp_storeW 89 _ _ rfl ⟨gk22, 0, none⟩ (.agg (Pl.cells x)) (by kernel_rfl) (by kernel_rfl) (wk23.setRow gk22 (Pl.cells x)) (run_store_to (cur := Pl.cs plZ) (vs := Pl.cs x) (new := Pl.cs x) (HF.out.box 4 _ _ _ rfl) (by kernel_rfl) Try.size89 (Nat.le_of_ble_eq_true (by kernel_rfl)) (Pl.oneL _) (by kernel_rfl)) (by kernel_rfl) ?_
     try simp only [pS]
     have HO : Hid (OwR (wk23.setRow gk22 (Pl.cells x)) w.heap.size ⟨sa, sn, sc⟩ (out)) := HO.out.kept (Kept.setRow _ _ _) (fun k h e => hx8.out ((show k = gk22 from e) ▸ h))
     have HF : Hid (Fr No w _ [(gk1, 35, Hd.cells h), (gk3, 72, Ch.cells c), (gk5, 35, Hd.cells hdZ), (gk7, 35, Hd.cells ⟨h.b, h.k, ⟨sa, sn, sc⟩⟩), (gk22, 89, Pl.cells x)]) := HF.out.set 4 rfl _
     generalize wk23.setRow gk22 (Pl.cells x) = wk24 at HF HO ⊢
     refine WL.nil ?_
     try simp only [pS]
     go_upto_region 13 with fail
     refine WL.start ?_
     refine tK (.bool true) ?_
     refine tK (.bool false) ?_
     refine tK (.bool false) ?_
     refine sK ?_
     refine sK ?_
     refine sK ?_
     refine sK ?_
     refine sK ?_
     refine sK ?_
     refine tK (.bool false) ?_
     try simp only [pS]
     refine WL.nil ?_
     try simp only [pS]
     go_upto_region 17 with fail
     refine WL.start ?_
     refine tK (.pointer (some ⟨gk22, 0, none⟩)) ?_
     refine tW (.int .i64 x.n) (eL 3 _ rfl ⟨gk22, 0, none⟩ (load_one ((HF.out.box 4 _ _ _ rfl).cell 0 |>.trans (by kernel_rfl)) Try.und3 rfl)) ?_
     refine tK (.pointer (some ⟨gk7, 3, none⟩)) ?_
     refine tK (.pointer (some ⟨gk7, 3, none⟩)) ?_
     refine tW (.int .i64 h.k.up) (eL 3 _ rfl ⟨gk7, 3, none⟩ (load_one ((HF.out.box 3 _ _ _ rfl).cell 3 |>.trans (by kernel_rfl)) Try.und3 rfl)) ?_
     refine tW (.bool true) (eB .gtr 3 _ _ _ rfl (.int .i64 x.n) (.int .i64 h.k.up) _ (by rw [b_gtr, hgt]; try rfl)) ?_
     try simp only [pS]
     refine WL.nil ?_
     try simp only [pS]
     go_upto_region 18 with fail
     refine WL.start ?_
     refine tK (.pointer (some ⟨gk7, 6, none⟩)) ?_
     refine tW (.slice sa sn sc) (eL 33 _ rfl ⟨gk7, 6, none⟩ (load_one ((HF.out.box 3 _ _ _ rfl).cell 6 |>.trans (by kernel_rfl)) Try.und33 rfl)) ?_
     refine tW (.agg (Pl.cells x)) (eL 89 _ rfl ⟨gk22, 0, none⟩ (run_load_part (cs := Pl.cs x) (sub := Pl.cs x) (HF.out.box 4 _ _ _ rfl) (Part.all _) Try.und89 rfl Try.size89)) ?_
     try simp only [pS]
     refine wp_runW (.slice (some ⟨wk24.heap.size, 0, none⟩) 1 1) (wk24.alloc (.cells (Pl.cells x) 89)) (exec_slice2 33 89 _ rfl (Pl.cells x) (.agg (Pl.cells x)) (by kernel_rfl) (by kernel_rfl)) (by kernel_rfl) ?_
     try simp only [pS]
     have HO : Hid (OwR (wk24.alloc (.cells (Pl.cells x) 89)) w.heap.size ⟨sa, sn, sc⟩ (out)) := HO.out.no ((Kept.refl No _).alloc _)
     have HF : Hid (Fr No w _ [(gk1, 35, Hd.cells h), (gk3, 72, Ch.cells c), (gk5, 35, Hd.cells hdZ), (gk7, 35, Hd.cells ⟨h.b, h.k, ⟨sa, sn, sc⟩⟩), (gk22, 89, Pl.cells x), (wk24.heap.size, 89, Pl.cells x)]) := HF.out.alloc _ _
     generalize wk24.alloc (.cells (Pl.cells x) 89) = wk26 at HF HO ⊢
     generalize wk24.heap.size = gk25 at HF ⊢
     obtain ⟨sa1, cap1, wa1, hrun, hown, hk2, hat2⟩ := run_appN (w := wk26) 33 33 89 15 128 (.agg plZ.cells) Try.und33 Try.info89 rfl (by omega) w.heap.size sn sc sa (plL out) HO.out.own (some ⟨gk25, 0, none⟩) 1 1 (Pl.cs x) rfl (fun e => by cases e) (fun j u hj => ⟨_, rfl, by rw [addr_add, Nat.zero_add, (HF.out.box 5 _ _ _ rfl).cell]; exact cell_pl _ _ _ hj⟩) (Pl.oneL _) (by omega) (by omega) (by have := HF.out.kept.size; omega)
     have hO0 := HO.out.own
     have hO1 := HO.out.len
     refine wp_runW (.slice sa1 (sn + 1) cap1) wa1 (exec_appN _ _ 33 33 rfl _ _ (by kernel_rfl) (by kernel_rfl) hrun) (by kernel_rfl) ?_
     try simp only [pS]
     have hx9 : Hid (¬ At sa1 gk22) := show ¬ At sa1 gk22 from fun e => by
      rcases hat2 _ e with e | e
      · exact hx8.out e
      · have := (HF.out.box 4 _ _ _ rfl).lt; omega
     have HO : Hid (OwR wa1 w.heap.size ⟨sa1, sn + 1, cap1⟩ (out ++ [x])) := ⟨by rw [plL_app, plL_1]; exact hown, by simp at hO1 ⊢; omega⟩
     have HF : Hid (Fr No w wa1 [(gk1, 35, Hd.cells h), (gk3, 72, Ch.cells c), (gk5, 35, Hd.cells hdZ), (gk7, 35, Hd.cells ⟨h.b, h.k, ⟨sa, sn, sc⟩⟩), (gk22, 89, Pl.cells x)]) := (show Fr No w wk26 ([(gk1, 35, Hd.cells h), (gk3, 72, Ch.cells c), (gk5, 35, Hd.cells hdZ), (gk7, 35, Hd.cells ⟨h.b, h.k, ⟨sa, sn, sc⟩⟩), (gk22, 89, Pl.cells x)] ++ [(gk25, 89, Pl.cells x)]) from HF.out).front.app2 hO0 hk2 (by simp [hx8.out])
     clear hown hk2 hat2 hrun hO0 hO1 hx8
     have hx8 : Hid (¬ At sa1 gk22) := hx9
     clear hx9
     refine tK (.pointer (some ⟨gk7, 6, none⟩)) ?_
     try simp only [pS]
     refine wp_storeW 33 _ _ rfl ⟨gk7, 6, none⟩ (.slice sa1 (sn + 1) cap1) (by kernel_rfl) (by kernel_rfl) (wa1.setRow gk7 (Hd.cells ⟨h.b, h.k, ⟨sa1, (sn + 1), cap1⟩⟩)) (run_store_to (cur := Hd.cs ⟨h.b, h.k, ⟨sa, sn, sc⟩⟩) (vs := [.slice sa1 (sn + 1) cap1]) (new := Hd.cs ⟨h.b, h.k, ⟨sa1, (sn + 1), cap1⟩⟩) (HF.out.box 3 _ _ _ rfl) (by kernel_rfl) Try.size33 (Nat.le_of_ble_eq_true (by kernel_rfl)) (by simp [Value.oneCell', Sl.v]) (by kernel_rfl)) (by kernel_rfl) ?_
     try simp only [pS]
     have HO : Hid (OwR (wa1.setRow gk7 (Hd.cells ⟨h.b, h.k, ⟨sa1, (sn + 1), cap1⟩⟩)) w.heap.size ⟨sa1, (sn + 1), cap1⟩ (out ++ [x])) := HO.out.kept (Kept.setRow _ _ _) (fun k h e => (HO.out.own.notBox (HF.out.box 3 _ _ _ rfl) (by decide)) ((show k = gk7 from e) ▸ h))
     have HF : Hid (Fr No w _ [(gk1, 35, Hd.cells h), (gk3, 72, Ch.cells c), (gk5, 35, Hd.cells hdZ), (gk7, 35, Hd.cells ⟨h.b, h.k, ⟨sa1, (sn + 1), cap1⟩⟩), (gk22, 89, Pl.cells x)]) := HF.out.set 3 rfl _
     generalize wa1.setRow gk7 (Hd.cells ⟨h.b, h.k, ⟨sa1, (sn + 1), cap1⟩⟩) = wk27 at HF HO ⊢
     refine WL.nil ?_
     try simp only [pS]
     go_upto_region 11 with fail
     refine WL.start ?_
     refine tK (.int .i64 ((i : Nat) : Int)) ?_
     refine tW (.int .i64 (((i + 1) : Nat) : Int)) (eB .add 3 _ _ _ rfl (.int .i64 ((i : Nat) : Int)) (.int .i64 1) _ (b_addw _ _ _ (by rw [IntKind.wrap_i64]; omega) _)) ?_
     refine tK (.int .i64 (((i + 1) : Nat) : Int)) ?_
     try simp only [pS]
     refine WL.nil ?_
     try simp only [pS]
     have HF : Hid (Fr No w wk27 [(gk1, 35, Hd.cells h), (gk3, 72, Ch.cells c), (gk5, 35, Hd.cells hdZ), (gk7, 35, Hd.cells ⟨h.b, h.k, ⟨sa1, (sn + 1), cap1⟩⟩)]) := (show Fr No w wk27 ([(gk1, 35, Hd.cells h), (gk3, 72, Ch.cells c), (gk5, 35, Hd.cells hdZ), (gk7, 35, Hd.cells ⟨h.b, h.k, ⟨sa1, (sn + 1), cap1⟩⟩)] ++ [(gk22, 89, Pl.cells x)]) from HF.out).front
     have HP2 : Hid ((out ++ [x]) ++ ps.drop (i + 1) = insP c.ky.b c.i ps) := by show _ = _; rw [← HP.out, HX.out]; simp
     go_wp2
     go_roundw
     case rel => exact ⟨i + 1, true, sa1, (sn + 1), cap1, _, rfl, by go_num, by omega, by omega, (fun e => by cases e), HP2, HO, HF⟩
     case measure => simp [intOf]; omega
  · skip
    rcases pl with _ | _
    ·skip
     go_upto_region 10 with fail
     refine WL.start ?_
     refine tK (.int .i64 ((i : Nat) : Int)) ?_
     refine tK (.pointer (some ⟨gk1, 6, none⟩)) ?_
     refine tW (h.r.v) (eL 33 _ rfl ⟨gk1, 6, none⟩ (load_one ((HF.out.box 0 _ _ _ rfl).cell 6 |>.trans (by kernel_rfl)) Try.und33 rfl)) ?_
     refine tK (.int .i64 ((h.r.l : Nat) : Int)) ?_
     refine tW (.bool false) (eB .lss 3 _ _ _ rfl (.int .i64 ((i : Nat) : Int)) (.int .i64 ((h.r.l : Nat) : Int)) _ (by rw [b_lss, decide_eq_false (by omega)])) ?_
     try simp only [pS]
     refine WL.nil ?_
     try simp only [pS]
     go_upto_region 19 with fail
     refine WL.start ?_
     refine tK (.bool false) ?_
     refine tK (.bool true) ?_
     try simp only [pS]
     refine WL.nil ?_
     try simp only [pS]
     go_upto_region 20 with fail
     refine WL.start ?_
     refine tK (.pointer (some ⟨gk7, 6, none⟩)) ?_
     refine tW (.slice sa sn sc) (eL 33 _ rfl ⟨gk7, 6, none⟩ (load_one ((HF.out.box 3 _ _ _ rfl).cell 6 |>.trans (by kernel_rfl)) Try.und33 rfl)) ?_
     refine tK (.pointer (some ⟨gk3, 0, none⟩)) ?_
     refine tK (.pointer (some ⟨gk3, 2, none⟩)) ?_
     refine tW (.int .i64 c.ky.b) (eL 3 _ rfl ⟨gk3, 2, none⟩ (load_one ((HF.out.box 1 _ _ _ rfl).cell 2 |>.trans (by kernel_rfl)) Try.und3 rfl)) ?_
     refine tK (.pointer (some ⟨gk3, 7, none⟩)) ?_
     refine tW (.agg (In.cells c.i)) (eL 70 _ rfl ⟨gk3, 7, none⟩ (run_load_part (cs := Ch.cs c) (sub := In.cs c.i) (HF.out.box 1 _ _ _ rfl) (part_of (by kernel_rfl)) Try.und70 rfl Try.size70)) ?_
     refine tW (.agg (Pl.cells ⟨c.ky.b, c.i⟩)) (exec_build 89 _ rfl (Pl.cells ⟨c.ky.b, c.i⟩) (by kernel_rfl)) ?_
     try simp only [pS]
     refine wp_runW (.slice (some ⟨wr.heap.size, 0, none⟩) 1 1) (wr.alloc (.cells (Pl.cells ⟨c.ky.b, c.i⟩) 89)) (exec_slice2 33 89 _ rfl (Pl.cells ⟨c.ky.b, c.i⟩) (.agg (Pl.cells ⟨c.ky.b, c.i⟩)) (by kernel_rfl) (by kernel_rfl)) (by kernel_rfl) ?_
     try simp only [pS]
     have HO : Hid (OwR (wr.alloc (.cells (Pl.cells ⟨c.ky.b, c.i⟩) 89)) w.heap.size ⟨sa, sn, sc⟩ (out)) := HO.out.no ((Kept.refl No _).alloc _)
     have HF : Hid (Fr No w _ [(gk1, 35, Hd.cells h), (gk3, 72, Ch.cells c), (gk5, 35, Hd.cells hdZ), (gk7, 35, Hd.cells ⟨h.b, h.k, ⟨sa, sn, sc⟩⟩), (wr.heap.size, 89, Pl.cells ⟨c.ky.b, c.i⟩)]) := HF.out.alloc _ _
     generalize wr.alloc (.cells (Pl.cells ⟨c.ky.b, c.i⟩) 89) = wk29 at HF HO ⊢
     generalize wr.heap.size = gk28 at HF ⊢
     obtain ⟨sa1, cap1, wa1, hrun, hown, hk2, hat2⟩ := run_appN (w := wk29) 33 33 89 15 128 (.agg plZ.cells) Try.und33 Try.info89 rfl (by omega) w.heap.size sn sc sa (plL out) HO.out.own (some ⟨gk28, 0, none⟩) 1 1 (Pl.cs ⟨c.ky.b, c.i⟩) rfl (fun e => by cases e) (fun j u hj => ⟨_, rfl, by rw [addr_add, Nat.zero_add, (HF.out.box 4 _ _ _ rfl).cell]; exact cell_pl _ _ _ hj⟩) (Pl.oneL _) (by omega) (by omega) (by have := HF.out.kept.size; omega)
     have hO0 := HO.out.own
     have hO1 := HO.out.len
     refine wp_runW (.slice sa1 (sn + 1) cap1) wa1 (exec_appN _ _ 33 33 rfl _ _ (by kernel_rfl) (by kernel_rfl) hrun) (by kernel_rfl) ?_
     try simp only [pS]
     have HO : Hid (OwR wa1 w.heap.size ⟨sa1, sn + 1, cap1⟩ (out ++ [⟨c.ky.b, c.i⟩])) := ⟨by rw [plL_app, plL_1]; exact hown, by simp at hO1 ⊢; omega⟩
     have HF : Hid (Fr No w wa1 [(gk1, 35, Hd.cells h), (gk3, 72, Ch.cells c), (gk5, 35, Hd.cells hdZ), (gk7, 35, Hd.cells ⟨h.b, h.k, ⟨sa, sn, sc⟩⟩)]) := (show Fr No w wk29 ([(gk1, 35, Hd.cells h), (gk3, 72, Ch.cells c), (gk5, 35, Hd.cells hdZ), (gk7, 35, Hd.cells ⟨h.b, h.k, ⟨sa, sn, sc⟩⟩)] ++ [(gk28, 89, Pl.cells ⟨c.ky.b, c.i⟩)]) from HF.out).front.app2 hO0 hk2 (by simp)
     clear hown hk2 hat2 hrun hO0 hO1
     refine tK (.pointer (some ⟨gk7, 6, none⟩)) ?_
     try simp only [pS]
     refine wp_storeW 33 _ _ rfl ⟨gk7, 6, none⟩ (.slice sa1 (sn + 1) cap1) (by kernel_rfl) (by kernel_rfl) (wa1.setRow gk7 (Hd.cells ⟨h.b, h.k, ⟨sa1, (sn + 1), cap1⟩⟩)) (run_store_to (cur := Hd.cs ⟨h.b, h.k, ⟨sa, sn, sc⟩⟩) (vs := [.slice sa1 (sn + 1) cap1]) (new := Hd.cs ⟨h.b, h.k, ⟨sa1, (sn + 1), cap1⟩⟩) (HF.out.box 3 _ _ _ rfl) (by kernel_rfl) Try.size33 (Nat.le_of_ble_eq_true (by kernel_rfl)) (by simp [Value.oneCell', Sl.v]) (by kernel_rfl)) (by kernel_rfl) ?_
     try simp only [pS]
     have HO : Hid (OwR (wa1.setRow gk7 (Hd.cells ⟨h.b, h.k, ⟨sa1, (sn + 1), cap1⟩⟩)) w.heap.size ⟨sa1, (sn + 1), cap1⟩ (out ++ [⟨c.ky.b, c.i⟩])) := HO.out.kept (Kept.setRow _ _ _) (fun k h e => (HO.out.own.notBox (HF.out.box 3 _ _ _ rfl) (by decide)) ((show k = gk7 from e) ▸ h))
     have HF : Hid (Fr No w _ [(gk1, 35, Hd.cells h), (gk3, 72, Ch.cells c), (gk5, 35, Hd.cells hdZ), (gk7, 35, Hd.cells ⟨h.b, h.k, ⟨sa1, (sn + 1), cap1⟩⟩)]) := HF.out.set 3 rfl _
     generalize wa1.setRow gk7 (Hd.cells ⟨h.b, h.k, ⟨sa1, (sn + 1), cap1⟩⟩) = wk30 at HF HO ⊢
     refine WL.nil ?_
     try simp only [pS]
     go_upto_region 21 with fail
     refine WL.start ?_
     refine tW (.agg (Hd.cells ⟨h.b, h.k, ⟨sa1, (sn + 1), cap1⟩⟩)) (eL 35 _ rfl ⟨gk7, 0, none⟩ (run_load_part (cs := Hd.cs ⟨h.b, h.k, ⟨sa1, (sn + 1), cap1⟩⟩) (sub := Hd.cs ⟨h.b, h.k, ⟨sa1, (sn + 1), cap1⟩⟩) (HF.out.box 3 _ _ _ rfl) (Part.all _) Try.und35 rfl Try.size35)) ?_
     try simp only [pS]
     refine wp_storeW 35 _ _ rfl ⟨gk5, 0, none⟩ (.agg (Hd.cells ⟨h.b, h.k, ⟨sa1, (sn + 1), cap1⟩⟩)) (by kernel_rfl) (by kernel_rfl) (wk30.setRow gk5 (Hd.cells ⟨h.b, h.k, ⟨sa1, (sn + 1), cap1⟩⟩)) (run_store_to (cur := Hd.cs hdZ) (vs := Hd.cs ⟨h.b, h.k, ⟨sa1, (sn + 1), cap1⟩⟩) (new := Hd.cs ⟨h.b, h.k, ⟨sa1, (sn + 1), cap1⟩⟩) (HF.out.box 2 _ _ _ rfl) (by kernel_rfl) Try.size35 (Nat.le_of_ble_eq_true (by kernel_rfl)) (Hd.oneL _) (by kernel_rfl)) (by kernel_rfl) ?_
     try simp only [pS]
     have HO : Hid (OwR (wk30.setRow gk5 (Hd.cells ⟨h.b, h.k, ⟨sa1, (sn + 1), cap1⟩⟩)) w.heap.size ⟨sa1, (sn + 1), cap1⟩ (out ++ [⟨c.ky.b, c.i⟩])) := HO.out.kept (Kept.setRow _ _ _) (fun k h e => (HO.out.own.notBox (HF.out.box 2 _ _ _ rfl) (by decide)) ((show k = gk5 from e) ▸ h))
     have HF : Hid (Fr No w _ [(gk1, 35, Hd.cells h), (gk3, 72, Ch.cells c), (gk5, 35, Hd.cells ⟨h.b, h.k, ⟨sa1, (sn + 1), cap1⟩⟩), (gk7, 35, Hd.cells ⟨h.b, h.k, ⟨sa1, (sn + 1), cap1⟩⟩)]) := HF.out.set 2 rfl _
     generalize wk30.setRow gk5 (Hd.cells ⟨h.b, h.k, ⟨sa1, (sn + 1), cap1⟩⟩) = wk31 at HF HO ⊢
     refine WL.nil ?_
     try simp only [pS]
     go_wp2
     rw [HC.out]
     refine bodyPost_ret (results_row1 (by rfl) _ _ gk5 (Hd.cells ⟨h.b, h.k, ⟨sa1, (sn + 1), cap1⟩⟩) (by rfl) (run_load_part (cs := Hd.cs ⟨h.b, h.k, ⟨sa1, (sn + 1), cap1⟩⟩) (sub := Hd.cs ⟨h.b, h.k, ⟨sa1, (sn + 1), cap1⟩⟩) (HF.out.box 2 _ _ _ rfl) (Part.all _) Try.und35 rfl Try.size35)) rfl ?_
     exact ⟨⟨sa1, (sn + 1), cap1⟩, rfl, (by have := HP.out; rw [List.drop_of_length_le (by rw [HL.out]; omega)] at this; rw [← this]; exact HO.out), HF.out.kept⟩
    ·skip
     go_upto_region 10 with fail
     refine WL.start ?_
     refine tK (.int .i64 ((i : Nat) : Int)) ?_
     refine tK (.pointer (some ⟨gk1, 6, none⟩)) ?_
     refine tW (h.r.v) (eL 33 _ rfl ⟨gk1, 6, none⟩ (load_one ((HF.out.box 0 _ _ _ rfl).cell 6 |>.trans (by kernel_rfl)) Try.und33 rfl)) ?_
     refine tK (.int .i64 ((h.r.l : Nat) : Int)) ?_
     refine tW (.bool false) (eB .lss 3 _ _ _ rfl (.int .i64 ((i : Nat) : Int)) (.int .i64 ((h.r.l : Nat) : Int)) _ (by rw [b_lss, decide_eq_false (by omega)])) ?_
     try simp only [pS]
     refine WL.nil ?_
     try simp only [pS]
     go_upto_region 19 with fail
     refine WL.start ?_
     refine tK (.bool true) ?_
     refine tK (.bool false) ?_
     try simp only [pS]
     refine WL.nil ?_
     try simp only [pS]
     go_upto_region 21 with fail
     refine WL.start ?_
     refine tW (.agg (Hd.cells ⟨h.b, h.k, ⟨sa, sn, sc⟩⟩)) (eL 35 _ rfl ⟨gk7, 0, none⟩ (run_load_part (cs := Hd.cs ⟨h.b, h.k, ⟨sa, sn, sc⟩⟩) (sub := Hd.cs ⟨h.b, h.k, ⟨sa, sn, sc⟩⟩) (HF.out.box 3 _ _ _ rfl) (Part.all _) Try.und35 rfl Try.size35)) ?_
     try simp only [pS]
     refine wp_storeW 35 _ _ rfl ⟨gk5, 0, none⟩ (.agg (Hd.cells ⟨h.b, h.k, ⟨sa, sn, sc⟩⟩)) (by kernel_rfl) (by kernel_rfl) (wr.setRow gk5 (Hd.cells ⟨h.b, h.k, ⟨sa, sn, sc⟩⟩)) (run_store_to (cur := Hd.cs hdZ) (vs := Hd.cs ⟨h.b, h.k, ⟨sa, sn, sc⟩⟩) (new := Hd.cs ⟨h.b, h.k, ⟨sa, sn, sc⟩⟩) (HF.out.box 2 _ _ _ rfl) (by kernel_rfl) Try.size35 (Nat.le_of_ble_eq_true (by kernel_rfl)) (Hd.oneL _) (by kernel_rfl)) (by kernel_rfl) ?_
     try simp only [pS]
     have HO : Hid (OwR (wr.setRow gk5 (Hd.cells ⟨h.b, h.k, ⟨sa, sn, sc⟩⟩)) w.heap.size ⟨sa, sn, sc⟩ (out)) := HO.out.kept (Kept.setRow _ _ _) (fun k h e => (HO.out.own.notBox (HF.out.box 2 _ _ _ rfl) (by decide)) ((show k = gk5 from e) ▸ h))
     have HF : Hid (Fr No w _ [(gk1, 35, Hd.cells h), (gk3, 72, Ch.cells c), (gk5, 35, Hd.cells ⟨h.b, h.k, ⟨sa, sn, sc⟩⟩), (gk7, 35, Hd.cells ⟨h.b, h.k, ⟨sa, sn, sc⟩⟩)]) := HF.out.set 2 rfl _
     generalize wr.setRow gk5 (Hd.cells ⟨h.b, h.k, ⟨sa, sn, sc⟩⟩) = wk32 at HF HO ⊢
     refine WL.nil ?_
     try simp only [pS]
     go_wp2
     rw [HC.out]
     refine bodyPost_ret (results_row1 (by rfl) _ _ gk5 (Hd.cells ⟨h.b, h.k, ⟨sa, sn, sc⟩⟩) (by rfl) (run_load_part (cs := Hd.cs ⟨h.b, h.k, ⟨sa, sn, sc⟩⟩) (sub := Hd.cs ⟨h.b, h.k, ⟨sa, sn, sc⟩⟩) (HF.out.box 2 _ _ _ rfl) (Part.all _) Try.und35 rfl Try.size35)) rfl ?_
     exact ⟨⟨sa, sn, sc⟩, rfl, (by have := HP.out; rw [List.drop_of_length_le (by rw [HL.out]; omega)] at this; rw [← this]; simpa using HO.out), HF.out.kept⟩

end Go.Proofs.Ytcgnbpaaalmkoaa
