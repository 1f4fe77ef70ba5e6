import Derived.Test.YtgiokkcdgoloaaaXr
namespace Go.Proofs.Ytgiokkcdgoloaaa.Md
open Go.RowKit
set_option linter.unusedVariables false
set_option linter.unusedSimpArgs false

set_option maxRecDepth 100000 in
set_option maxHeartbeats 4000000 in
theorem rests_w (n0 : Nat) (J : Nat → Prop) (b : Nat) (v : Wv) (x : Wd) (mp : Nat → Option Nat) (I : Nat → Nat → Prop) (H : List Bl) (U : List Mg) (D : List Dv) (L : List Lv) (cl beg en er : Int) (da ra : Sl) (st : Sp) (rz : List Int) (w : World) (hW : WA w n0 J b v x mp I H U D L) (hst : st.c = cl) (hra : ra.l = 0) : Calls Try.prog 43 #[.pointer (some ⟨b, 0, none⟩), .agg (Dv.cells ⟨true, cl, beg, en, da, ⟨er, enZ, slZ, ra, 0, st, 0⟩⟩)] w (TrR w) := by
  obtain ⟨C, hC⟩ : ∃ C : Ending → World → Prop, C = (TrR w) := ⟨_, rfl⟩
  have HC : Hid (C = (TrR w)) := hC
  rw [← hC]
  clear hC
  have HF : Hid (Rg w w n0 J b v x mp I H U D L [] []) := Rg.start hW (by simp)
  clear hW
  go_enter Try.func43, Try.ntmps43
  go_upto_region 0 with fail
  refine WL.start ?_
  refine uR (.pointer (some ⟨w.heap.size, 0, none⟩)) (w.alloc (.cells (Dv.cells ⟨true, cl, beg, en, da, ⟨er, enZ, slZ, ra, 0, st, 0⟩⟩) 109)) (exec_box 109 _ rfl (Dv.cells ⟨true, cl, beg, en, da, ⟨er, enZ, slZ, ra, 0, st, 0⟩⟩) (by kernel_rfl)) ?_
  try simp only [pS]
  have HF : Hid (Rg w (w.alloc (.cells (Dv.cells ⟨true, cl, beg, en, da, ⟨er, enZ, slZ, ra, 0, st, 0⟩⟩) 109)) n0 J b v x mp I H U D L [(w.heap.size, 109, Dv.cells ⟨true, cl, beg, en, da, ⟨er, enZ, slZ, ra, 0, st, 0⟩⟩)] []) := HF.out.alloc _ _
  generalize w.alloc (.cells (Dv.cells ⟨true, cl, beg, en, da, ⟨er, enZ, slZ, ra, 0, st, 0⟩⟩) 109) = wk2 at HF ⊢
  generalize w.heap.size = gk1 at HF ⊢
  refine uK (.bool false) <| WL.nil <| ?_
  try simp only [pS]
  go_upto_region 1 with fail
  refine WL.start <| uK (.pointer (some ⟨gk1, 5, none⟩)) <| uK (.pointer (some ⟨gk1, 13, none⟩)) <| uL 41 ⟨gk1, 13, none⟩ (.agg (Sp.cells st)) (run_load_part (cs := Dv.cs ⟨true, cl, beg, en, da, ⟨er, enZ, slZ, ra, 0, st, 0⟩⟩) (sub := Sp.cs st) (HF.out.box 0 _ _ _ rfl) (part_of (by kernel_rfl)) U41 rfl S41) <| ?_
  try simp only [pS]
  refine uR (.pointer (some ⟨wk2.heap.size, 0, none⟩)) (wk2.alloc (.cells (Sp.cells spZ) 41)) (exec_alloc 41 rfl (Sp.cells spZ) Z41) ?_
  try simp only [pS]
  have HF : Hid (Rg w (wk2.alloc (.cells (Sp.cells spZ) 41)) n0 J b v x mp I H U D L [(gk1, 109, Dv.cells ⟨true, cl, beg, en, da, ⟨er, enZ, slZ, ra, 0, st, 0⟩⟩), (wk2.heap.size, 41, Sp.cells spZ)] []) := HF.out.alloc _ _
  generalize wk2.alloc (.cells (Sp.cells spZ) 41) = wk4 at HF ⊢
  generalize wk2.heap.size = gk3 at HF ⊢
  refine uT 41 ⟨gk3, 0, none⟩ (.agg (Sp.cells st)) (wk4.setRow gk3 (Sp.cells st)) (rs (Sp.cs spZ) (Sp.cs st) (Sp.cs st) (HF.out.box 1 _ _ _ rfl) S41 (Sp.oneL _)) ?_
  try simp only [pS]
  have HF : Hid (Rg w (wk4.setRow gk3 (Sp.cells st)) n0 J b v x mp I H U D L [(gk1, 109, Dv.cells ⟨true, cl, beg, en, da, ⟨er, enZ, slZ, ra, 0, st, 0⟩⟩), (gk3, 41, Sp.cells st)] []) := HF.out.set 1 rfl _
  generalize wk4.setRow gk3 (Sp.cells st) = wk5 at HF ⊢
  refine WL.nil ?_
  try simp only [pS]
  go_upto_region 2 with fail
  refine WL.start <| uK (.pointer (some ⟨gk1, 0, none⟩)) <| uL 4 ⟨gk1, 0, none⟩ (.bool true) (load_one ((HF.out.box 0 _ _ _ rfl).cell 0 |>.trans (by kernel_rfl)) U4 rfl) <| WL.nil <| ?_
  try simp only [pS]
  go_upto_region 3 with fail
  refine WL.start <| uK (.pointer (some ⟨gk3, 1, none⟩)) <| uL 3 ⟨gk3, 1, none⟩ (.int .i64 st.c) (load_one ((HF.out.box 1 _ _ _ rfl).cell 1 |>.trans (by kernel_rfl)) U3 rfl) <| uK (.pointer (some ⟨gk1, 1, none⟩)) <| uL 3 ⟨gk1, 1, none⟩ (.int .i64 cl) (load_one ((HF.out.box 0 _ _ _ rfl).cell 1 |>.trans (by kernel_rfl)) U3 rfl) <| uB .eql 3 (.int .i64 st.c) (.int .i64 cl) (.bool true) (by rw [b_eql, beq_iff_eq.2 (by omega)]) <| uK (.bool true) <| uK (.pointer (some ⟨gk1, 5, none⟩)) <| ?_
  try simp only [pS]
  refine uK (.pointer (some ⟨gk1, 11, none⟩)) <| uL 25 ⟨gk1, 11, none⟩ (ra.v) (load_one ((HF.out.box 0 _ _ _ rfl).cell 11 |>.trans (by kernel_rfl)) U25 rfl) <| uK (.int .i64 ((ra.l : Nat) : Int)) <| uB .eql 3 (.int .i64 ((ra.l : Nat) : Int)) (.int .i64 0) (.bool true) (by rw [b_eql, beq_iff_eq.2 (by omega)]) <| uK (.bool true) <| uK (.bool true) <| WL.nil <| ?_
  try simp only [pS]
  go_wp2
  rw [HC.out]
  exact ⟨rfl, HF.out.kept⟩
set_option maxRecDepth 100000 in
set_option maxHeartbeats 4000000 in
theorem rests_z (n0 : Nat) (J : Nat → Prop) (b : Nat) (v : Wv) (x : Wd) (mp : Nat → Option Nat) (I : Nat → Nat → Prop) (H : List Bl) (U : List Mg) (D : List Dv) (L : List Lv) (cl beg en er : Int) (da ra : Sl) (st : Sp) (rz : List Int) (w : World) (hW : WA w n0 J b v x mp I H U D L) (hz : By w n0 ra [0, 0, 0]) : Calls Try.prog 43 #[.pointer (some ⟨b, 0, none⟩), .agg (Dv.cells ⟨false, cl, beg, en, da, ⟨er, enZ, slZ, ra, 0, spZ, 0⟩⟩)] w (TrR w) := by
  obtain ⟨C, hC⟩ : ∃ C : Ending → World → Prop, C = (TrR w) := ⟨_, rfl⟩
  have HC : Hid (C = (TrR w)) := hC
  rw [← hC]
  clear hC
  have HF : Hid (Rg w w n0 J b v x mp I H U D L [] [(ra, [0, 0, 0])]) := Rg.start hW (fun y hy => by rw [List.mem_singleton.1 hy]; exact hz)
  clear hW hz
  go_enter Try.func43, Try.ntmps43
  go_upto_region 0 with fail
  refine WL.start ?_
  refine uR (.pointer (some ⟨w.heap.size, 0, none⟩)) (w.alloc (.cells (Dv.cells ⟨false, cl, beg, en, da, ⟨er, enZ, slZ, ra, 0, spZ, 0⟩⟩) 109)) (exec_box 109 _ rfl (Dv.cells ⟨false, cl, beg, en, da, ⟨er, enZ, slZ, ra, 0, spZ, 0⟩⟩) (by kernel_rfl)) ?_
  try simp only [pS]
  have HF : Hid (Rg w (w.alloc (.cells (Dv.cells ⟨false, cl, beg, en, da, ⟨er, enZ, slZ, ra, 0, spZ, 0⟩⟩) 109)) n0 J b v x mp I H U D L [(w.heap.size, 109, Dv.cells ⟨false, cl, beg, en, da, ⟨er, enZ, slZ, ra, 0, spZ, 0⟩⟩)] [(ra, [0, 0, 0])]) := HF.out.alloc _ _
  generalize w.alloc (.cells (Dv.cells ⟨false, cl, beg, en, da, ⟨er, enZ, slZ, ra, 0, spZ, 0⟩⟩) 109) = wk2 at HF ⊢
  generalize w.heap.size = gk1 at HF ⊢
  refine uK (.bool false) <| WL.nil <| ?_
  try simp only [pS]
  go_upto_region 1 with fail
  refine WL.start <| uK (.pointer (some ⟨gk1, 5, none⟩)) <| uK (.pointer (some ⟨gk1, 13, none⟩)) <| uL 41 ⟨gk1, 13, none⟩ (.agg (Sp.cells spZ)) (run_load_part (cs := Dv.cs ⟨false, cl, beg, en, da, ⟨er, enZ, slZ, ra, 0, spZ, 0⟩⟩) (sub := Sp.cs spZ) (HF.out.box 0 _ _ _ rfl) (part_of (by kernel_rfl)) U41 rfl S41) <| ?_
  try simp only [pS]
  refine uR (.pointer (some ⟨wk2.heap.size, 0, none⟩)) (wk2.alloc (.cells (Sp.cells spZ) 41)) (exec_alloc 41 rfl (Sp.cells spZ) Z41) ?_
  try simp only [pS]
  have HF : Hid (Rg w (wk2.alloc (.cells (Sp.cells spZ) 41)) n0 J b v x mp I H U D L [(gk1, 109, Dv.cells ⟨false, cl, beg, en, da, ⟨er, enZ, slZ, ra, 0, spZ, 0⟩⟩), (wk2.heap.size, 41, Sp.cells spZ)] [(ra, [0, 0, 0])]) := HF.out.alloc _ _
  generalize wk2.alloc (.cells (Sp.cells spZ) 41) = wk4 at HF ⊢
  generalize wk2.heap.size = gk3 at HF ⊢
  refine uT 41 ⟨gk3, 0, none⟩ (.agg (Sp.cells spZ)) (wk4.setRow gk3 (Sp.cells spZ)) (rs (Sp.cs spZ) (Sp.cs spZ) (Sp.cs spZ) (HF.out.box 1 _ _ _ rfl) S41 (Sp.oneL _)) ?_
  try simp only [pS]
  have HF : Hid (Rg w (wk4.setRow gk3 (Sp.cells spZ)) n0 J b v x mp I H U D L [(gk1, 109, Dv.cells ⟨false, cl, beg, en, da, ⟨er, enZ, slZ, ra, 0, spZ, 0⟩⟩), (gk3, 41, Sp.cells spZ)] [(ra, [0, 0, 0])]) := HF.out.set 1 rfl _
  generalize wk4.setRow gk3 (Sp.cells spZ) = wk5 at HF ⊢
  refine WL.nil ?_
  try simp only [pS]
  go_upto_region 2 with fail
  refine WL.start <| uK (.pointer (some ⟨gk1, 0, none⟩)) <| uL 4 ⟨gk1, 0, none⟩ (.bool false) (load_one ((HF.out.box 0 _ _ _ rfl).cell 0 |>.trans (by kernel_rfl)) U4 rfl) <| WL.nil <| ?_
  try simp only [pS]
  go_upto_region 4 with fail
  refine WL.start <| uL 41 ⟨gk3, 0, none⟩ (.agg (Sp.cells spZ)) (run_load_part (cs := Sp.cs spZ) (sub := Sp.cs spZ) (HF.out.box 1 _ _ _ rfl) (Part.all _) U41 rfl S41) <| uW (.agg (Sp.cells spZ)) (exec_build 41 _ rfl (Sp.cells spZ) (by kernel_rfl)) <| uB .eql 41 (.agg (Sp.cells spZ)) (.agg (Sp.cells spZ)) (.bool true) (by rw [eqS_eql, eqS_refl]) <| WL.nil <| ?_
  try simp only [pS]
  go_upto_region 5 with fail
  refine wp_region_held_drew (S := fun w' => Box w' gk1 109 (Dv.cells ⟨false, cl, beg, en, da, ⟨er, enZ, slZ, ra, 0, spZ, 0⟩⟩)) rfl (HF.out.drew.box 0 _ _ _ rfl) (fun hH => ?_)
  have HF : Hid (Rg w wk5.drew n0 J b v x mp I H U D L [(gk1, 109, Dv.cells ⟨false, cl, beg, en, da, ⟨er, enZ, slZ, ra, 0, spZ, 0⟩⟩), (gk3, 41, Sp.cells spZ)] [(ra, [0, 0, 0])]) := HF.out.drew
  generalize wk5.drew = wk6 at HF hH ⊢
  refine xV 0 28 (.pointer (some ⟨gk1, 5, none⟩)) hH <| xV 1 29 (.pointer (some ⟨gk1, 11, none⟩)) hH <| xL 2 30 25 ⟨gk1, 11, none⟩ ra.v (fun _ hw => load_one ((hw).cell 11 |>.trans (by kernel_rfl)) U25 rfl) hH <| ?_
  try simp only [pS]
  refine xP 3 31 (.slice (some ⟨wk6.heap.size, 0, none⟩) 3 3) (w' := wk6.alloc (.cells #[.int .u8 0, .int .u8 0, .int .u8 0] 5)) (exec_make 25 _ _ rfl (.int .i64 3) (.int .i64 3) (by kernel_rfl) (by kernel_rfl) (make_by3 _)) ((hH.alloc _)) (fun hH => ?_)
  try simp only [pS]
  have HZ : Hid (By (wk6.alloc (.cells #[.int .u8 0, .int .u8 0, .int .u8 0] 5)) n0 ⟨some ⟨wk6.heap.size, 0, none⟩, 3, 3⟩ [0, 0, 0]) := by_new wk6 n0
  have HF : Hid (Rg w (wk6.alloc (.cells #[.int .u8 0, .int .u8 0, .int .u8 0] 5)) n0 J b v x mp I H U D L [(gk1, 109, Dv.cells ⟨false, cl, beg, en, da, ⟨er, enZ, slZ, ra, 0, spZ, 0⟩⟩), (gk3, 41, Sp.cells spZ)] [(ra, [0, 0, 0])]) := HF.out.no ((Kept.refl No _).alloc _)
  generalize hgz : wk6.heap.size = gz at HZ ⊢
  clear hgz
  generalize wk6.alloc (.cells #[.int .u8 0, .int .u8 0, .int .u8 0] 5) = wk7 at HF HZ hH ⊢
  refine xC 4 32 17 #[ra.v, .slice (some ⟨gz, 0, none⟩) 3 3] (same_by (t := ⟨some ⟨gz, 0, none⟩, 3, 3⟩) (HF.out.qs 0 _ rfl) HZ.out) ?_
  rintro e wk8 ⟨rfl, hk⟩
  have hH2 : Box wk8 gk1 109 (Dv.cells ⟨false, cl, beg, en, da, ⟨er, enZ, slZ, ra, 0, spZ, 0⟩⟩) := (hH.kept hk (fun e => e))
  have HF : Hid (Rg w wk8 n0 J b v x mp I H U D L [(gk1, 109, Dv.cells ⟨false, cl, beg, en, da, ⟨er, enZ, slZ, ra, 0, spZ, 0⟩⟩), (gk3, 41, Sp.cells spZ)] [(ra, [0, 0, 0])]) := HF.out.no hk
  clear hk
  refine ⟨.bool true, by rw [eqB_refl], hH2, fun hH => ?_⟩
  clear hH2
  try simp only [pS]
  refine xV 5 4 (.bool true) hH ?_
  try simp only [pS]
  refine wpAnyH_done (by kernel_rfl) ?_ _
  try simp only [pS]
  clear hH
  go_wp2
  rw [HC.out]
  exact ⟨rfl, HF.out.kept⟩
set_option maxRecDepth 100000 in
set_option maxHeartbeats 4000000 in
theorem rests_l (n0 : Nat) (J : Nat → Prop) (b : Nat) (v : Wv) (x : Wd) (mp : Nat → Option Nat) (I : Nat → Nat → Prop) (H : List Bl) (U : List Mg) (D : List Dv) (L : List Lv) (cl beg en er : Int) (da ra : Sl) (st : Sp) (rz : List Int) (w : World) (j : Nat) (dj : Dd) (hW : WA w n0 J b v x mp I H U D L) (hz : By w n0 ra rz) (hs0 : eqS st spZ = false) (hdj : x.ds[j]? = some dj) (hjw : dj.wr = true) (hjc : dj.cl = st.c) (hjz : dj.z = rz) (hjb : dj.beg ≤ en) (hjo : dj.en = 0 ∨ dj.er ≠ 0 ∨ dj.st = st) (hdl : x.ds.length ≤ 1000000000) : Calls Try.prog 43 #[.pointer (some ⟨b, 0, none⟩), .agg (Dv.cells ⟨false, cl, beg, en, da, ⟨er, enZ, slZ, ra, 0, st, 0⟩⟩)] w (TrR w) := by
  obtain ⟨C, hC⟩ : ∃ C : Ending → World → Prop, C = (TrR w) := ⟨_, rfl⟩
  have HC : Hid (C = (TrR w)) := hC
  rw [← hC]
  clear hC
  have hxd : x.ds.length = v.ds.l := by rw [hW.pt.ds.1, hW.dl]
  have hjl := (List.getElem?_eq_some_iff.1 hdj).1
  obtain ⟨gd, hgd⟩ := own_at hW.ds (by omega)
  have HBz : Hid (By w n0 ra rz) := hz
  have HF : Hid (Rg w w n0 J b v x mp I H U D L [] [(ra, rz)]) := Rg.start hW (fun y hy => by rw [List.mem_singleton.1 hy]; exact hz)
  clear hW hz
  go_enter Try.func43, Try.ntmps43
  go_upto_region 0 with fail
  refine WL.start ?_
  refine uR (.pointer (some ⟨w.heap.size, 0, none⟩)) (w.alloc (.cells (Dv.cells ⟨false, cl, beg, en, da, ⟨er, enZ, slZ, ra, 0, st, 0⟩⟩) 109)) (exec_box 109 _ rfl (Dv.cells ⟨false, cl, beg, en, da, ⟨er, enZ, slZ, ra, 0, st, 0⟩⟩) (by kernel_rfl)) ?_
  try simp only [pS]
  have HF : Hid (Rg w (w.alloc (.cells (Dv.cells ⟨false, cl, beg, en, da, ⟨er, enZ, slZ, ra, 0, st, 0⟩⟩) 109)) n0 J b v x mp I H U D L [(w.heap.size, 109, Dv.cells ⟨false, cl, beg, en, da, ⟨er, enZ, slZ, ra, 0, st, 0⟩⟩)] [(ra, rz)]) := HF.out.alloc _ _
  generalize w.alloc (.cells (Dv.cells ⟨false, cl, beg, en, da, ⟨er, enZ, slZ, ra, 0, st, 0⟩⟩) 109) = wk2 at HF ⊢
  generalize w.heap.size = gk1 at HF ⊢
  refine uK (.bool false) <| WL.nil <| ?_
  try simp only [pS]
  go_upto_region 1 with fail
  refine WL.start <| uK (.pointer (some ⟨gk1, 5, none⟩)) <| uK (.pointer (some ⟨gk1, 13, none⟩)) <| uL 41 ⟨gk1, 13, none⟩ (.agg (Sp.cells st)) (run_load_part (cs := Dv.cs ⟨false, cl, beg, en, da, ⟨er, enZ, slZ, ra, 0, st, 0⟩⟩) (sub := Sp.cs st) (HF.out.box 0 _ _ _ rfl) (part_of (by kernel_rfl)) U41 rfl S41) <| ?_
  try simp only [pS]
  refine uR (.pointer (some ⟨wk2.heap.size, 0, none⟩)) (wk2.alloc (.cells (Sp.cells spZ) 41)) (exec_alloc 41 rfl (Sp.cells spZ) Z41) ?_
  try simp only [pS]
  have HF : Hid (Rg w (wk2.alloc (.cells (Sp.cells spZ) 41)) n0 J b v x mp I H U D L [(gk1, 109, Dv.cells ⟨false, cl, beg, en, da, ⟨er, enZ, slZ, ra, 0, st, 0⟩⟩), (wk2.heap.size, 41, Sp.cells spZ)] [(ra, rz)]) := HF.out.alloc _ _
  generalize wk2.alloc (.cells (Sp.cells spZ) 41) = wk4 at HF ⊢
  generalize wk2.heap.size = gk3 at HF ⊢
  refine uT 41 ⟨gk3, 0, none⟩ (.agg (Sp.cells st)) (wk4.setRow gk3 (Sp.cells st)) (rs (Sp.cs spZ) (Sp.cs st) (Sp.cs st) (HF.out.box 1 _ _ _ rfl) S41 (Sp.oneL _)) ?_
  try simp only [pS]
  have HF : Hid (Rg w (wk4.setRow gk3 (Sp.cells st)) n0 J b v x mp I H U D L [(gk1, 109, Dv.cells ⟨false, cl, beg, en, da, ⟨er, enZ, slZ, ra, 0, st, 0⟩⟩), (gk3, 41, Sp.cells st)] [(ra, rz)]) := HF.out.set 1 rfl _
  generalize wk4.setRow gk3 (Sp.cells st) = wk5 at HF ⊢
  refine WL.nil ?_
  try simp only [pS]
  go_upto_region 2 with fail
  refine WL.start <| uK (.pointer (some ⟨gk1, 0, none⟩)) <| uL 4 ⟨gk1, 0, none⟩ (.bool false) (load_one ((HF.out.box 0 _ _ _ rfl).cell 0 |>.trans (by kernel_rfl)) U4 rfl) <| WL.nil <| ?_
  try simp only [pS]
  go_upto_region 4 with fail
  refine WL.start <| uL 41 ⟨gk3, 0, none⟩ (.agg (Sp.cells st)) (run_load_part (cs := Sp.cs st) (sub := Sp.cs st) (HF.out.box 1 _ _ _ rfl) (Part.all _) U41 rfl S41) <| uW (.agg (Sp.cells spZ)) (exec_build 41 _ rfl (Sp.cells spZ) (by kernel_rfl)) <| uB .eql 41 (.agg (Sp.cells st)) (.agg (Sp.cells spZ)) (.bool false) (by rw [eqS_eql, hs0]) <| WL.nil <| ?_
  try simp only [pS]
  go_upto_region 6 with fail
  refine WL.start <| uK (.int .i64 0) <| WL.nil <| ?_
  try simp only [pS]
  go_wp2
  go_loopw [6] (fun v6 wr => ∃ i : Nat, v6 = .int .i64 ((i : Nat) : Int) ∧ i ≤ j ∧ Hid (Rg w wr n0 J b v x mp I H U D L [(gk1, 109, Dv.cells ⟨false, cl, beg, en, da, ⟨er, enZ, slZ, ra, 0, st, 0⟩⟩), (gk3, 41, Sp.cells st)] [(ra, rz)])) (fun i _ => v.ds.l - (intOf i).toNat)
  case atStart => exact ⟨0, by go_num, by omega, HF⟩
  case round =>
    clear HF
    obtain ⟨i, rfl, hi, HF⟩ := hrel
    obtain ⟨pi, hpi⟩ : ∃ pi, x.ds[i]? = some pi := ⟨_, List.getElem?_eq_getElem (by omega)⟩
    obtain ⟨e, hei, hed⟩ := HF.out.wa0.pt.ds.at hpi
    have hwr : e.wr = pi.wr := by rw [hed.e]
    have hcl : e.cl = pi.cl := by rw [hed.e]
    have hbg : e.beg = pi.beg := by rw [hed.e]
    have hen : e.en = pi.en := by rw [hed.e]
    have her : e.r.er = pi.er := by rw [hed.e]
    have hes : e.r.st = pi.st := by rw [hed.e]
    have heb := hed.b
    clear hed
    have HF : Hid (Rg w wr n0 J b v x mp I H U D L [(gk1, 109, Dv.cells ⟨false, cl, beg, en, da, ⟨er, enZ, slZ, ra, 0, st, 0⟩⟩), (gk3, 41, Sp.cells st)] [(ra, rz), (e.da, pi.z)]) := HF.out.setQ (fun y hy => by
      rcases List.mem_cons.1 hy with rfl | hy
      · exact HBz.out
      · rw [List.mem_singleton.1 hy]; exact heb)
    clear heb
    go_upto_region 7 with fail
    refine WL.start <| uK (.int .i64 ((i : Nat) : Int)) <| uK (.pointer (some ⟨b, 0, none⟩)) <| uK (.pointer (some ⟨b, 0, none⟩)) <| uK (.pointer (some ⟨b, 7, none⟩)) <| uL 72 ⟨b, 7, none⟩ (v.ds.v) (load_one ((HF.out.wbox).cell 7 |>.trans (by kernel_rfl)) U72 rfl) <| uK (.int .i64 ((v.ds.l : Nat) : Int)) <| uB .lss 3 (.int .i64 ((i : Nat) : Int)) (.int .i64 ((v.ds.l : Nat) : Int)) (.bool true) (by rw [b_lss, decide_eq_true (by omega)]) <| WL.nil <| ?_
    try simp only [pS]
    go_upto_region 9 with fail
    refine WL.start <| uK (.pointer (some ⟨b, 0, none⟩)) <| uK (.pointer (some ⟨b, 0, none⟩)) <| uK (.pointer (some ⟨b, 7, none⟩)) <| uL 72 ⟨b, 7, none⟩ (v.ds.v) (load_one ((HF.out.wbox).cell 7 |>.trans (by kernel_rfl)) U72 rfl) <| uK (.int .i64 ((i : Nat) : Int)) <| uW (.pointer (some ⟨gd, 0 + i * 16, none⟩)) (exec_ixA 72 16 E72 F72 _ _ rfl gd 0 v.ds.l v.ds.k i (Eq.trans (b := v.ds.v) (by kernel_rfl) (sl_v (s := v.ds) hgd)) (by kernel_rfl) (by omega)) <| uL 109 ⟨gd, 0 + i * 16, none⟩ (.agg (Dv.cells e)) ((load_part (n := 0) (own_cell HF.out.wa.ds hgd (dvL_c D) (by decide) hei) (part_of (off := 0) (sub := Dv.cs e) (by kernel_rfl)) U109 rfl S109)) <| ?_
    try simp only [pS]
    refine uR (.pointer (some ⟨wr.heap.size, 0, none⟩)) (wr.alloc (.cells (Dv.cells dvZ) 109)) (exec_alloc 109 rfl (Dv.cells dvZ) Z109) ?_
    try simp only [pS]
    have HF : Hid (Rg w (wr.alloc (.cells (Dv.cells dvZ) 109)) n0 J b v x mp I H U D L [(gk1, 109, Dv.cells ⟨false, cl, beg, en, da, ⟨er, enZ, slZ, ra, 0, st, 0⟩⟩), (gk3, 41, Sp.cells st), (wr.heap.size, 109, Dv.cells dvZ)] [(ra, rz), (e.da, pi.z)]) := HF.out.alloc _ _
    generalize wr.alloc (.cells (Dv.cells dvZ) 109) = wk7 at HF ⊢
    generalize wr.heap.size = gk6 at HF ⊢
    refine uT 109 ⟨gk6, 0, none⟩ (.agg (Dv.cells e)) (wk7.setRow gk6 (Dv.cells e)) (rs (Dv.cs dvZ) (Dv.cs e) (Dv.cs e) (HF.out.box 2 _ _ _ rfl) S109 (Dv.oneL _)) ?_
    try simp only [pS]
    have HF : Hid (Rg w (wk7.setRow gk6 (Dv.cells e)) n0 J b v x mp I H U D L [(gk1, 109, Dv.cells ⟨false, cl, beg, en, da, ⟨er, enZ, slZ, ra, 0, st, 0⟩⟩), (gk3, 41, Sp.cells st), (gk6, 109, Dv.cells e)] [(ra, rz), (e.da, pi.z)]) := HF.out.set 2 rfl _
    generalize wk7.setRow gk6 (Dv.cells e) = wk8 at HF ⊢
    refine WL.nil ?_
    try simp only [pS]
    go_upto_region 10 with fail
    refine WL.start <| uK (.pointer (some ⟨gk6, 0, none⟩)) <| uL 4 ⟨gk6, 0, none⟩ (.bool e.wr) (load_one ((HF.out.box 2 _ _ _ rfl).cell 0 |>.trans (by kernel_rfl)) U4 rfl) <| ?_
    try simp only [pS]
    cases q1 : (e.wr)
    ·skip
     try simp only [q1]
     refine uK (.bool true) <| uK (.bool true) <| uZ <| uZ <| uZ <| uZ <| uZ <| uK (.bool true) <| ?_
     try simp only [pS]
     refine uK (.bool true) <| uZ <| uZ <| uZ <| uZ <| uZ <| uZ <| uZ <| ?_
     try simp only [pS]
     refine uK (.bool true) <| uK (.bool true) <| uZ <| uZ <| uZ <| uZ <| uZ <| uK (.bool true) <| WL.nil <| ?_
     try simp only [pS]
     have hij : i + 1 ≤ j := by
       rcases Nat.lt_or_ge i j with h | h
       · exact h
       · exfalso
         have e1 : i = j := by omega
         subst e1
         have e2 : pi = dj := Option.some.inj (hpi.symm.trans hdj)
         subst e2
         rw [hwr, hjw] at q1
         cases q1
     have HF : Hid (Rg w wk8 n0 J b v x mp I H U D L [(gk1, 109, Dv.cells ⟨false, cl, beg, en, da, ⟨er, enZ, slZ, ra, 0, st, 0⟩⟩), (gk3, 41, Sp.cells st)] [(ra, rz)]) := (Rg.front (l := [(gk1, 109, Dv.cells ⟨false, cl, beg, en, da, ⟨er, enZ, slZ, ra, 0, st, 0⟩⟩), (gk3, 41, Sp.cells st)]) HF.out).setQ (fun y hy => by rw [List.mem_singleton.1 hy]; exact HBz.out)
     go_upto_region 8 with fail
     refine WL.start <| uK (.int .i64 ((i : Nat) : Int)) <| uB .add 3 (.int .i64 ((i : Nat) : Int)) (.int .i64 1) (.int .i64 (((i + 1) : Nat) : Int)) (b_addw _ _ _ (by rw [IntKind.wrap_i64]; omega) _) <| uK (.int .i64 (((i + 1) : Nat) : Int)) <| WL.nil <| ?_
     try simp only [pS]
     go_wp2
     go_roundw
     case rel => exact ⟨i + 1, by go_num, hij, HF⟩
     case measure => simp [intOf]; omega
    ·skip
     try simp only [q1]
     refine uK (.bool false) <| uK (.bool false) <| uK (.pointer (some ⟨gk6, 1, none⟩)) <| uL 3 ⟨gk6, 1, none⟩ (.int .i64 e.cl) (load_one ((HF.out.box 2 _ _ _ rfl).cell 1 |>.trans (by kernel_rfl)) U3 rfl) <| uK (.pointer (some ⟨gk3, 1, none⟩)) <| uL 3 ⟨gk3, 1, none⟩ (.int .i64 st.c) (load_one ((HF.out.box 1 _ _ _ rfl).cell 1 |>.trans (by kernel_rfl)) U3 rfl) <| ?_
     try simp only [pS]
     cases q2 : (e.cl == st.c)
     ·skip
      refine uB .neq 3 (.int .i64 e.cl) (.int .i64 st.c) (.bool true) (by rw [b_neq, q2]; try rfl) <| uK (.bool true) <| uK (.bool true) <| uZ <| uZ <| uZ <| uZ <| uZ <| ?_
      try simp only [pS]
      refine uZ <| uZ <| uK (.bool true) <| uK (.bool true) <| uZ <| uZ <| uZ <| uZ <| ?_
      try simp only [pS]
      refine uZ <| uK (.bool true) <| WL.nil <| ?_
      try simp only [pS]
      have hij : i + 1 ≤ j := by
        rcases Nat.lt_or_ge i j with h | h
        · exact h
        · exfalso
          have e1 : i = j := by omega
          subst e1
          have e2 : pi = dj := Option.some.inj (hpi.symm.trans hdj)
          subst e2
          rw [hcl, hjc, beq_self_eq_true] at q2
          cases q2
      have HF : Hid (Rg w wk8 n0 J b v x mp I H U D L [(gk1, 109, Dv.cells ⟨false, cl, beg, en, da, ⟨er, enZ, slZ, ra, 0, st, 0⟩⟩), (gk3, 41, Sp.cells st)] [(ra, rz)]) := (Rg.front (l := [(gk1, 109, Dv.cells ⟨false, cl, beg, en, da, ⟨er, enZ, slZ, ra, 0, st, 0⟩⟩), (gk3, 41, Sp.cells st)]) HF.out).setQ (fun y hy => by rw [List.mem_singleton.1 hy]; exact HBz.out)
      go_upto_region 8 with fail
      refine WL.start <| uK (.int .i64 ((i : Nat) : Int)) <| uB .add 3 (.int .i64 ((i : Nat) : Int)) (.int .i64 1) (.int .i64 (((i + 1) : Nat) : Int)) (b_addw _ _ _ (by rw [IntKind.wrap_i64]; omega) _) <| uK (.int .i64 (((i + 1) : Nat) : Int)) <| WL.nil <| ?_
      try simp only [pS]
      go_wp2
      go_roundw
      case rel => exact ⟨i + 1, by go_num, hij, HF⟩
      case measure => simp [intOf]; omega
     ·skip
      refine uB .neq 3 (.int .i64 e.cl) (.int .i64 st.c) (.bool false) (by rw [b_neq, q2]; try rfl) <| uK (.bool false) <| uK (.bool false) <| uK (.pointer (some ⟨gk6, 4, none⟩)) <| uL 25 ⟨gk6, 4, none⟩ (e.da.v) (load_one ((HF.out.box 2 _ _ _ rfl).cell 4 |>.trans (by kernel_rfl)) U25 rfl) <| uK (.pointer (some ⟨gk1, 5, none⟩)) <| uK (.pointer (some ⟨gk1, 11, none⟩)) <| uL 25 ⟨gk1, 11, none⟩ (ra.v) (load_one ((HF.out.box 0 _ _ _ rfl).cell 11 |>.trans (by kernel_rfl)) U25 rfl) <| ?_
      try simp only [pS]
      refine uC 17 #[e.da.v, ra.v] (same_by (HF.out.qs 1 _ rfl) (HF.out.qs 0 _ rfl)) ?_
      rintro e wk9 ⟨rfl, hk⟩
      have HF : Hid (Rg w wk9 n0 J b v x mp I H U D L [(gk1, 109, Dv.cells ⟨false, cl, beg, en, da, ⟨er, enZ, slZ, ra, 0, st, 0⟩⟩), (gk3, 41, Sp.cells st), (gk6, 109, Dv.cells e)] [(ra, rz), (e.da, pi.z)]) := HF.out.no hk
      clear hk
      refine ⟨.bool (eqB pi.z rz), rfl, ?_⟩
      try simp only [pS]
      cases q3 : ((eqB pi.z rz))
      ·skip
       try simp only [q3]
       refine uK (.bool true) <| uK (.bool true) <| uK (.bool true) <| uZ <| uZ <| uZ <| uZ <| uZ <| ?_
       try simp only [pS]
       refine uK (.bool true) <| WL.nil <| ?_
       try simp only [pS]
       have hij : i + 1 ≤ j := by
         rcases Nat.lt_or_ge i j with h | h
         · exact h
         · exfalso
           have e1 : i = j := by omega
           subst e1
           have e2 : pi = dj := Option.some.inj (hpi.symm.trans hdj)
           subst e2
           rw [eqB_eq hjz] at q3
           cases q3
       have HF : Hid (Rg w wk9 n0 J b v x mp I H U D L [(gk1, 109, Dv.cells ⟨false, cl, beg, en, da, ⟨er, enZ, slZ, ra, 0, st, 0⟩⟩), (gk3, 41, Sp.cells st)] [(ra, rz)]) := (Rg.front (l := [(gk1, 109, Dv.cells ⟨false, cl, beg, en, da, ⟨er, enZ, slZ, ra, 0, st, 0⟩⟩), (gk3, 41, Sp.cells st)]) HF.out).setQ (fun y hy => by rw [List.mem_singleton.1 hy]; exact HBz.out)
       go_upto_region 8 with fail
       refine WL.start <| uK (.int .i64 ((i : Nat) : Int)) <| uB .add 3 (.int .i64 ((i : Nat) : Int)) (.int .i64 1) (.int .i64 (((i + 1) : Nat) : Int)) (b_addw _ _ _ (by rw [IntKind.wrap_i64]; omega) _) <| uK (.int .i64 (((i + 1) : Nat) : Int)) <| WL.nil <| ?_
       try simp only [pS]
       go_wp2
       go_roundw
       case rel => exact ⟨i + 1, by go_num, hij, HF⟩
       case measure => simp [intOf]; omega
      ·skip
       try simp only [q3]
       refine uK (.bool false) <| uK (.bool false) <| uK (.bool false) <| uK (.pointer (some ⟨gk6, 2, none⟩)) <| uL 3 ⟨gk6, 2, none⟩ (.int .i64 e.beg) (load_one ((HF.out.box 2 _ _ _ rfl).cell 2 |>.trans (by kernel_rfl)) U3 rfl) <| uK (.pointer (some ⟨gk1, 3, none⟩)) <| uL 3 ⟨gk1, 3, none⟩ (.int .i64 en) (load_one ((HF.out.box 0 _ _ _ rfl).cell 3 |>.trans (by kernel_rfl)) U3 rfl) <| ?_
       try simp only [pS]
       cases q4 : (decide (en < e.beg))
       ·skip
        refine uB .gtr 3 (.int .i64 e.beg) (.int .i64 en) (.bool false) (by rw [b_gtr, q4]; try rfl) <| uK (.bool false) <| WL.nil <| ?_
        try simp only [pS]
        go_upto_region 11 with fail
        refine WL.start <| uK (.pointer (some ⟨gk6, 3, none⟩)) <| uL 3 ⟨gk6, 3, none⟩ (.int .i64 e.en) (load_one ((HF.out.box 2 _ _ _ rfl).cell 3 |>.trans (by kernel_rfl)) U3 rfl) <| ?_
        try simp only [pS]
        cases q5 : (e.en == 0)
        ·skip
         refine uB .eql 3 (.int .i64 e.en) (.int .i64 0) (.bool false) (by rw [b_eql, q5]; try rfl) <| uK (.bool false) <| uK (.pointer (some ⟨gk6, 5, none⟩)) <| uK (.pointer (some ⟨gk6, 5, none⟩)) <| uL 86 ⟨gk6, 5, none⟩ (.int .i64 e.r.er) (load_one ((HF.out.box 2 _ _ _ rfl).cell 5 |>.trans (by kernel_rfl)) U86 rfl) <| ?_
         try simp only [pS]
         cases q6 : (e.r.er == 0)
         ·skip
          refine uB .neq 86 (.int .i64 e.r.er) (.int .i64 0) (.bool true) (by rw [b_neq86, q6]; try rfl) <| uK (.bool true) <| uK (.bool true) <| uZ <| uZ <| uZ <| uZ <| uZ <| ?_
          try simp only [pS]
          refine uK (.bool true) <| WL.nil <| ?_
          try simp only [pS]
          go_upto_region 12 with fail
          refine WL.start <| uK (.bool true) <| WL.nil <| ?_
          try simp only [pS]
          go_wp2
          rw [HC.out]
          exact ⟨rfl, HF.out.kept⟩
         ·skip
          refine uB .neq 86 (.int .i64 e.r.er) (.int .i64 0) (.bool false) (by rw [b_neq86, q6]; try rfl) <| uK (.bool false) <| uK (.bool false) <| uK (.pointer (some ⟨gk6, 5, none⟩)) <| uK (.pointer (some ⟨gk6, 13, none⟩)) <| uL 41 ⟨gk6, 13, none⟩ (.agg (Sp.cells e.r.st)) (run_load_part (cs := Dv.cs e) (sub := Sp.cs e.r.st) (HF.out.box 2 _ _ _ rfl) (part_of (by kernel_rfl)) U41 rfl S41) <| uL 41 ⟨gk3, 0, none⟩ (.agg (Sp.cells st)) (run_load_part (cs := Sp.cs st) (sub := Sp.cs st) (HF.out.box 1 _ _ _ rfl) (Part.all _) U41 rfl S41) <| ?_
          try simp only [pS]
          cases q7 : (eqS e.r.st st)
          ·skip
           refine uB .eql 41 (.agg (Sp.cells e.r.st)) (.agg (Sp.cells st)) (.bool false) (by rw [eqS_eql, q7]; try rfl) <| uK (.bool false) <| WL.nil <| ?_
           try simp only [pS]
           have hij : i + 1 ≤ j := by
             rcases Nat.lt_or_ge i j with h | h
             · exact h
             · exfalso
               have e1 : i = j := by omega
               subst e1
               have e2 : pi = dj := Option.some.inj (hpi.symm.trans hdj)
               subst e2
               rcases hjo with h4 | h4 | h4
               · rw [hen, h4] at q5
                 cases q5
               · exact h4 (by rw [← her]; exact beq_iff_eq.1 q6)
               · rw [hes, h4, eqS_refl] at q7
                 cases q7
           have HF : Hid (Rg w wk9 n0 J b v x mp I H U D L [(gk1, 109, Dv.cells ⟨false, cl, beg, en, da, ⟨er, enZ, slZ, ra, 0, st, 0⟩⟩), (gk3, 41, Sp.cells st)] [(ra, rz)]) := (Rg.front (l := [(gk1, 109, Dv.cells ⟨false, cl, beg, en, da, ⟨er, enZ, slZ, ra, 0, st, 0⟩⟩), (gk3, 41, Sp.cells st)]) HF.out).setQ (fun y hy => by rw [List.mem_singleton.1 hy]; exact HBz.out)
           go_upto_region 8 with fail
           refine WL.start <| uK (.int .i64 ((i : Nat) : Int)) <| uB .add 3 (.int .i64 ((i : Nat) : Int)) (.int .i64 1) (.int .i64 (((i + 1) : Nat) : Int)) (b_addw _ _ _ (by rw [IntKind.wrap_i64]; omega) _) <| uK (.int .i64 (((i + 1) : Nat) : Int)) <| WL.nil <| ?_
           try simp only [pS]
           go_wp2
           go_roundw
           case rel => exact ⟨i + 1, by go_num, hij, HF⟩
           case measure => simp [intOf]; omega
          ·skip
           refine uB .eql 41 (.agg (Sp.cells e.r.st)) (.agg (Sp.cells st)) (.bool true) (by rw [eqS_eql, q7]; try rfl) <| uK (.bool true) <| WL.nil <| ?_
           try simp only [pS]
           go_upto_region 12 with fail
           refine WL.start <| uK (.bool true) <| WL.nil <| ?_
           try simp only [pS]
           go_wp2
           rw [HC.out]
           exact ⟨rfl, HF.out.kept⟩
        ·skip
         refine uB .eql 3 (.int .i64 e.en) (.int .i64 0) (.bool true) (by rw [b_eql, q5]; try rfl) <| uK (.bool true) <| uZ <| uZ <| uZ <| uZ <| uK (.bool true) <| uK (.bool true) <| ?_
         try simp only [pS]
         refine uZ <| uZ <| uZ <| uZ <| uZ <| uK (.bool true) <| WL.nil <| ?_
         try simp only [pS]
         go_upto_region 12 with fail
         refine WL.start <| uK (.bool true) <| WL.nil <| ?_
         try simp only [pS]
         go_wp2
         rw [HC.out]
         exact ⟨rfl, HF.out.kept⟩
       ·skip
        refine uB .gtr 3 (.int .i64 e.beg) (.int .i64 en) (.bool true) (by rw [b_gtr, q4]; try rfl) <| uK (.bool true) <| WL.nil <| ?_
        try simp only [pS]
        have hij : i + 1 ≤ j := by
          rcases Nat.lt_or_ge i j with h | h
          · exact h
          · exfalso
            have e1 : i = j := by omega
            subst e1
            have e2 : pi = dj := Option.some.inj (hpi.symm.trans hdj)
            subst e2
            have h1 := of_decide_eq_true q4
            omega
        have HF : Hid (Rg w wk9 n0 J b v x mp I H U D L [(gk1, 109, Dv.cells ⟨false, cl, beg, en, da, ⟨er, enZ, slZ, ra, 0, st, 0⟩⟩), (gk3, 41, Sp.cells st)] [(ra, rz)]) := (Rg.front (l := [(gk1, 109, Dv.cells ⟨false, cl, beg, en, da, ⟨er, enZ, slZ, ra, 0, st, 0⟩⟩), (gk3, 41, Sp.cells st)]) HF.out).setQ (fun y hy => by rw [List.mem_singleton.1 hy]; exact HBz.out)
        go_upto_region 8 with fail
        refine WL.start <| uK (.int .i64 ((i : Nat) : Int)) <| uB .add 3 (.int .i64 ((i : Nat) : Int)) (.int .i64 1) (.int .i64 (((i + 1) : Nat) : Int)) (b_addw _ _ _ (by rw [IntKind.wrap_i64]; omega) _) <| uK (.int .i64 (((i + 1) : Nat) : Int)) <| WL.nil <| ?_
        try simp only [pS]
        go_wp2
        go_roundw
        case rel => exact ⟨i + 1, by go_num, hij, HF⟩
        case measure => simp [intOf]; omega

end Go.Proofs.Ytgiokkcdgoloaaa.Md
