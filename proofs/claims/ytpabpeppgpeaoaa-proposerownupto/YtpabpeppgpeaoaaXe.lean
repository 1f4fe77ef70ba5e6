import Derived.Test.YtpabpeppgpeaoaaXd
namespace Go.Proofs.Ytpabpeppgpeaoaa.Md
open Go.RowKit Gt Gx
set_option linter.unusedVariables false
set_option linter.unusedSimpArgs false

set_option maxRecDepth 100000 in
set_option maxHeartbeats 4000000 in
theorem taken_any  (w : World) : Calls Try.prog 23 #[] w (fun e w' => e = .returned (.bool true) ∧ Kept No w w') := by
  obtain ⟨C, hC⟩ : ∃ C : Ending → World → Prop, C = (fun e w' => e = .returned (.bool true) ∧ Kept No w w') := ⟨_, rfl⟩
  have HC : Hid (C = (fun e w' => e = .returned (.bool true) ∧ Kept No w w')) := hC
  rw [← hC]
  clear hC
  have HF : Hid (Fq No w w []) := Fq.start _ _
  go_enter Try.func23, Try.ntmps23
  go_upto_region 0 with fail
  refine WL.start <| uK (.bool false) <| WL.nil <| ?_
  try simp only [pS]
  go_upto_region 1 with fail
  refine WL.start <| uW (.agg (Ky.cells ⟨3, 1, 4, 0⟩)) (exec_build 23 _ rfl (Ky.cells ⟨3, 1, 4, 0⟩) (by kernel_rfl)) <| ?_
  try simp only [pS]
  refine uR (pV w.heap.size 0) (w.alloc (.cells (Ky.cells kyZ) 23)) (exec_alloc 23 rfl (Ky.cells kyZ) Z23) ?_
  try simp only [pS]
  have HF : Hid (Fq No w (w.alloc (.cells (Ky.cells kyZ) 23)) [(w.heap.size, 23, Ky.cells kyZ)]) := HF.out.alloc _ _
  generalize w.alloc (.cells (Ky.cells kyZ) 23) = wk2 at HF ⊢
  generalize w.heap.size = gk1 at HF ⊢
  refine uT 23 ⟨gk1, 0, none⟩ (.agg (Ky.cells ⟨3, 1, 4, 0⟩)) (wk2.setRow gk1 (Ky.cells ⟨3, 1, 4, 0⟩)) (rs (Ky.cs kyZ) (Ky.cs ⟨3, 1, 4, 0⟩) (Ky.cs ⟨3, 1, 4, 0⟩) (HF.out.box 0 _ _ _ rfl) S23 (Ky.oneL _)) ?_
  try simp only [pS]
  have HF : Hid (Fq No w (wk2.setRow gk1 (Ky.cells ⟨3, 1, 4, 0⟩)) [(gk1, 23, Ky.cells ⟨3, 1, 4, 0⟩)]) := HF.out.set 0 rfl _
  generalize wk2.setRow gk1 (Ky.cells ⟨3, 1, 4, 0⟩) = wk3 at HF ⊢
  refine WL.nil ?_
  try simp only [pS]
  go_upto_region 2 with fail
  go_cut [2] from 15 to 18 (fun v2 wc => ∃ (p : Nat) (I : Nat → Prop), v2 = .pointer (some ⟨p, 0, none⟩) ∧ Hid (Og w wc I p q0 [(gk1, 23, Ky.cells ⟨3, 1, 4, 0⟩)] []))
  case first =>
   rename_i J0 K0 hJ0 hK0
   refine wp_region_held_drew (S := fun w' => Box w' gk1 23 (Ky.cells ⟨3, 1, 4, 0⟩)) rfl (HF.out.box 0 _ _ _ rfl) (fun hH => ?_)
   have HF : Hid (Fq No w (wk3.drew) [(gk1, 23, Ky.cells ⟨3, 1, 4, 0⟩)]) := HF.out.drew
   generalize wk3.drew = wk4 at HF hH ⊢
   refine xL 0 15 23 ⟨gk1, 0, none⟩ (.agg (Ky.cells ⟨3, 1, 4, 0⟩)) (fun _ hw => run_load_part (cs := Ky.cs ⟨3, 1, 4, 0⟩) (sub := Ky.cs ⟨3, 1, 4, 0⟩) (hw) (Part.all _) U23 rfl S23) hH ?_
   try simp only [pS]
   refine any_pick (rs := [1, 2]) (by kernel_rfl) (by simp) ?_
   intro i hi
   rcases pick2 hi with rfl | rfl
   ·skip
    clear hi
    refine step_run (i := 1) (o := { dst := some 16, op := Op.buildSlice 24 3 #[(0, Operand.const (Value.int IntKind.i64 4)), (1, Operand.const (Value.int IntKind.i64 7)), (2, Operand.const (Value.int IntKind.i64 5))], type := 24, pos := "outright.go:260", after := #[], guard := none }) (v := .slice (some ⟨wk4.heap.size, 0, none⟩) 3 3) (w' := wk4.alloc (.cells #[.int .i64 4, .int .i64 7, .int .i64 5] 3)) rfl (by kernel_rfl) (exec_slice3o _ rfl (by kernel_rfl)) ((hH.alloc _)) (fun hH => ?_)
    try simp only [pS]
    have HF : Hid (Fq No w (wk4.alloc (.cells #[.int .i64 4, .int .i64 7, .int .i64 5] 3)) [(gk1, 23, Ky.cells ⟨3, 1, 4, 0⟩), (wk4.heap.size, 3, #[.int .i64 4, .int .i64 7, .int .i64 5])]) := HF.out.alloc _ _
    generalize wk4.alloc (.cells #[.int .i64 4, .int .i64 7, .int .i64 5] 3) = wk6 at HF hH ⊢
    generalize wk4.heap.size = gk5 at HF ⊢
    refine xC 2 17 24 #[.int .i64 2] (cmd2 _) ?_
    rintro e wk7 ⟨rfl, hk⟩
    have hH2 : Box wk7 gk1 23 (Ky.cells ⟨3, 1, 4, 0⟩) := (hH.kept hk (fun e => e))
    have HF : Hid (Fq No w (wk7) [(gk1, 23, Ky.cells ⟨3, 1, 4, 0⟩), (gk5, 3, #[.int .i64 4, .int .i64 7, .int .i64 5])]) := HF.out.no hk
    clear hk
    refine ⟨.agg (Cm.cells c2), rfl, hH2, fun hH => ?_⟩
    clear hH2
    try simp only [pS]
    refine xC 3 18 9 #[.int .i64 2, .int .i64 3, .agg (Ky.cells ⟨3, 1, 4, 0⟩), .slice (some ⟨gk5, 0, none⟩) 3 3, .agg (Cm.cells c2), .int .i64 5, .int .i64 6] (new_P 2 3 (jK oK) _ 3 3 [4, 7, 5] (Ytpabpeppgpeaoaa.cmdOf 2) 5 6 _ rfl (by decide) (Box.nums (zs := [4, 7, 5]) (HF.out.box 1 _ _ _ rfl) 3)) ?_
    rintro e wk8 ⟨p, I, rfl, hP, hI, hk⟩
    have hH2 : Box wk8 gk1 23 (Ky.cells ⟨3, 1, 4, 0⟩) := (hH.kept hk (fun e => e))
    have HF : Hid (Og w (wk8) I p q0 [(gk1, 23, Ky.cells ⟨3, 1, 4, 0⟩), (gk5, 3, #[.int .i64 4, .int .i64 7, .int .i64 5])] []) := Og.start HF.out hP hI hk
    clear hP hI hk
    refine ⟨.pointer (some ⟨p, 0, none⟩), rfl, hH2, fun hH => ?_⟩
    clear hH2
    try simp only [pS]
    refine xV 4 2 (pV p 0) hH ?_
    try simp only [pS]
    refine wpAnyH_done (by kernel_rfl) ?_ _
    try simp only [pS]
    clear hH
    have HF : Hid (Og w (wk8) I p q0 [(gk1, 23, Ky.cells ⟨3, 1, 4, 0⟩)] []) := Og.front (l2 := [(gk5, 3, #[.int .i64 4, .int .i64 7, .int .i64 5])]) HF.out
    refine hK0 _ _ (Met.intro (hJ0 _ _ ?_))
    (repeat apply Exists.intro)
    refine ⟨?_, rfl⟩
    exact ⟨p, I, rfl, HF⟩
   ·skip
    clear hi
    refine step_call (i := 2) (o := { dst := some 17, op := Op.call { callee := Callee.value (Operand.func 24), args := #[Operand.const (Value.int IntKind.i64 2)], argTypes := #[3] }, type := 28, pos := "outright.go:260", after := #[], guard := none }) rfl (by kernel_rfl) 24 #[.int .i64 2] (by kernel_rfl) _ (cmd2 _) ?_
    rintro e wk9 ⟨rfl, hk⟩
    have hH2 : Box wk9 gk1 23 (Ky.cells ⟨3, 1, 4, 0⟩) := (hH.kept hk (fun e => e))
    have HF : Hid (Fq No w (wk9) [(gk1, 23, Ky.cells ⟨3, 1, 4, 0⟩)]) := HF.out.no hk
    clear hk
    refine ⟨.agg (Cm.cells c2), rfl, hH2, fun hH => ?_⟩
    clear hH2
    try simp only [pS]
    refine xP 1 16 (.slice (some ⟨wk9.heap.size, 0, none⟩) 3 3) (w' := wk9.alloc (.cells #[.int .i64 4, .int .i64 7, .int .i64 5] 3)) (exec_slice3o _ rfl (by kernel_rfl)) ((hH.alloc _)) (fun hH => ?_)
    try simp only [pS]
    have HF : Hid (Fq No w (wk9.alloc (.cells #[.int .i64 4, .int .i64 7, .int .i64 5] 3)) [(gk1, 23, Ky.cells ⟨3, 1, 4, 0⟩), (wk9.heap.size, 3, #[.int .i64 4, .int .i64 7, .int .i64 5])]) := HF.out.alloc _ _
    generalize wk9.alloc (.cells #[.int .i64 4, .int .i64 7, .int .i64 5] 3) = wk11 at HF hH ⊢
    generalize wk9.heap.size = gk10 at HF ⊢
    refine xC 3 18 9 #[.int .i64 2, .int .i64 3, .agg (Ky.cells ⟨3, 1, 4, 0⟩), .slice (some ⟨gk10, 0, none⟩) 3 3, .agg (Cm.cells c2), .int .i64 5, .int .i64 6] (new_P 2 3 (jK oK) _ 3 3 [4, 7, 5] (Ytpabpeppgpeaoaa.cmdOf 2) 5 6 _ rfl (by decide) (Box.nums (zs := [4, 7, 5]) (HF.out.box 1 _ _ _ rfl) 3)) ?_
    rintro e wk12 ⟨p, I, rfl, hP, hI, hk⟩
    have hH2 : Box wk12 gk1 23 (Ky.cells ⟨3, 1, 4, 0⟩) := (hH.kept hk (fun e => e))
    have HF : Hid (Og w (wk12) I p q0 [(gk1, 23, Ky.cells ⟨3, 1, 4, 0⟩), (gk10, 3, #[.int .i64 4, .int .i64 7, .int .i64 5])] []) := Og.start HF.out hP hI hk
    clear hP hI hk
    refine ⟨.pointer (some ⟨p, 0, none⟩), rfl, hH2, fun hH => ?_⟩
    clear hH2
    try simp only [pS]
    refine xV 4 2 (pV p 0) hH ?_
    try simp only [pS]
    refine wpAnyH_done (by kernel_rfl) ?_ _
    try simp only [pS]
    clear hH
    have HF : Hid (Og w (wk12) I p q0 [(gk1, 23, Ky.cells ⟨3, 1, 4, 0⟩)] []) := Og.front (l2 := [(gk10, 3, #[.int .i64 4, .int .i64 7, .int .i64 5])]) HF.out
    refine hK0 _ _ (Met.intro (hJ0 _ _ ?_))
    (repeat apply Exists.intro)
    refine ⟨?_, rfl⟩
    exact ⟨p, I, rfl, HF⟩
  case rest =>
   clear HF
   obtain ⟨p, I, rfl, HF⟩ := hcut
   go_upto_region 3 with fail
   refine WL.start <| uK (pV p 0) <| uB .eql 31 (pV p 0) (.pointer none) (.bool false) (by kernel_rfl) <| uK (.bool false) <| uK (pV p 0) <| ?_
   try simp only [pS]
   refine uC 18 #[pV p 0] (begin_P HF.out.prp) ?_
   rintro e wk13 ho
   obtain ⟨la1, lc1, I1, rfl, hF⟩ := HF.out.call' ho ql1 rfl
   have HF : Hid (Og w (wk13) I1 p q1 [(gk1, 23, Ky.cells ⟨3, 1, 4, 0⟩)] [(⟨la1, 3, lc1⟩, (begS q0).2.map dM)]) := hF
   clear ho hF
   obtain ⟨ga1, rfl⟩ := HF.out.sm (i := 0) (x := (⟨la1, 3, lc1⟩, (begS q0).2.map dM)) rfl (show 0 < 3 by decide)
   have HF : Hid (Og w (wk13) I1 p q1 [(gk1, 23, Ky.cells ⟨3, 1, 4, 0⟩)] []) := HF.out.pick [] (by decide) rfl
   refine ⟨.slice (some ⟨ga1, 0, none⟩) 3 lc1, rfl, ?_⟩
   try simp only [pS]
   refine uK (.int .i64 ((3 : Nat) : Int)) <| uB .neq 3 (.int .i64 ((3 : Nat) : Int)) (.int .i64 3) (.bool false) (by kernel_rfl) <| uK (.bool false) <| WL.nil <| ?_
   try simp only [pS]
   go_upto_region 5 with fail
   refine WL.start <| uW (.agg (Ad.cells ⟨false, 7⟩)) (exec_build 37 _ rfl (Ad.cells ⟨false, 7⟩) (by kernel_rfl)) <| uW (.agg (Ad.cells ⟨true, 2⟩)) (exec_build 37 _ rfl (Ad.cells ⟨true, 2⟩) (by kernel_rfl)) <| uL 23 ⟨gk1, 0, none⟩ (.agg (Ky.cells ⟨3, 1, 4, 0⟩)) (run_load_part (cs := Ky.cs ⟨3, 1, 4, 0⟩) (sub := Ky.cs ⟨3, 1, 4, 0⟩) (HF.out.box 0 _ _ _ rfl) (Part.all _) U23 rfl S23) <| uW (.agg (Sp.cells ⟨5, 2⟩)) (exec_build 39 _ rfl (Sp.cells ⟨5, 2⟩) (by kernel_rfl)) <| uW (.agg (Mg.cells ⟨13, ⟨false, 7⟩, ⟨true, 2⟩, 3, 6, ⟨3, 1, 4, 0⟩, ⟨5, 2⟩, spZ, slZ, cZ, bvZ, slZ, false⟩)) (exec_build 47 _ rfl (Mg.cells ⟨13, ⟨false, 7⟩, ⟨true, 2⟩, 3, 6, ⟨3, 1, 4, 0⟩, ⟨5, 2⟩, spZ, slZ, cZ, bvZ, slZ, false⟩) (by kernel_rfl)) <| ?_
   try simp only [pS]
   refine uR (pV wk13.heap.size 0) (wk13.alloc (.cells (Mg.cells mgZ) 47)) (exec_alloc 47 rfl (Mg.cells mgZ) Z47) ?_
   try simp only [pS]
   have HF : Hid (Og w (wk13.alloc (.cells (Mg.cells mgZ) 47)) I1 p q1 [(gk1, 23, Ky.cells ⟨3, 1, 4, 0⟩), (wk13.heap.size, 47, Mg.cells mgZ)] []) := HF.out.alloc _ _
   generalize wk13.alloc (.cells (Mg.cells mgZ) 47) = wk15 at HF ⊢
   generalize wk13.heap.size = gk14 at HF ⊢
   refine uT 47 ⟨gk14, 0, none⟩ (.agg (Mg.cells ⟨13, ⟨false, 7⟩, ⟨true, 2⟩, 3, 6, ⟨3, 1, 4, 0⟩, ⟨5, 2⟩, spZ, slZ, cZ, bvZ, slZ, false⟩)) (wk15.setRow gk14 (Mg.cells ⟨13, ⟨false, 7⟩, ⟨true, 2⟩, 3, 6, ⟨3, 1, 4, 0⟩, ⟨5, 2⟩, spZ, slZ, cZ, bvZ, slZ, false⟩)) (rs (Mg.cs mgZ) (Mg.cs ⟨13, ⟨false, 7⟩, ⟨true, 2⟩, 3, 6, ⟨3, 1, 4, 0⟩, ⟨5, 2⟩, spZ, slZ, cZ, bvZ, slZ, false⟩) (Mg.cs ⟨13, ⟨false, 7⟩, ⟨true, 2⟩, 3, 6, ⟨3, 1, 4, 0⟩, ⟨5, 2⟩, spZ, slZ, cZ, bvZ, slZ, false⟩) (HF.out.box 1 _ _ _ rfl) S47 (Mg.oneL _)) ?_
   try simp only [pS]
   have HF : Hid (Og w (wk15.setRow gk14 (Mg.cells ⟨13, ⟨false, 7⟩, ⟨true, 2⟩, 3, 6, ⟨3, 1, 4, 0⟩, ⟨5, 2⟩, spZ, slZ, cZ, bvZ, slZ, false⟩)) I1 p q1 [(gk1, 23, Ky.cells ⟨3, 1, 4, 0⟩), (gk14, 47, Mg.cells ⟨13, ⟨false, 7⟩, ⟨true, 2⟩, 3, 6, ⟨3, 1, 4, 0⟩, ⟨5, 2⟩, spZ, slZ, cZ, bvZ, slZ, false⟩)] []) := HF.out.set 1 rfl _
   generalize wk15.setRow gk14 (Mg.cells ⟨13, ⟨false, 7⟩, ⟨true, 2⟩, 3, 6, ⟨3, 1, 4, 0⟩, ⟨5, 2⟩, spZ, slZ, cZ, bvZ, slZ, false⟩) = wk16 at HF ⊢
   refine WL.nil ?_
   try simp only [pS]
   go_upto_region 6 with fail
   refine WL.start <| uK (pV p 0) <| uL 47 ⟨gk14, 0, none⟩ (.agg (Mg.cells ⟨13, ⟨false, 7⟩, ⟨true, 2⟩, 3, 6, ⟨3, 1, 4, 0⟩, ⟨5, 2⟩, spZ, slZ, cZ, bvZ, slZ, false⟩)) (run_load_part (cs := Mg.cs ⟨13, ⟨false, 7⟩, ⟨true, 2⟩, 3, 6, ⟨3, 1, 4, 0⟩, ⟨5, 2⟩, spZ, slZ, cZ, bvZ, slZ, false⟩) (sub := Mg.cs ⟨13, ⟨false, 7⟩, ⟨true, 2⟩, 3, 6, ⟨3, 1, 4, 0⟩, ⟨5, 2⟩, spZ, slZ, cZ, bvZ, slZ, false⟩) (HF.out.box 1 _ _ _ rfl) (Part.all _) U47 rfl S47) <| ?_
   try simp only [pS]
   refine uC 28 #[pV p 0, .agg (Mg.cells ⟨13, ⟨false, 7⟩, ⟨true, 2⟩, 3, 6, ⟨3, 1, 4, 0⟩, ⟨5, 2⟩, spZ, slZ, cZ, bvZ, slZ, false⟩)] (take_N HF.out.prp 13 7 2 3 6 (jK oK) 5 2) ?_
   rintro e wk17 ho
   obtain ⟨la2, lc2, I2, rfl, hF⟩ := HF.out.call' ho (congrArg List.length ql2) (congrArg (List.map dM) ql2)
   have HF : Hid (Og w (wk17) I2 p q2 [(gk1, 23, Ky.cells ⟨3, 1, 4, 0⟩), (gk14, 47, Mg.cells ⟨13, ⟨false, 7⟩, ⟨true, 2⟩, 3, 6, ⟨3, 1, 4, 0⟩, ⟨5, 2⟩, spZ, slZ, cZ, bvZ, slZ, false⟩)] [(⟨la2, 0, lc2⟩, [])]) := hF
   clear ho hF
   have HF : Hid (Og w (wk17) I2 p q2 [(gk1, 23, Ky.cells ⟨3, 1, 4, 0⟩), (gk14, 47, Mg.cells ⟨13, ⟨false, 7⟩, ⟨true, 2⟩, 3, 6, ⟨3, 1, 4, 0⟩, ⟨5, 2⟩, spZ, slZ, cZ, bvZ, slZ, false⟩)] []) := HF.out.pick [] (by decide) rfl
   refine ⟨.slice la2 0 lc2, rfl, ?_⟩
   try simp only [pS]
   refine uK (.slice la2 0 lc2) <| WL.nil <| ?_
   try simp only [pS]
   go_upto_region 7 with fail
   refine WL.start <| uK (pV gk14 1) <| uK (pV gk14 2) <| ?_
   try simp only [pS]
   refine uT 3 ⟨gk14, 2, none⟩ (.int .i64 5) (wk17.setRow gk14 (Mg.cells ⟨13, ⟨false, 5⟩, ⟨true, 2⟩, 3, 6, ⟨3, 1, 4, 0⟩, ⟨5, 2⟩, spZ, slZ, cZ, bvZ, slZ, false⟩)) (rs (Mg.cs ⟨13, ⟨false, 7⟩, ⟨true, 2⟩, 3, 6, ⟨3, 1, 4, 0⟩, ⟨5, 2⟩, spZ, slZ, cZ, bvZ, slZ, false⟩) ([.int .i64 5]) (Mg.cs ⟨13, ⟨false, 5⟩, ⟨true, 2⟩, 3, 6, ⟨3, 1, 4, 0⟩, ⟨5, 2⟩, spZ, slZ, cZ, bvZ, slZ, false⟩) (HF.out.box 1 _ _ _ rfl) S3 (by simp [Value.oneCell', Sl.v])) ?_
   try simp only [pS]
   have HF : Hid (Og w (wk17.setRow gk14 (Mg.cells ⟨13, ⟨false, 5⟩, ⟨true, 2⟩, 3, 6, ⟨3, 1, 4, 0⟩, ⟨5, 2⟩, spZ, slZ, cZ, bvZ, slZ, false⟩)) I2 p q2 [(gk1, 23, Ky.cells ⟨3, 1, 4, 0⟩), (gk14, 47, Mg.cells ⟨13, ⟨false, 5⟩, ⟨true, 2⟩, 3, 6, ⟨3, 1, 4, 0⟩, ⟨5, 2⟩, spZ, slZ, cZ, bvZ, slZ, false⟩)] []) := HF.out.set 1 rfl _
   generalize wk17.setRow gk14 (Mg.cells ⟨13, ⟨false, 5⟩, ⟨true, 2⟩, 3, 6, ⟨3, 1, 4, 0⟩, ⟨5, 2⟩, spZ, slZ, cZ, bvZ, slZ, false⟩) = wk18 at HF ⊢
   refine WL.nil ?_
   try simp only [pS]
   go_upto_region 8 with fail
   refine WL.start <| uK (pV p 0) <| uL 47 ⟨gk14, 0, none⟩ (.agg (Mg.cells ⟨13, ⟨false, 5⟩, ⟨true, 2⟩, 3, 6, ⟨3, 1, 4, 0⟩, ⟨5, 2⟩, spZ, slZ, cZ, bvZ, slZ, false⟩)) (run_load_part (cs := Mg.cs ⟨13, ⟨false, 5⟩, ⟨true, 2⟩, 3, 6, ⟨3, 1, 4, 0⟩, ⟨5, 2⟩, spZ, slZ, cZ, bvZ, slZ, false⟩) (sub := Mg.cs ⟨13, ⟨false, 5⟩, ⟨true, 2⟩, 3, 6, ⟨3, 1, 4, 0⟩, ⟨5, 2⟩, spZ, slZ, cZ, bvZ, slZ, false⟩) (HF.out.box 1 _ _ _ rfl) (Part.all _) U47 rfl S47) <| ?_
   try simp only [pS]
   refine uC 28 #[pV p 0, .agg (Mg.cells ⟨13, ⟨false, 5⟩, ⟨true, 2⟩, 3, 6, ⟨3, 1, 4, 0⟩, ⟨5, 2⟩, spZ, slZ, cZ, bvZ, slZ, false⟩)] (take_N HF.out.prp 13 5 2 3 6 (jK oK) 5 2) ?_
   rintro e wk19 ho
   obtain ⟨la3, lc3, I3, rfl, hF⟩ := HF.out.call' ho ql3 rfl
   have HF : Hid (Og w (wk19) I3 p q3 [(gk1, 23, Ky.cells ⟨3, 1, 4, 0⟩), (gk14, 47, Mg.cells ⟨13, ⟨false, 5⟩, ⟨true, 2⟩, 3, 6, ⟨3, 1, 4, 0⟩, ⟨5, 2⟩, spZ, slZ, cZ, bvZ, slZ, false⟩)] [(⟨la3, 3, lc3⟩, aM)]) := hF
   clear ho hF
   obtain ⟨ga3, rfl⟩ := HF.out.sm (i := 0) (x := (⟨la3, 3, lc3⟩, aM)) rfl (show 0 < 3 by decide)
   refine ⟨.slice (some ⟨ga3, 0, none⟩) 3 lc3, rfl, ?_⟩
   try simp only [pS]
   refine uK (.slice (some ⟨ga3, 0, none⟩) 3 lc3) <| WL.nil <| ?_
   try simp only [pS]
   go_upto_region 9 with fail
   refine WL.start <| uK (pV p 0) <| ?_
   try simp only [pS]
   refine uC 25 #[pV p 0] (tick3 HF.out.prp) ?_
   rintro e wk20 ho
   obtain ⟨la4, lc4, I4, rfl, hF⟩ := HF.out.call' ho ql3 rfl
   have HF : Hid (Og w (wk20) I4 p q3 [(gk1, 23, Ky.cells ⟨3, 1, 4, 0⟩), (gk14, 47, Mg.cells ⟨13, ⟨false, 5⟩, ⟨true, 2⟩, 3, 6, ⟨3, 1, 4, 0⟩, ⟨5, 2⟩, spZ, slZ, cZ, bvZ, slZ, false⟩)] [(⟨(some ⟨ga3, 0, none⟩), 3, lc3⟩, aM), (⟨la4, 3, lc4⟩, aM)]) := hF
   clear ho hF
   obtain ⟨ga4, rfl⟩ := HF.out.sm (i := 1) (x := (⟨la4, 3, lc4⟩, aM)) rfl (show 0 < 3 by decide)
   refine ⟨.slice (some ⟨ga4, 0, none⟩) 3 lc4, rfl, ?_⟩
   try simp only [pS]
   refine uK (.slice (some ⟨ga4, 0, none⟩) 3 lc4) <| WL.nil <| ?_
   try simp only [pS]
   go_upto_region 10 with fail
   refine WL.start ?_
   obtain ⟨wa1, wk1, wx1, hapc, hF2⟩ := HF.out.copy (i := 0) (x := (⟨(some ⟨ga3, 0, none⟩), 3, lc3⟩, aM)) rfl (show 3 ≤ 2000000 by decide)
   have hapc : (Builtin.append_ #[66, 66] 66 #[.slice (some ⟨wk20.heap.size, 0, none⟩) 0 0, .slice (some ⟨ga3, 0, none⟩) 3 lc3]).run Try.prog (wk20.alloc (.cells #[] 47)) = .ok (.slice wa1 3 wk1) wx1 := hapc
   refine uR (.slice (some ⟨wk20.heap.size, 0, none⟩) 0 0) (wk20.alloc (.cells #[] 47)) (exec_slice0m rfl) ?_
   try simp only [pS]
   refine uK (.slice (some ⟨ga3, 0, none⟩) 3 lc3) ?_
   try simp only [pS]
   refine uR (.slice wa1 3 wk1) wx1 (exec_appN _ _ 66 66 rfl _ _ (by kernel_rfl) (by kernel_rfl) hapc) ?_
   try simp only [pS]
   have HF : Hid (Og w (wx1) I4 p q3 [(gk1, 23, Ky.cells ⟨3, 1, 4, 0⟩), (gk14, 47, Mg.cells ⟨13, ⟨false, 5⟩, ⟨true, 2⟩, 3, 6, ⟨3, 1, 4, 0⟩, ⟨5, 2⟩, spZ, slZ, cZ, bvZ, slZ, false⟩)] [(⟨(some ⟨ga3, 0, none⟩), 3, lc3⟩, aM), (⟨(some ⟨ga4, 0, none⟩), 3, lc4⟩, aM), (⟨wa1, 3, wk1⟩, aM)]) := hF2
   clear hF2 hapc
   refine uK (.slice wa1 3 wk1) <| WL.nil <| ?_
   try simp only [pS]
   go_upto_region 11 with fail
   refine WL.start <| uK (pV p 0) <| ?_
   try simp only [pS]
   refine uC 25 #[pV p 0] (tick3 HF.out.prp) ?_
   rintro e wk21 ho
   obtain ⟨la5, lc5, I5, rfl, hF⟩ := HF.out.call' ho ql3 rfl
   have HF : Hid (Og w (wk21) I5 p q3 [(gk1, 23, Ky.cells ⟨3, 1, 4, 0⟩), (gk14, 47, Mg.cells ⟨13, ⟨false, 5⟩, ⟨true, 2⟩, 3, 6, ⟨3, 1, 4, 0⟩, ⟨5, 2⟩, spZ, slZ, cZ, bvZ, slZ, false⟩)] [(⟨(some ⟨ga3, 0, none⟩), 3, lc3⟩, aM), (⟨(some ⟨ga4, 0, none⟩), 3, lc4⟩, aM), (⟨wa1, 3, wk1⟩, aM), (⟨la5, 3, lc5⟩, aM)]) := hF
   clear ho hF
   obtain ⟨ga5, rfl⟩ := HF.out.sm (i := 3) (x := (⟨la5, 3, lc5⟩, aM)) rfl (show 0 < 3 by decide)
   refine ⟨.slice (some ⟨ga5, 0, none⟩) 3 lc5, rfl, ?_⟩
   try simp only [pS]
   refine uK (.slice (some ⟨ga5, 0, none⟩) 3 lc5) <| WL.nil <| ?_
   try simp only [pS]
   have HA : Hid (wk21.cell? ⟨ga3, 0 + 0 * 30, none⟩ = some (.int .i64 4)) := by
     obtain ⟨m, h1, h2⟩ := aM_0
     rw [← h2]
     exact HF.out.cell (i := 0) (x := (⟨(some ⟨ga3, 0, none⟩), 3, lc3⟩, aM)) rfl rfl h1 0 rfl
   go_upto_region 12 with fail
   refine WL.start <| uK (.slice la2 0 lc2) <| uK (.int .i64 ((0 : Nat) : Int)) <| uB .neq 3 (.int .i64 ((0 : Nat) : Int)) (.int .i64 0) (.bool false) (by kernel_rfl) <| uK (.bool false) <| uK (.slice (some ⟨ga3, 0, none⟩) 3 lc3) <| uK (.int .i64 ((3 : Nat) : Int)) <| uB .neq 3 (.int .i64 ((3 : Nat) : Int)) (.int .i64 3) (.bool false) (by kernel_rfl) <| ?_
   try simp only [pS]
   refine uK (.bool false) <| uK (.bool false) <| uK (.slice (some ⟨ga3, 0, none⟩) 3 lc3) <| uW (pV ga3 (0 + 0 * 30)) (exec_ixA 66 30 E66 F66 _ _ rfl ga3 0 3 lc3 0 (by kernel_rfl) (by kernel_rfl) (by decide)) <| uK (pV ga3 (0 + 0 * 30)) <| uL 3 ⟨ga3, 0 + 0 * 30, none⟩ (.int .i64 4) (load_one HA.out U3 rfl) <| uB .neq 3 (.int .i64 4) (.int .i64 4) (.bool false) (by kernel_rfl) <| uK (.bool false) <| ?_
   try simp only [pS]
   refine uK (.bool false) <| uK (.slice (some ⟨ga3, 0, none⟩) 3 lc3) <| uK (.slice (some ⟨ga4, 0, none⟩) 3 lc4) <| ?_
   try simp only [pS]
   refine uC 26 #[.slice (some ⟨ga3, 0, none⟩) 3 lc3, .slice (some ⟨ga4, 0, none⟩) 3 lc4] (sameMs_any ⟨(some ⟨ga3, 0, none⟩), 3, lc3⟩ ⟨(some ⟨ga4, 0, none⟩), 3, lc4⟩ aM _ (HF.out.rd (i := 0) rfl) (HF.out.rd (i := 1) rfl) aM_pl (show 3 ≤ 2000000 by decide)) ?_
   rintro e wk22 ⟨rfl, hk⟩
   have HF : Hid (Og w (wk22) I5 p q3 [(gk1, 23, Ky.cells ⟨3, 1, 4, 0⟩), (gk14, 47, Mg.cells ⟨13, ⟨false, 5⟩, ⟨true, 2⟩, 3, 6, ⟨3, 1, 4, 0⟩, ⟨5, 2⟩, spZ, slZ, cZ, bvZ, slZ, false⟩)] [(⟨(some ⟨ga3, 0, none⟩), 3, lc3⟩, aM), (⟨(some ⟨ga4, 0, none⟩), 3, lc4⟩, aM), (⟨wa1, 3, wk1⟩, aM), (⟨(some ⟨ga5, 0, none⟩), 3, lc5⟩, aM)]) := HF.out.no hk
   clear hk
   refine ⟨.bool true, rfl, ?_⟩
   try simp only [pS]
   refine uK (.bool false) <| uK (.bool false) <| uK (.bool false) <| uK (.slice (some ⟨ga3, 0, none⟩) 3 lc3) <| uK (.slice (some ⟨ga4, 0, none⟩) 3 lc4) <| ?_
   try simp only [pS]
   refine uR (.slice (some ⟨wk22.heap.size, 0, none⟩) 2 2) (wk22.alloc (.cells #[.slice (some ⟨ga3, 0, none⟩) 3 lc3, .slice (some ⟨ga4, 0, none⟩) 3 lc4] 66)) (exec_slice2m _ rfl (.slice (some ⟨ga3, 0, none⟩) 3 lc3) (.slice (some ⟨ga4, 0, none⟩) 3 lc4) rfl rfl (by kernel_rfl)) ?_
   try simp only [pS]
   have HF : Hid (Og w (wk22.alloc (.cells #[.slice (some ⟨ga3, 0, none⟩) 3 lc3, .slice (some ⟨ga4, 0, none⟩) 3 lc4] 66)) I5 p q3 [(gk1, 23, Ky.cells ⟨3, 1, 4, 0⟩), (gk14, 47, Mg.cells ⟨13, ⟨false, 5⟩, ⟨true, 2⟩, 3, 6, ⟨3, 1, 4, 0⟩, ⟨5, 2⟩, spZ, slZ, cZ, bvZ, slZ, false⟩), (wk22.heap.size, 66, #[.slice (some ⟨ga3, 0, none⟩) 3 lc3, .slice (some ⟨ga4, 0, none⟩) 3 lc4])] [(⟨(some ⟨ga3, 0, none⟩), 3, lc3⟩, aM), (⟨(some ⟨ga4, 0, none⟩), 3, lc4⟩, aM), (⟨wa1, 3, wk1⟩, aM), (⟨(some ⟨ga5, 0, none⟩), 3, lc5⟩, aM)]) := HF.out.alloc _ _
   generalize wk22.alloc (.cells #[.slice (some ⟨ga3, 0, none⟩) 3 lc3, .slice (some ⟨ga4, 0, none⟩) 3 lc4] 66) = wk24 at HF ⊢
   generalize wk22.heap.size = gk23 at HF ⊢
   have HE : Hid (Erow DM wk24 w.heap.size [⟨(some ⟨ga3, 0, none⟩), 3, lc3⟩, ⟨(some ⟨ga4, 0, none⟩), 3, lc4⟩] (fun i => (([(⟨(some ⟨ga3, 0, none⟩), 3, lc3⟩, aM), (⟨(some ⟨ga4, 0, none⟩), 3, lc4⟩, aM)] : List (Sl × List Mg))[i]?.map Prod.snd).getD [])) := Og.erow (T1 := [(⟨(some ⟨ga3, 0, none⟩), 3, lc3⟩, aM), (⟨(some ⟨ga4, 0, none⟩), 3, lc4⟩, aM)]) (T2 := [(⟨wa1, 3, wk1⟩, aM), (⟨(some ⟨ga5, 0, none⟩), 3, lc5⟩, aM)]) (HF.out.pick [0, 1, 2, 3] (by decide) rfl) (by simp)
   refine uC 49 #[.slice (some ⟨gk23, 0, none⟩) 2 2] (grownM_any gk23 2 2 gk23 w.heap.size [⟨(some ⟨ga3, 0, none⟩), 3, lc3⟩, ⟨(some ⟨ga4, 0, none⟩), 3, lc4⟩] _ _ rfl (by decide) (by decide) (rw_box (K := [⟨(some ⟨ga3, 0, none⟩), 3, lc3⟩, ⟨(some ⟨ga4, 0, none⟩), 3, lc4⟩]) (HF.out.box 2 _ _ _ rfl) (by simp)) HE.out HF.out.kept.size) ?_
   rintro e wk25 ⟨rfl, hk⟩
   have HF : Hid (Og w (wk25) I5 p q3 [(gk1, 23, Ky.cells ⟨3, 1, 4, 0⟩), (gk14, 47, Mg.cells ⟨13, ⟨false, 5⟩, ⟨true, 2⟩, 3, 6, ⟨3, 1, 4, 0⟩, ⟨5, 2⟩, spZ, slZ, cZ, bvZ, slZ, false⟩), (gk23, 66, #[.slice (some ⟨ga3, 0, none⟩) 3 lc3, .slice (some ⟨ga4, 0, none⟩) 3 lc4])] [(⟨wa1, 3, wk1⟩, aM), (⟨(some ⟨ga5, 0, none⟩), 3, lc5⟩, aM)]) := Og.wr (T1 := [(⟨(some ⟨ga3, 0, none⟩), 3, lc3⟩, aM), (⟨(some ⟨ga4, 0, none⟩), 3, lc4⟩, aM)]) (T2 := [(⟨wa1, 3, wk1⟩, aM), (⟨(some ⟨ga5, 0, none⟩), 3, lc5⟩, aM)]) (HF.out.pick (T' := [(⟨(some ⟨ga3, 0, none⟩), 3, lc3⟩, aM), (⟨(some ⟨ga4, 0, none⟩), 3, lc4⟩, aM), (⟨wa1, 3, wk1⟩, aM), (⟨(some ⟨ga5, 0, none⟩), 3, lc5⟩, aM)]) [0, 1, 2, 3] (by decide) rfl) hk
   clear hk HE
   refine ⟨.bool true, rfl, ?_⟩
   try simp only [pS]
   refine uK (.bool false) <| uK (.bool false) <| uK (.bool false) <| uK (.slice (some ⟨ga5, 0, none⟩) 3 lc5) <| uK (.slice wa1 3 wk1) <| ?_
   try simp only [pS]
   refine uC 26 #[.slice (some ⟨ga5, 0, none⟩) 3 lc5, .slice wa1 3 wk1] (sameMs_any ⟨(some ⟨ga5, 0, none⟩), 3, lc5⟩ ⟨wa1, 3, wk1⟩ aM _ (HF.out.rd (i := 1) rfl) (HF.out.rd (i := 0) rfl) aM_pl (show 3 ≤ 2000000 by decide)) ?_
   rintro e wk26 ⟨rfl, hk⟩
   have HF : Hid (Og w (wk26) I5 p q3 [(gk1, 23, Ky.cells ⟨3, 1, 4, 0⟩), (gk14, 47, Mg.cells ⟨13, ⟨false, 5⟩, ⟨true, 2⟩, 3, 6, ⟨3, 1, 4, 0⟩, ⟨5, 2⟩, spZ, slZ, cZ, bvZ, slZ, false⟩), (gk23, 66, #[.slice (some ⟨ga3, 0, none⟩) 3 lc3, .slice (some ⟨ga4, 0, none⟩) 3 lc4])] [(⟨wa1, 3, wk1⟩, aM), (⟨(some ⟨ga5, 0, none⟩), 3, lc5⟩, aM)]) := HF.out.no hk
   clear hk
   refine ⟨.bool true, rfl, ?_⟩
   try simp only [pS]
   refine uK (.bool false) <| uK (.bool false) <| uK (.bool false) <| uK (pV p 0) <| ?_
   try simp only [pS]
   refine uC 25 #[pV p 0] (tick3 HF.out.prp) ?_
   rintro e wk27 ho
   obtain ⟨la6, lc6, I6, rfl, hF⟩ := HF.out.call' ho ql3 rfl
   have HF : Hid (Og w (wk27) I6 p q3 [(gk1, 23, Ky.cells ⟨3, 1, 4, 0⟩), (gk14, 47, Mg.cells ⟨13, ⟨false, 5⟩, ⟨true, 2⟩, 3, 6, ⟨3, 1, 4, 0⟩, ⟨5, 2⟩, spZ, slZ, cZ, bvZ, slZ, false⟩), (gk23, 66, #[.slice (some ⟨ga3, 0, none⟩) 3 lc3, .slice (some ⟨ga4, 0, none⟩) 3 lc4])] [(⟨wa1, 3, wk1⟩, aM), (⟨(some ⟨ga5, 0, none⟩), 3, lc5⟩, aM), (⟨la6, 3, lc6⟩, aM)]) := hF
   clear ho hF
   obtain ⟨ga6, rfl⟩ := HF.out.sm (i := 2) (x := (⟨la6, 3, lc6⟩, aM)) rfl (show 0 < 3 by decide)
   refine ⟨.slice (some ⟨ga6, 0, none⟩) 3 lc6, rfl, ?_⟩
   try simp only [pS]
   refine uK (.slice wa1 3 wk1) ?_
   try simp only [pS]
   refine uC 26 #[.slice (some ⟨ga6, 0, none⟩) 3 lc6, .slice wa1 3 wk1] (sameMs_any ⟨(some ⟨ga6, 0, none⟩), 3, lc6⟩ ⟨wa1, 3, wk1⟩ aM _ (HF.out.rd (i := 2) rfl) (HF.out.rd (i := 0) rfl) aM_pl (show 3 ≤ 2000000 by decide)) ?_
   rintro e wk28 ⟨rfl, hk⟩
   have HF : Hid (Og w (wk28) I6 p q3 [(gk1, 23, Ky.cells ⟨3, 1, 4, 0⟩), (gk14, 47, Mg.cells ⟨13, ⟨false, 5⟩, ⟨true, 2⟩, 3, 6, ⟨3, 1, 4, 0⟩, ⟨5, 2⟩, spZ, slZ, cZ, bvZ, slZ, false⟩), (gk23, 66, #[.slice (some ⟨ga3, 0, none⟩) 3 lc3, .slice (some ⟨ga4, 0, none⟩) 3 lc4])] [(⟨wa1, 3, wk1⟩, aM), (⟨(some ⟨ga5, 0, none⟩), 3, lc5⟩, aM), (⟨(some ⟨ga6, 0, none⟩), 3, lc6⟩, aM)]) := HF.out.no hk
   clear hk
   refine ⟨.bool true, rfl, ?_⟩
   try simp only [pS]
   refine uK (.bool false) <| uK (.bool false) <| WL.nil <| ?_
   try simp only [pS]
   go_upto_region 14 with fail
   refine WL.start <| uK (pV gk14 0) <| ?_
   try simp only [pS]
   refine uT 3 ⟨gk14, 0, none⟩ (.int .i64 15) (wk28.setRow gk14 (Mg.cells ⟨15, ⟨false, 5⟩, ⟨true, 2⟩, 3, 6, ⟨3, 1, 4, 0⟩, ⟨5, 2⟩, spZ, slZ, cZ, bvZ, slZ, false⟩)) (rs (Mg.cs ⟨13, ⟨false, 5⟩, ⟨true, 2⟩, 3, 6, ⟨3, 1, 4, 0⟩, ⟨5, 2⟩, spZ, slZ, cZ, bvZ, slZ, false⟩) ([.int .i64 15]) (Mg.cs ⟨15, ⟨false, 5⟩, ⟨true, 2⟩, 3, 6, ⟨3, 1, 4, 0⟩, ⟨5, 2⟩, spZ, slZ, cZ, bvZ, slZ, false⟩) (HF.out.box 1 _ _ _ rfl) S3 (by simp [Value.oneCell', Sl.v])) ?_
   try simp only [pS]
   have HF : Hid (Og w (wk28.setRow gk14 (Mg.cells ⟨15, ⟨false, 5⟩, ⟨true, 2⟩, 3, 6, ⟨3, 1, 4, 0⟩, ⟨5, 2⟩, spZ, slZ, cZ, bvZ, slZ, false⟩)) I6 p q3 [(gk1, 23, Ky.cells ⟨3, 1, 4, 0⟩), (gk14, 47, Mg.cells ⟨15, ⟨false, 5⟩, ⟨true, 2⟩, 3, 6, ⟨3, 1, 4, 0⟩, ⟨5, 2⟩, spZ, slZ, cZ, bvZ, slZ, false⟩), (gk23, 66, #[.slice (some ⟨ga3, 0, none⟩) 3 lc3, .slice (some ⟨ga4, 0, none⟩) 3 lc4])] [(⟨wa1, 3, wk1⟩, aM), (⟨(some ⟨ga5, 0, none⟩), 3, lc5⟩, aM), (⟨(some ⟨ga6, 0, none⟩), 3, lc6⟩, aM)]) := HF.out.set 1 rfl _
   generalize wk28.setRow gk14 (Mg.cells ⟨15, ⟨false, 5⟩, ⟨true, 2⟩, 3, 6, ⟨3, 1, 4, 0⟩, ⟨5, 2⟩, spZ, slZ, cZ, bvZ, slZ, false⟩) = wk29 at HF ⊢
   refine WL.nil ?_
   try simp only [pS]
   go_upto_region 15 with fail
   refine WL.start <| uK (pV gk14 6) <| ?_
   try simp only [pS]
   refine uT 3 ⟨gk14, 6, none⟩ (.int .i64 7) (wk29.setRow gk14 (Mg.cells ⟨15, ⟨false, 5⟩, ⟨true, 2⟩, 3, 7, ⟨3, 1, 4, 0⟩, ⟨5, 2⟩, spZ, slZ, cZ, bvZ, slZ, false⟩)) (rs (Mg.cs ⟨15, ⟨false, 5⟩, ⟨true, 2⟩, 3, 6, ⟨3, 1, 4, 0⟩, ⟨5, 2⟩, spZ, slZ, cZ, bvZ, slZ, false⟩) ([.int .i64 7]) (Mg.cs ⟨15, ⟨false, 5⟩, ⟨true, 2⟩, 3, 7, ⟨3, 1, 4, 0⟩, ⟨5, 2⟩, spZ, slZ, cZ, bvZ, slZ, false⟩) (HF.out.box 1 _ _ _ rfl) S3 (by simp [Value.oneCell', Sl.v])) ?_
   try simp only [pS]
   have HF : Hid (Og w (wk29.setRow gk14 (Mg.cells ⟨15, ⟨false, 5⟩, ⟨true, 2⟩, 3, 7, ⟨3, 1, 4, 0⟩, ⟨5, 2⟩, spZ, slZ, cZ, bvZ, slZ, false⟩)) I6 p q3 [(gk1, 23, Ky.cells ⟨3, 1, 4, 0⟩), (gk14, 47, Mg.cells ⟨15, ⟨false, 5⟩, ⟨true, 2⟩, 3, 7, ⟨3, 1, 4, 0⟩, ⟨5, 2⟩, spZ, slZ, cZ, bvZ, slZ, false⟩), (gk23, 66, #[.slice (some ⟨ga3, 0, none⟩) 3 lc3, .slice (some ⟨ga4, 0, none⟩) 3 lc4])] [(⟨wa1, 3, wk1⟩, aM), (⟨(some ⟨ga5, 0, none⟩), 3, lc5⟩, aM), (⟨(some ⟨ga6, 0, none⟩), 3, lc6⟩, aM)]) := HF.out.set 1 rfl _
   generalize wk29.setRow gk14 (Mg.cells ⟨15, ⟨false, 5⟩, ⟨true, 2⟩, 3, 7, ⟨3, 1, 4, 0⟩, ⟨5, 2⟩, spZ, slZ, cZ, bvZ, slZ, false⟩) = wk30 at HF ⊢
   refine WL.nil ?_
   try simp only [pS]
   go_upto_region 16 with fail
   refine WL.start <| uK (pV p 0) <| uL 47 ⟨gk14, 0, none⟩ (.agg (Mg.cells ⟨15, ⟨false, 5⟩, ⟨true, 2⟩, 3, 7, ⟨3, 1, 4, 0⟩, ⟨5, 2⟩, spZ, slZ, cZ, bvZ, slZ, false⟩)) (run_load_part (cs := Mg.cs ⟨15, ⟨false, 5⟩, ⟨true, 2⟩, 3, 7, ⟨3, 1, 4, 0⟩, ⟨5, 2⟩, spZ, slZ, cZ, bvZ, slZ, false⟩) (sub := Mg.cs ⟨15, ⟨false, 5⟩, ⟨true, 2⟩, 3, 7, ⟨3, 1, 4, 0⟩, ⟨5, 2⟩, spZ, slZ, cZ, bvZ, slZ, false⟩) (HF.out.box 1 _ _ _ rfl) (Part.all _) U47 rfl S47) <| ?_
   try simp only [pS]
   refine uC 28 #[pV p 0, .agg (Mg.cells ⟨15, ⟨false, 5⟩, ⟨true, 2⟩, 3, 7, ⟨3, 1, 4, 0⟩, ⟨5, 2⟩, spZ, slZ, cZ, bvZ, slZ, false⟩)] (take_N HF.out.prp 15 5 2 3 7 (jK oK) 5 2) ?_
   rintro e wk31 ho
   obtain ⟨la7, lc7, I7, rfl, hF⟩ := HF.out.call' ho (congrArg List.length ql4) (congrArg (List.map dM) ql4)
   have HF : Hid (Og w (wk31) I7 p q4 [(gk1, 23, Ky.cells ⟨3, 1, 4, 0⟩), (gk14, 47, Mg.cells ⟨15, ⟨false, 5⟩, ⟨true, 2⟩, 3, 7, ⟨3, 1, 4, 0⟩, ⟨5, 2⟩, spZ, slZ, cZ, bvZ, slZ, false⟩), (gk23, 66, #[.slice (some ⟨ga3, 0, none⟩) 3 lc3, .slice (some ⟨ga4, 0, none⟩) 3 lc4])] [(⟨wa1, 3, wk1⟩, aM), (⟨(some ⟨ga5, 0, none⟩), 3, lc5⟩, aM), (⟨(some ⟨ga6, 0, none⟩), 3, lc6⟩, aM), (⟨la7, 0, lc7⟩, [])]) := hF
   clear ho hF
   have HF : Hid (Og w (wk31) I7 p q4 [(gk1, 23, Ky.cells ⟨3, 1, 4, 0⟩), (gk14, 47, Mg.cells ⟨15, ⟨false, 5⟩, ⟨true, 2⟩, 3, 7, ⟨3, 1, 4, 0⟩, ⟨5, 2⟩, spZ, slZ, cZ, bvZ, slZ, false⟩), (gk23, 66, #[.slice (some ⟨ga3, 0, none⟩) 3 lc3, .slice (some ⟨ga4, 0, none⟩) 3 lc4])] [(⟨wa1, 3, wk1⟩, aM), (⟨(some ⟨ga5, 0, none⟩), 3, lc5⟩, aM), (⟨(some ⟨ga6, 0, none⟩), 3, lc6⟩, aM)]) := HF.out.pick [0, 1, 2] (by decide) rfl
   refine ⟨.slice la7 0 lc7, rfl, ?_⟩
   try simp only [pS]
   refine uK (.slice la7 0 lc7) <| WL.nil <| ?_
   try simp only [pS]
   go_upto_region 17 with fail
   refine WL.start <| uK (pV gk14 1) <| uK (pV gk14 2) <| ?_
   try simp only [pS]
   refine uT 3 ⟨gk14, 2, none⟩ (.int .i64 4) (wk31.setRow gk14 (Mg.cells ⟨15, ⟨false, 4⟩, ⟨true, 2⟩, 3, 7, ⟨3, 1, 4, 0⟩, ⟨5, 2⟩, spZ, slZ, cZ, bvZ, slZ, false⟩)) (rs (Mg.cs ⟨15, ⟨false, 5⟩, ⟨true, 2⟩, 3, 7, ⟨3, 1, 4, 0⟩, ⟨5, 2⟩, spZ, slZ, cZ, bvZ, slZ, false⟩) ([.int .i64 4]) (Mg.cs ⟨15, ⟨false, 4⟩, ⟨true, 2⟩, 3, 7, ⟨3, 1, 4, 0⟩, ⟨5, 2⟩, spZ, slZ, cZ, bvZ, slZ, false⟩) (HF.out.box 1 _ _ _ rfl) S3 (by simp [Value.oneCell', Sl.v])) ?_
   try simp only [pS]
   have HF : Hid (Og w (wk31.setRow gk14 (Mg.cells ⟨15, ⟨false, 4⟩, ⟨true, 2⟩, 3, 7, ⟨3, 1, 4, 0⟩, ⟨5, 2⟩, spZ, slZ, cZ, bvZ, slZ, false⟩)) I7 p q4 [(gk1, 23, Ky.cells ⟨3, 1, 4, 0⟩), (gk14, 47, Mg.cells ⟨15, ⟨false, 4⟩, ⟨true, 2⟩, 3, 7, ⟨3, 1, 4, 0⟩, ⟨5, 2⟩, spZ, slZ, cZ, bvZ, slZ, false⟩), (gk23, 66, #[.slice (some ⟨ga3, 0, none⟩) 3 lc3, .slice (some ⟨ga4, 0, none⟩) 3 lc4])] [(⟨wa1, 3, wk1⟩, aM), (⟨(some ⟨ga5, 0, none⟩), 3, lc5⟩, aM), (⟨(some ⟨ga6, 0, none⟩), 3, lc6⟩, aM)]) := HF.out.set 1 rfl _
   generalize wk31.setRow gk14 (Mg.cells ⟨15, ⟨false, 4⟩, ⟨true, 2⟩, 3, 7, ⟨3, 1, 4, 0⟩, ⟨5, 2⟩, spZ, slZ, cZ, bvZ, slZ, false⟩) = wk32 at HF ⊢
   refine WL.nil ?_
   try simp only [pS]
   go_upto_region 18 with fail
   refine WL.start <| uK (pV p 0) <| uL 47 ⟨gk14, 0, none⟩ (.agg (Mg.cells ⟨15, ⟨false, 4⟩, ⟨true, 2⟩, 3, 7, ⟨3, 1, 4, 0⟩, ⟨5, 2⟩, spZ, slZ, cZ, bvZ, slZ, false⟩)) (run_load_part (cs := Mg.cs ⟨15, ⟨false, 4⟩, ⟨true, 2⟩, 3, 7, ⟨3, 1, 4, 0⟩, ⟨5, 2⟩, spZ, slZ, cZ, bvZ, slZ, false⟩) (sub := Mg.cs ⟨15, ⟨false, 4⟩, ⟨true, 2⟩, 3, 7, ⟨3, 1, 4, 0⟩, ⟨5, 2⟩, spZ, slZ, cZ, bvZ, slZ, false⟩) (HF.out.box 1 _ _ _ rfl) (Part.all _) U47 rfl S47) <| ?_
   try simp only [pS]
   refine uC 28 #[pV p 0, .agg (Mg.cells ⟨15, ⟨false, 4⟩, ⟨true, 2⟩, 3, 7, ⟨3, 1, 4, 0⟩, ⟨5, 2⟩, spZ, slZ, cZ, bvZ, slZ, false⟩)] (take_N HF.out.prp 15 4 2 3 7 (jK oK) 5 2) ?_
   rintro e wk33 ho
   obtain ⟨la8, lc8, I8, rfl, hF⟩ := HF.out.call' ho ql5 rfl
   have HF : Hid (Og w (wk33) I8 p q5 [(gk1, 23, Ky.cells ⟨3, 1, 4, 0⟩), (gk14, 47, Mg.cells ⟨15, ⟨false, 4⟩, ⟨true, 2⟩, 3, 7, ⟨3, 1, 4, 0⟩, ⟨5, 2⟩, spZ, slZ, cZ, bvZ, slZ, false⟩), (gk23, 66, #[.slice (some ⟨ga3, 0, none⟩) 3 lc3, .slice (some ⟨ga4, 0, none⟩) 3 lc4])] [(⟨wa1, 3, wk1⟩, aM), (⟨(some ⟨ga5, 0, none⟩), 3, lc5⟩, aM), (⟨(some ⟨ga6, 0, none⟩), 3, lc6⟩, aM), (⟨la8, 3, lc8⟩, dLM)]) := hF
   clear ho hF
   obtain ⟨ga8, rfl⟩ := HF.out.sm (i := 3) (x := (⟨la8, 3, lc8⟩, dLM)) rfl (show 0 < 3 by decide)
   refine ⟨.slice (some ⟨ga8, 0, none⟩) 3 lc8, rfl, ?_⟩
   try simp only [pS]
   refine uK (.slice (some ⟨ga8, 0, none⟩) 3 lc8) <| WL.nil <| ?_
   try simp only [pS]
   go_upto_region 19 with fail
   refine WL.start <| uK (pV p 0) <| ?_
   try simp only [pS]
   refine uC 21 #[pV p 0] (dec5P HF.out.prp) ?_
   rintro e wk34 ⟨rfl, hk⟩
   have HF : Hid (Og w (wk34) I8 p q5 [(gk1, 23, Ky.cells ⟨3, 1, 4, 0⟩), (gk14, 47, Mg.cells ⟨15, ⟨false, 4⟩, ⟨true, 2⟩, 3, 7, ⟨3, 1, 4, 0⟩, ⟨5, 2⟩, spZ, slZ, cZ, bvZ, slZ, false⟩), (gk23, 66, #[.slice (some ⟨ga3, 0, none⟩) 3 lc3, .slice (some ⟨ga4, 0, none⟩) 3 lc4])] [(⟨wa1, 3, wk1⟩, aM), (⟨(some ⟨ga5, 0, none⟩), 3, lc5⟩, aM), (⟨(some ⟨ga6, 0, none⟩), 3, lc6⟩, aM), (⟨(some ⟨ga8, 0, none⟩), 3, lc8⟩, dLM)]) := HF.out.no hk
   clear hk
   refine ⟨.tuple #[.agg (Cm.cells c2), .bool true], rfl, ?_⟩
   try simp only [pS]
   refine uK (.tuple #[.agg (Cm.cells c2), .bool true]) <| uK (.agg (Cm.cells c2)) <| uK (.bool true) <| ?_
   try simp only [pS]
   refine uR (pV wk34.heap.size 0) (wk34.alloc (.cells (Cm.cells cZ) 28)) (exec_alloc 28 rfl (Cm.cells cZ) Z28) ?_
   try simp only [pS]
   have HF : Hid (Og w (wk34.alloc (.cells (Cm.cells cZ) 28)) I8 p q5 [(gk1, 23, Ky.cells ⟨3, 1, 4, 0⟩), (gk14, 47, Mg.cells ⟨15, ⟨false, 4⟩, ⟨true, 2⟩, 3, 7, ⟨3, 1, 4, 0⟩, ⟨5, 2⟩, spZ, slZ, cZ, bvZ, slZ, false⟩), (gk23, 66, #[.slice (some ⟨ga3, 0, none⟩) 3 lc3, .slice (some ⟨ga4, 0, none⟩) 3 lc4]), (wk34.heap.size, 28, Cm.cells cZ)] [(⟨wa1, 3, wk1⟩, aM), (⟨(some ⟨ga5, 0, none⟩), 3, lc5⟩, aM), (⟨(some ⟨ga6, 0, none⟩), 3, lc6⟩, aM), (⟨(some ⟨ga8, 0, none⟩), 3, lc8⟩, dLM)]) := HF.out.alloc _ _
   generalize wk34.alloc (.cells (Cm.cells cZ) 28) = wk36 at HF ⊢
   generalize wk34.heap.size = gk35 at HF ⊢
   refine uT 28 ⟨gk35, 0, none⟩ (.agg (Cm.cells c2)) (wk36.setRow gk35 (Cm.cells c2)) (rs (Cm.cs cZ) (Cm.cs c2) (Cm.cs c2) (HF.out.box 3 _ _ _ rfl) S28 (Cm.oneL _)) ?_
   try simp only [pS]
   have HF : Hid (Og w (wk36.setRow gk35 (Cm.cells c2)) I8 p q5 [(gk1, 23, Ky.cells ⟨3, 1, 4, 0⟩), (gk14, 47, Mg.cells ⟨15, ⟨false, 4⟩, ⟨true, 2⟩, 3, 7, ⟨3, 1, 4, 0⟩, ⟨5, 2⟩, spZ, slZ, cZ, bvZ, slZ, false⟩), (gk23, 66, #[.slice (some ⟨ga3, 0, none⟩) 3 lc3, .slice (some ⟨ga4, 0, none⟩) 3 lc4]), (gk35, 28, Cm.cells c2)] [(⟨wa1, 3, wk1⟩, aM), (⟨(some ⟨ga5, 0, none⟩), 3, lc5⟩, aM), (⟨(some ⟨ga6, 0, none⟩), 3, lc6⟩, aM), (⟨(some ⟨ga8, 0, none⟩), 3, lc8⟩, dLM)]) := HF.out.set 3 rfl _
   generalize wk36.setRow gk35 (Cm.cells c2) = wk37 at HF ⊢
   refine uK (.bool true) <| WL.nil <| ?_
   try simp only [pS]
   clear HA
   have HA : Hid (wk37.drew.cell? ⟨ga8, 0 + 2 * 30, none⟩ = some (.int .i64 5)) := by
     obtain ⟨m, h1, h2⟩ := dLM_2
     rw [← h2]
     exact HF.out.drew.cell (i := 3) (x := (⟨(some ⟨ga8, 0, none⟩), 3, lc8⟩, dLM)) rfl rfl h1 0 rfl
   go_upto_region 20 with fail
   refine wp_region_held_drew (S := fun w' => Box w' gk35 28 (Cm.cells c2)) rfl (HF.out.box 3 _ _ _ rfl) (fun hH => ?_)
   have HF : Hid (Og w (wk37.drew) I8 p q5 [(gk1, 23, Ky.cells ⟨3, 1, 4, 0⟩), (gk14, 47, Mg.cells ⟨15, ⟨false, 4⟩, ⟨true, 2⟩, 3, 7, ⟨3, 1, 4, 0⟩, ⟨5, 2⟩, spZ, slZ, cZ, bvZ, slZ, false⟩), (gk23, 66, #[.slice (some ⟨ga3, 0, none⟩) 3 lc3, .slice (some ⟨ga4, 0, none⟩) 3 lc4]), (gk35, 28, Cm.cells c2)] [(⟨wa1, 3, wk1⟩, aM), (⟨(some ⟨ga5, 0, none⟩), 3, lc5⟩, aM), (⟨(some ⟨ga6, 0, none⟩), 3, lc6⟩, aM), (⟨(some ⟨ga8, 0, none⟩), 3, lc8⟩, dLM)]) := HF.out.drew
   generalize wk37.drew = wk38 at HF HA hH ⊢
   refine xV 0 103 (.slice la7 0 lc7) hH <| xV 1 104 (.int .i64 ((0 : Nat) : Int)) hH <| xB 2 105 .neq 3 (.int .i64 ((0 : Nat) : Int)) (.int .i64 0) (.bool false) (fun _ _ => by kernel_rfl) hH <| xV 3 106 (.bool false) hH <| xV 4 107 (.slice (some ⟨ga8, 0, none⟩) 3 lc8) hH <| xV 5 108 (.int .i64 ((3 : Nat) : Int)) hH <| ?_
   try simp only [pS]
   refine xB 6 109 .neq 3 (.int .i64 ((3 : Nat) : Int)) (.int .i64 3) (.bool false) (fun _ _ => by kernel_rfl) hH <| xV 7 110 (.bool false) hH <| xV 8 111 (.bool false) hH <| xV 9 112 (.slice (some ⟨ga8, 0, none⟩) 3 lc8) hH <| xU 10 113 (pV ga8 (0 + 2 * 30)) (fun w' hw => exec_ixA 66 30 E66 F66 _ _ rfl ga8 0 3 lc8 2 (by kernel_rfl) (by kernel_rfl) (by decide)) hH <| xV 11 114 (pV ga8 (0 + 2 * 30)) hH <| ?_
   try simp only [pS]
   refine xP 12 115 (.int .i64 5) (w' := wk38) (exec_load 3 _ rfl ⟨ga8, 0 + 2 * 30, none⟩ (by kernel_rfl) (.int .i64 5) (load_one HA.out U3 rfl)) hH (fun hH => ?_)
   try simp only [pS]
   refine xB 13 116 .neq 3 (.int .i64 5) (.int .i64 5) (.bool false) (fun _ _ => by kernel_rfl) hH <| xV 14 117 (.bool false) hH <| xV 15 118 (.bool false) hH <| xV 16 119 (.bool true) hH <| xV 17 120 (.bool false) hH <| xV 18 121 (.bool false) hH <| ?_
   try simp only [pS]
   refine xV 19 122 (.bool false) hH <| xL 20 123 28 ⟨gk35, 0, none⟩ (.agg (Cm.cells c2)) (fun _ hw => run_load_part (cs := Cm.cs c2) (sub := Cm.cs c2) (hw) (Part.all _) U28 rfl S28) hH <| ?_
   try simp only [pS]
   refine xC 21 124 24 #[.int .i64 2] (cmd2 _) ?_
   rintro e wk39 ⟨rfl, hk⟩
   have hH2 : Box wk39 gk35 28 (Cm.cells c2) := (hH.kept hk (fun e => e))
   have HF : Hid (Og w (wk39) I8 p q5 [(gk1, 23, Ky.cells ⟨3, 1, 4, 0⟩), (gk14, 47, Mg.cells ⟨15, ⟨false, 4⟩, ⟨true, 2⟩, 3, 7, ⟨3, 1, 4, 0⟩, ⟨5, 2⟩, spZ, slZ, cZ, bvZ, slZ, false⟩), (gk23, 66, #[.slice (some ⟨ga3, 0, none⟩) 3 lc3, .slice (some ⟨ga4, 0, none⟩) 3 lc4]), (gk35, 28, Cm.cells c2)] [(⟨wa1, 3, wk1⟩, aM), (⟨(some ⟨ga5, 0, none⟩), 3, lc5⟩, aM), (⟨(some ⟨ga6, 0, none⟩), 3, lc6⟩, aM), (⟨(some ⟨ga8, 0, none⟩), 3, lc8⟩, dLM)]) := HF.out.no hk
   clear hk
   refine ⟨.agg (Cm.cells c2), rfl, hH2, fun hH => ?_⟩
   clear hH2
   try simp only [pS]
   refine xB 22 125 .neq 28 (.agg (Cm.cells c2)) (.agg (Cm.cells c2)) (.bool false) (fun _ _ => by kernel_rfl) hH <| xV 23 126 (.bool false) hH <| xV 24 127 (.bool false) hH <| xV 25 128 (.slice (some ⟨ga8, 0, none⟩) 3 lc8) hH <| ?_
   try simp only [pS]
   refine any_step (i := 26) (o := { dst := some 129, op := Op.buildSlice 107 1 #[(0, Operand.tmp 128)], type := 107, pos := "outright.go:280", after := #[{ on := 25, ground := Ground.data }, { on := 24, ground := Ground.guard }], guard := some (24, false) }) rfl (by kernel_rfl) (by kernel_rfl) (exec_slice2 107 66 _ rfl (#[.slice (some ⟨ga8, 0, none⟩) 3 lc8]) (.slice (some ⟨ga8, 0, none⟩) 3 lc8) (by kernel_rfl) (by kernel_rfl)) ((hH.alloc _)) (fun hH => ?_)
   try simp only [pS]
   have HF : Hid (Og w (wk39.alloc (.cells (#[.slice (some ⟨ga8, 0, none⟩) 3 lc8]) 66)) I8 p q5 [(gk1, 23, Ky.cells ⟨3, 1, 4, 0⟩), (gk14, 47, Mg.cells ⟨15, ⟨false, 4⟩, ⟨true, 2⟩, 3, 7, ⟨3, 1, 4, 0⟩, ⟨5, 2⟩, spZ, slZ, cZ, bvZ, slZ, false⟩), (gk23, 66, #[.slice (some ⟨ga3, 0, none⟩) 3 lc3, .slice (some ⟨ga4, 0, none⟩) 3 lc4]), (gk35, 28, Cm.cells c2), (wk39.heap.size, 66, #[.slice (some ⟨ga8, 0, none⟩) 3 lc8])] [(⟨wa1, 3, wk1⟩, aM), (⟨(some ⟨ga5, 0, none⟩), 3, lc5⟩, aM), (⟨(some ⟨ga6, 0, none⟩), 3, lc6⟩, aM), (⟨(some ⟨ga8, 0, none⟩), 3, lc8⟩, dLM)]) := HF.out.alloc _ _
   generalize wk39.alloc (.cells (#[.slice (some ⟨ga8, 0, none⟩) 3 lc8]) 66) = wk41 at HF hH ⊢
   generalize wk39.heap.size = gk40 at HF ⊢
   have HE : Hid (Erow DM wk41 w.heap.size [⟨(some ⟨ga8, 0, none⟩), 3, lc8⟩] (fun i => (([(⟨(some ⟨ga8, 0, none⟩), 3, lc8⟩, dLM)] : List (Sl × List Mg))[i]?.map Prod.snd).getD [])) := Og.erow (T1 := [(⟨(some ⟨ga8, 0, none⟩), 3, lc8⟩, dLM)]) (T2 := [(⟨wa1, 3, wk1⟩, aM), (⟨(some ⟨ga5, 0, none⟩), 3, lc5⟩, aM), (⟨(some ⟨ga6, 0, none⟩), 3, lc6⟩, aM)]) (HF.out.pick [3, 0, 1, 2] (by decide) rfl) (by simp)
   refine xC 27 130 49 #[.slice (some ⟨gk40, 0, none⟩) 1 1] (grownM_any gk40 1 1 gk40 w.heap.size [⟨(some ⟨ga8, 0, none⟩), 3, lc8⟩] _ _ rfl (by decide) (by decide) (rw_box (K := [⟨(some ⟨ga8, 0, none⟩), 3, lc8⟩]) (HF.out.box 4 _ _ _ rfl) (by simp)) HE.out HF.out.kept.size) ?_
   rintro e wk42 ⟨rfl, hk⟩
   have HF : Hid (Og w (wk42) I8 p q5 [(gk1, 23, Ky.cells ⟨3, 1, 4, 0⟩), (gk14, 47, Mg.cells ⟨15, ⟨false, 4⟩, ⟨true, 2⟩, 3, 7, ⟨3, 1, 4, 0⟩, ⟨5, 2⟩, spZ, slZ, cZ, bvZ, slZ, false⟩), (gk23, 66, #[.slice (some ⟨ga3, 0, none⟩) 3 lc3, .slice (some ⟨ga4, 0, none⟩) 3 lc4]), (gk35, 28, Cm.cells c2), (gk40, 66, #[.slice (some ⟨ga8, 0, none⟩) 3 lc8])] [(⟨wa1, 3, wk1⟩, aM), (⟨(some ⟨ga5, 0, none⟩), 3, lc5⟩, aM), (⟨(some ⟨ga6, 0, none⟩), 3, lc6⟩, aM)]) := Og.wr (T1 := [(⟨(some ⟨ga8, 0, none⟩), 3, lc8⟩, dLM)]) (T2 := [(⟨wa1, 3, wk1⟩, aM), (⟨(some ⟨ga5, 0, none⟩), 3, lc5⟩, aM), (⟨(some ⟨ga6, 0, none⟩), 3, lc6⟩, aM)]) (HF.out.pick (T' := [(⟨(some ⟨ga8, 0, none⟩), 3, lc8⟩, dLM), (⟨wa1, 3, wk1⟩, aM), (⟨(some ⟨ga5, 0, none⟩), 3, lc5⟩, aM), (⟨(some ⟨ga6, 0, none⟩), 3, lc6⟩, aM)]) [3, 0, 1, 2] (by decide) rfl) hk
   clear hk HE
   have hH2 : Box wk42 gk35 28 (Cm.cells c2) := (HF.out.box 3 _ _ _ rfl)
   refine ⟨.bool true, rfl, hH2, fun hH => ?_⟩
   clear hH2
   try simp only [pS]
   refine xV 28 131 (.bool false) hH <| xV 29 132 (.bool false) hH <| ?_
   try simp only [pS]
   refine wpAnyH_done (by kernel_rfl) ?_ _
   try simp only [pS]
   clear hH
   go_upto_region 22 with fail
   refine WL.start <| uK (pV p 0) <| ?_
   try simp only [pS]
   refine uC 21 #[pV p 0] (dec5P HF.out.prp) ?_
   rintro e wk43 ⟨rfl, hk⟩
   have HF : Hid (Og w (wk43) I8 p q5 [(gk1, 23, Ky.cells ⟨3, 1, 4, 0⟩), (gk14, 47, Mg.cells ⟨15, ⟨false, 4⟩, ⟨true, 2⟩, 3, 7, ⟨3, 1, 4, 0⟩, ⟨5, 2⟩, spZ, slZ, cZ, bvZ, slZ, false⟩), (gk23, 66, #[.slice (some ⟨ga3, 0, none⟩) 3 lc3, .slice (some ⟨ga4, 0, none⟩) 3 lc4]), (gk35, 28, Cm.cells c2), (gk40, 66, #[.slice (some ⟨ga8, 0, none⟩) 3 lc8])] [(⟨wa1, 3, wk1⟩, aM), (⟨(some ⟨ga5, 0, none⟩), 3, lc5⟩, aM), (⟨(some ⟨ga6, 0, none⟩), 3, lc6⟩, aM)]) := HF.out.no hk
   clear hk
   refine ⟨.tuple #[.agg (Cm.cells c2), .bool true], rfl, ?_⟩
   try simp only [pS]
   refine uK (.tuple #[.agg (Cm.cells c2), .bool true]) <| uK (.agg (Cm.cells c2)) <| uK (.bool true) <| ?_
   try simp only [pS]
   refine uR (pV wk43.heap.size 0) (wk43.alloc (.cells (Cm.cells cZ) 28)) (exec_alloc 28 rfl (Cm.cells cZ) Z28) ?_
   try simp only [pS]
   have HF : Hid (Og w (wk43.alloc (.cells (Cm.cells cZ) 28)) I8 p q5 [(gk1, 23, Ky.cells ⟨3, 1, 4, 0⟩), (gk14, 47, Mg.cells ⟨15, ⟨false, 4⟩, ⟨true, 2⟩, 3, 7, ⟨3, 1, 4, 0⟩, ⟨5, 2⟩, spZ, slZ, cZ, bvZ, slZ, false⟩), (gk23, 66, #[.slice (some ⟨ga3, 0, none⟩) 3 lc3, .slice (some ⟨ga4, 0, none⟩) 3 lc4]), (gk35, 28, Cm.cells c2), (gk40, 66, #[.slice (some ⟨ga8, 0, none⟩) 3 lc8]), (wk43.heap.size, 28, Cm.cells cZ)] [(⟨wa1, 3, wk1⟩, aM), (⟨(some ⟨ga5, 0, none⟩), 3, lc5⟩, aM), (⟨(some ⟨ga6, 0, none⟩), 3, lc6⟩, aM)]) := HF.out.alloc _ _
   generalize wk43.alloc (.cells (Cm.cells cZ) 28) = wk45 at HF ⊢
   generalize wk43.heap.size = gk44 at HF ⊢
   refine uT 28 ⟨gk44, 0, none⟩ (.agg (Cm.cells c2)) (wk45.setRow gk44 (Cm.cells c2)) (rs (Cm.cs cZ) (Cm.cs c2) (Cm.cs c2) (HF.out.box 5 _ _ _ rfl) S28 (Cm.oneL _)) ?_
   try simp only [pS]
   have HF : Hid (Og w (wk45.setRow gk44 (Cm.cells c2)) I8 p q5 [(gk1, 23, Ky.cells ⟨3, 1, 4, 0⟩), (gk14, 47, Mg.cells ⟨15, ⟨false, 4⟩, ⟨true, 2⟩, 3, 7, ⟨3, 1, 4, 0⟩, ⟨5, 2⟩, spZ, slZ, cZ, bvZ, slZ, false⟩), (gk23, 66, #[.slice (some ⟨ga3, 0, none⟩) 3 lc3, .slice (some ⟨ga4, 0, none⟩) 3 lc4]), (gk35, 28, Cm.cells c2), (gk40, 66, #[.slice (some ⟨ga8, 0, none⟩) 3 lc8]), (gk44, 28, Cm.cells c2)] [(⟨wa1, 3, wk1⟩, aM), (⟨(some ⟨ga5, 0, none⟩), 3, lc5⟩, aM), (⟨(some ⟨ga6, 0, none⟩), 3, lc6⟩, aM)]) := HF.out.set 5 rfl _
   generalize wk45.setRow gk44 (Cm.cells c2) = wk46 at HF ⊢
   refine uK (.bool true) <| WL.nil <| ?_
   try simp only [pS]
   go_upto_region 23 with fail
   refine WL.start <| uK (.bool true) <| uK (.bool true) <| uL 28 ⟨gk44, 0, none⟩ (.agg (Cm.cells c2)) (run_load_part (cs := Cm.cs c2) (sub := Cm.cs c2) (HF.out.box 5 _ _ _ rfl) (Part.all _) U28 rfl S28) <| uL 28 ⟨gk35, 0, none⟩ (.agg (Cm.cells c2)) (run_load_part (cs := Cm.cs c2) (sub := Cm.cs c2) (HF.out.box 3 _ _ _ rfl) (Part.all _) U28 rfl S28) <| uB .eql 28 (.agg (Cm.cells c2)) (.agg (Cm.cells c2)) (.bool true) (by kernel_rfl) <| uK (.bool true) <| uK (.bool true) <| ?_
   try simp only [pS]
   refine uK (pV p 0) ?_
   try simp only [pS]
   refine uC 25 #[pV p 0] (tick5 HF.out.prp) ?_
   rintro e wk47 ho
   obtain ⟨la9, lc9, I9, rfl, hF⟩ := HF.out.call' ho rfl rfl
   have HF : Hid (Og w (wk47) I9 p q5 [(gk1, 23, Ky.cells ⟨3, 1, 4, 0⟩), (gk14, 47, Mg.cells ⟨15, ⟨false, 4⟩, ⟨true, 2⟩, 3, 7, ⟨3, 1, 4, 0⟩, ⟨5, 2⟩, spZ, slZ, cZ, bvZ, slZ, false⟩), (gk23, 66, #[.slice (some ⟨ga3, 0, none⟩) 3 lc3, .slice (some ⟨ga4, 0, none⟩) 3 lc4]), (gk35, 28, Cm.cells c2), (gk40, 66, #[.slice (some ⟨ga8, 0, none⟩) 3 lc8]), (gk44, 28, Cm.cells c2)] [(⟨wa1, 3, wk1⟩, aM), (⟨(some ⟨ga5, 0, none⟩), 3, lc5⟩, aM), (⟨(some ⟨ga6, 0, none⟩), 3, lc6⟩, aM), (⟨la9, 0, lc9⟩, [])]) := hF
   clear ho hF
   refine ⟨.slice la9 0 lc9, rfl, ?_⟩
   try simp only [pS]
   refine uK (.int .i64 ((0 : Nat) : Int)) <| uB .eql 3 (.int .i64 ((0 : Nat) : Int)) (.int .i64 0) (.bool true) (by kernel_rfl) <| uK (.bool true) <| uK (.bool true) <| WL.nil <| ?_
   try simp only [pS]
   go_wp2
   rw [HC.out]
   exact ⟨rfl, HF.out.kept⟩

end Go.Proofs.Ytpabpeppgpeaoaa.Md
