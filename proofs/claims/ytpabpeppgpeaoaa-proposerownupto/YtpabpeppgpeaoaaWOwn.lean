import Derived.Test.YtpabpeppgpeaoaaXi
namespace Go.Proofs.Ytpabpeppgpeaoaa.Md
open Go.RowKit Gt Gx
set_option linter.unusedVariables false
set_option linter.unusedSimpArgs false

set_option maxRecDepth 100000 in
set_option maxHeartbeats 4000000 in
theorem ownWalk (g : Sl) (zs : List Int) (b : Bv) (es : List En) (ls : List La) (w : World) (hG : RdI w g zs) (hgn : g.l ≤ 1100000) (hE : RdE w b.e es) (hL : RdL w b.l ls) (hne : b.e.l ≤ 1100000) (hnl : b.l.l ≤ 1100000) : Calls Try.prog 7 #[g.v, .agg (Bv.cells b)] w (fun e w' => e = .returned (.bool true) ∧ Kept No w w') := by
  obtain ⟨C, hC⟩ : ∃ C : Ending → World → Prop, C = (fun e w' => e = .returned (.bool true) ∧ Kept No w w') := ⟨_, rfl⟩
  have HC : Hid (C = (fun e w' => e = .returned (.bool true) ∧ Kept No w w')) := hC
  rw [← hC]
  clear hC
  have HG : Hid (RdI w g zs) := hG
  have hzl := hG.len
  have HBe : Hid (RdE w b.e es) := hE
  have HBl : Hid (RdL w b.l ls) := hL
  have hel := hE.len
  have hll := hL.len
  obtain ⟨n, hn⟩ : ∃ n, (uq zs).length = n := ⟨_, rfl⟩
  have hn1 : n ≤ 1100000 := by have := uq_len zs; omega
  have hnn : n ≤ 2000000 := by omega
  clear hG hE hL
  have HF : Hid (Fq No w w []) := Fq.start _ _
  go_enter Try.func7, Try.ntmps7
  go_upto_region 0 with fail
  refine WL.start ?_
  refine uR (pV w.heap.size 0) (w.alloc (.cells (Bv.cells b) 44)) (exec_box 44 _ rfl (Bv.cells b) (by kernel_rfl)) ?_
  try simp only [pS]
  have HF : Hid (Fq No w (w.alloc (.cells (Bv.cells b) 44)) [(w.heap.size, 44, Bv.cells b)]) := HF.out.alloc _ _
  generalize w.alloc (.cells (Bv.cells b) 44) = wk2 at HF ⊢
  generalize w.heap.size = gk1 at HF ⊢
  refine uK (.bool false) <| WL.nil <| ?_
  try simp only [pS]
  go_upto_region 1 with fail
  refine WL.start ?_
  refine uC 8 #[] (known_any _) ?_
  rintro e wk3 ⟨rfl, hk⟩
  have HF : Hid (Fq No w (wk3) [(gk1, 44, Bv.cells b)]) := HF.out.no hk
  clear hk
  refine ⟨.bool true, rfl, ?_⟩
  try simp only [pS]
  refine uK (.bool false) <| uK (.bool false) <| ?_
  try simp only [pS]
  refine uC 23 #[] (taken_any _) ?_
  rintro e wk4 ⟨rfl, hk⟩
  have HF : Hid (Fq No w (wk4) [(gk1, 44, Bv.cells b)]) := HF.out.no hk
  clear hk
  refine ⟨.bool true, rfl, ?_⟩
  try simp only [pS]
  refine uK (.bool false) <| uK (.bool false) <| WL.nil <| ?_
  try simp only [pS]
  go_upto_region 3 with fail
  refine WL.start <| uW (.agg (Ky.cells ⟨3, 1, 4, 0⟩)) (exec_build 23 _ rfl (Ky.cells ⟨3, 1, 4, 0⟩) (by kernel_rfl)) <| ?_
  try simp only [pS]
  refine uR (pV wk4.heap.size 0) (wk4.alloc (.cells (Ky.cells kyZ) 23)) (exec_alloc 23 rfl (Ky.cells kyZ) Z23) ?_
  try simp only [pS]
  have HF : Hid (Fq No w (wk4.alloc (.cells (Ky.cells kyZ) 23)) [(gk1, 44, Bv.cells b), (wk4.heap.size, 23, Ky.cells kyZ)]) := HF.out.alloc _ _
  generalize wk4.alloc (.cells (Ky.cells kyZ) 23) = wk6 at HF ⊢
  generalize wk4.heap.size = gk5 at HF ⊢
  refine uT 23 ⟨gk5, 0, none⟩ (.agg (Ky.cells ⟨3, 1, 4, 0⟩)) (wk6.setRow gk5 (Ky.cells ⟨3, 1, 4, 0⟩)) (rs (Ky.cs kyZ) (Ky.cs ⟨3, 1, 4, 0⟩) (Ky.cs ⟨3, 1, 4, 0⟩) (HF.out.box 1 _ _ _ rfl) S23 (Ky.oneL _)) ?_
  try simp only [pS]
  have HF : Hid (Fq No w (wk6.setRow gk5 (Ky.cells ⟨3, 1, 4, 0⟩)) [(gk1, 44, Bv.cells b), (gk5, 23, Ky.cells ⟨3, 1, 4, 0⟩)]) := HF.out.set 1 rfl _
  generalize wk6.setRow gk5 (Ky.cells ⟨3, 1, 4, 0⟩) = wk7 at HF ⊢
  refine WL.nil ?_
  try simp only [pS]
  go_upto_region 4 with fail
  refine wp_region_held_drew (S := fun w' => Box w' gk5 23 (Ky.cells ⟨3, 1, 4, 0⟩)) rfl (HF.out.box 1 _ _ _ rfl) (fun hH => ?_)
  have HF : Hid (Fq No w (wk7.drew) [(gk1, 44, Bv.cells b), (gk5, 23, Ky.cells ⟨3, 1, 4, 0⟩)]) := HF.out.drew
  generalize wk7.drew = wk8 at HF hH ⊢
  refine xL 0 34 23 ⟨gk5, 0, none⟩ (.agg (Ky.cells ⟨3, 1, 4, 0⟩)) (fun _ hw => run_load_part (cs := Ky.cs ⟨3, 1, 4, 0⟩) (sub := Ky.cs ⟨3, 1, 4, 0⟩) (hw) (Part.all _) U23 rfl S23) hH <| xV 1 35 g.v hH <| ?_
  try simp only [pS]
  refine xC 2 36 24 #[.int .i64 2] (cmd2 _) ?_
  rintro e wk9 ⟨rfl, hk⟩
  have hH2 : Box wk9 gk5 23 (Ky.cells ⟨3, 1, 4, 0⟩) := (hH.kept hk (fun e => e))
  have HF : Hid (Fq No w (wk9) [(gk1, 44, Bv.cells b), (gk5, 23, Ky.cells ⟨3, 1, 4, 0⟩)]) := HF.out.no hk
  clear hk
  refine ⟨.agg (Cm.cells c2), rfl, hH2, fun hH => ?_⟩
  clear hH2
  try simp only [pS]
  refine xC 3 37 9 #[.int .i64 2, .int .i64 3, .agg (Ky.cells ⟨3, 1, 4, 0⟩), g.v, .agg (Cm.cells c2), .int .i64 5, .int .i64 6] (new_P 2 3 (jK oK) g.a g.l g.k zs (Ytpabpeppgpeaoaa.cmdOf 2) 5 6 _ hzl (by omega) (HG.out.no HF.out.kept).nums) ?_
  rintro e wk10 ⟨p, I, rfl, hP, hI, hk⟩
  have hH2 : Box wk10 gk5 23 (Ky.cells ⟨3, 1, 4, 0⟩) := (hH.kept hk (fun e => e))
  have HF : Hid (Og w (wk10) I p (w0S zs) [(gk1, 44, Bv.cells b), (gk5, 23, Ky.cells ⟨3, 1, 4, 0⟩)] []) := Og.start HF.out hP hI hk
  clear hP hI hk
  refine ⟨.pointer (some ⟨p, 0, none⟩), rfl, hH2, fun hH => ?_⟩
  clear hH2
  try simp only [pS]
  refine xV 4 6 (pV p 0) hH ?_
  try simp only [pS]
  refine wpAnyH_done (by kernel_rfl) ?_ _
  try simp only [pS]
  clear hH
  go_upto_region 5 with fail
  refine WL.start <| uK (pV p 0) <| uB .eql 31 (pV p 0) (.pointer none) (.bool false) (by kernel_rfl) <| WL.nil <| ?_
  try simp only [pS]
  go_upto_region 7 with fail
  refine WL.start <| uK (pV p 0) <| ?_
  try simp only [pS]
  refine uC 18 #[pV p 0] (begin_P HF.out.prp) ?_
  rintro e wk11 ho
  obtain ⟨la1, lc1, I1, rfl, hF⟩ := HF.out.call' ho ((xLs_len zs).trans hn) rfl
  have HF : Hid (Og w (wk11) I1 p (w1S zs) [(gk1, 44, Bv.cells b), (gk5, 23, Ky.cells ⟨3, 1, 4, 0⟩)] [(⟨la1, n, lc1⟩, xM zs)]) := hF
  clear ho hF
  refine ⟨.slice la1 n lc1, rfl, ?_⟩
  try simp only [pS]
  refine uK (.slice la1 n lc1) <| WL.nil <| ?_
  try simp only [pS]
  go_upto_region 8 with fail
  refine WL.start ?_
  obtain ⟨wa, wk, wx, hapc, hF2⟩ := HF.out.copy (i := 0) (x := (⟨la1, n, lc1⟩, xM zs)) rfl hnn
  have hapc : (Builtin.append_ #[66, 66] 66 #[.slice (some ⟨wk11.heap.size, 0, none⟩) 0 0, .slice la1 n lc1]).run Try.prog (wk11.alloc (.cells #[] 47)) = .ok (.slice wa n wk) wx := hapc
  refine uR (.slice (some ⟨wk11.heap.size, 0, none⟩) 0 0) (wk11.alloc (.cells #[] 47)) (exec_slice0m rfl) ?_
  try simp only [pS]
  refine uK (.slice la1 n lc1) ?_
  try simp only [pS]
  refine uR (.slice wa n wk) wx (exec_appN _ _ 66 66 rfl _ _ (by kernel_rfl) (by kernel_rfl) hapc) ?_
  try simp only [pS]
  have HF : Hid (Og w (wx) I1 p (w1S zs) [(gk1, 44, Bv.cells b), (gk5, 23, Ky.cells ⟨3, 1, 4, 0⟩)] [(⟨la1, n, lc1⟩, xM zs), (⟨wa, n, wk⟩, xM zs)]) := hF2
  clear hF2 hapc
  refine uK (.slice wa n wk) <| WL.nil <| ?_
  try simp only [pS]
  go_upto_region 9 with fail
  refine WL.start <| uK (pV p 0) <| ?_
  try simp only [pS]
  refine uC 25 #[pV p 0] (wtickP HF.out.prp) ?_
  rintro e wk12 ho
  obtain ⟨la2, lc2, I2, rfl, hF⟩ := HF.out.call' ho ((xLs_len zs).trans hn) rfl
  have HF : Hid (Og w (wk12) I2 p (w1S zs) [(gk1, 44, Bv.cells b), (gk5, 23, Ky.cells ⟨3, 1, 4, 0⟩)] [(⟨la1, n, lc1⟩, xM zs), (⟨wa, n, wk⟩, xM zs), (⟨la2, n, lc2⟩, xM zs)]) := hF
  clear ho hF
  refine ⟨.slice la2 n lc2, rfl, ?_⟩
  try simp only [pS]
  refine uK (.slice la2 n lc2) <| WL.nil <| ?_
  try simp only [pS]
  go_upto_region 10 with fail
  refine WL.start <| uK (.slice la1 n lc1) <| uK (.slice la2 n lc2) <| ?_
  try simp only [pS]
  refine uC 26 #[.slice la1 n lc1, .slice la2 n lc2] (sameMs_any ⟨la1, n, lc1⟩ ⟨la2, n, lc2⟩ (xM zs) _ (HF.out.rd (i := 0) rfl) (HF.out.rd (i := 2) rfl) (xM_pl zs) hnn) ?_
  rintro e wk13 ⟨rfl, hk⟩
  have HF : Hid (Og w (wk13) I2 p (w1S zs) [(gk1, 44, Bv.cells b), (gk5, 23, Ky.cells ⟨3, 1, 4, 0⟩)] [(⟨la1, n, lc1⟩, xM zs), (⟨wa, n, wk⟩, xM zs), (⟨la2, n, lc2⟩, xM zs)]) := HF.out.no hk
  clear hk
  refine ⟨.bool true, rfl, ?_⟩
  try simp only [pS]
  refine uK (.bool false) <| WL.nil <| ?_
  try simp only [pS]
  have HF0 : Hid (Og w wk13 I2 p (w1S zs) [(gk1, 44, Bv.cells b), (gk5, 23, Ky.cells ⟨3, 1, 4, 0⟩)] [(⟨la1, n, lc1⟩, xM zs), (⟨la2, n, lc2⟩, xM zs), (⟨wa, n, wk⟩, xM zs)]) := HF.out.pick [0, 2, 1] (by decide) rfl
  have HPm : Hid (Pm D2 wk13 w.heap.size [⟨la1, n, lc1⟩, ⟨la2, n, lc2⟩] 0 0) := ⟨_, Og.erow2 (T1 := [(⟨la1, n, lc1⟩, xM zs), (⟨la2, n, lc2⟩, xM zs)]) (T2 := [(⟨wa, n, wk⟩, xM zs)]) HF0.out (by simp [hnn]), fun q hq => absurd hq (Nat.not_lt_zero _), by simp [marksOf]⟩
  have HKx : Hid (Kept (EB [⟨la1, n, lc1⟩, ⟨la2, n, lc2⟩]) wk13 wk13) := Kept.refl _ _
  have hdis : ∀ k, At la1 k → ¬ At la2 k := fun k h1 h2 => by have := HF0.out.tt 0 1 _ _ k rfl rfl h1 h2; omega
  have hloW : w.heap.size ≤ wk13.heap.size := HF0.out.kept.size
  clear HF
  go_upto_region 12 with fail
  refine WL.start <| uK (.int .i64 0) <| WL.nil <| ?_
  try simp only [pS]
  go_wp2
  go_loopw [10] (fun v10 wr => ∃ (j : Nat), v10 = .int .i64 ((j : Nat) : Int) ∧ j ≤ n ∧ Hid (Pm D2 wr w.heap.size [⟨la1, n, lc1⟩, ⟨la2, n, lc2⟩] 0 j) ∧ Hid (Kept (EB [⟨la1, n, lc1⟩, ⟨la2, n, lc2⟩]) wk13 wr)) (fun j _ => n - (intOf j).toNat)
  case atStart => exact ⟨0, by go_num, by omega, HPm, HKx⟩
  case round =>
    clear HPm HKx
    obtain ⟨j, rfl, hj, HPm, HKx⟩ := hrel
    by_cases hlj : j < n
    · obtain ⟨gx, hxa⟩ := HPm.out.sm (e := ⟨la1, n, lc1⟩) rfl hlj
      have hxa : la1 = some ⟨gx, 0, none⟩ := hxa
      obtain ⟨cs1, hst, hP2, _, _⟩ := HPm.out.set (e := ⟨la1, n, lc1⟩) rfl hlj hxa (v := .agg (Mg.cells (D2.mm 0 j))) rfl S47 (Mg.oneL _)
      have hst : (storeVar 47 ⟨gx, 0 + j * 30, none⟩ (.agg (Mg.cells (D2.mm 0 j)))).run Try.prog wr = .ok () (wr.setRow gx cs1) := hst
      have HPm2 : Hid (Pm D2 (wr.setRow gx cs1) w.heap.size [⟨la1, n, lc1⟩, ⟨la2, n, lc2⟩] 0 (j + 1)) := hP2
      have HKx2 : Hid (Kept (EB [⟨la1, n, lc1⟩, ⟨la2, n, lc2⟩]) wk13 (wr.setRow gx cs1)) := HKx.out.trans (Kept.setRow _ _ _) (fun _ e => e) (fun k _ e => ⟨⟨la1, n, lc1⟩, by simp, _, hxa, (show gx = k from (show k = gx from e).symm)⟩)
      clear hP2
      go_upto_region 13 with fail
      refine WL.start <| uK (.int .i64 ((j : Nat) : Int)) <| uK (.slice la1 n lc1) <| uK (.int .i64 ((n : Nat) : Int)) <| uB .lss 3 (.int .i64 ((j : Nat) : Int)) (.int .i64 ((n : Nat) : Int)) (.bool true) (by rw [b_lss, decide_eq_true (by omega)]) <| WL.nil <| ?_
      try simp only [pS]
      go_upto_region 15 with fail
      refine WL.start <| uK (.slice la1 n lc1) <| uK (.int .i64 ((j : Nat) : Int)) <| uK (.int .i64 ((j : Nat) : Int)) <| uB .sub 3 (.int .i64 0) (.int .i64 ((j : Nat) : Int)) (.int .i64 (-((j : Nat) : Int))) (b_subw _ _ _ (by rw [IntKind.wrap_i64]; omega) _) <| uW (.agg (Mg.cells ⟨0, adZ, adZ, (-((j : Nat) : Int)), 0, kyZ, spZ, spZ, slZ, cZ, bvZ, slZ, false⟩)) (exec_build 47 _ rfl (Mg.cells ⟨0, adZ, adZ, (-((j : Nat) : Int)), 0, kyZ, spZ, spZ, slZ, cZ, bvZ, slZ, false⟩) (by kernel_rfl)) <| uW (pV gx (0 + j * 30)) (exec_ixA 66 30 E66 F66 _ _ rfl gx 0 n lc1 j (Eq.trans (b := .slice la1 n lc1) (by kernel_rfl) (by rw [hxa])) (by kernel_rfl) (by omega)) <| ?_
      try simp only [pS]
      refine uT 47 ⟨gx, 0 + j * 30, none⟩ (.agg (Mg.cells ⟨0, adZ, adZ, (-((j : Nat) : Int)), 0, kyZ, spZ, spZ, slZ, cZ, bvZ, slZ, false⟩)) (wr.setRow gx cs1) hst ?_
      try simp only [pS]
      refine WL.nil ?_
      try simp only [pS]
      go_upto_region 14 with fail
      refine WL.start <| uK (.int .i64 ((j : Nat) : Int)) <| uB .add 3 (.int .i64 ((j : Nat) : Int)) (.int .i64 1) (.int .i64 (((j + 1) : Nat) : Int)) (b_addw _ _ _ (by rw [IntKind.wrap_i64]; omega) _) <| uK (.int .i64 (((j + 1) : Nat) : Int)) <| WL.nil <| ?_
      try simp only [pS]
      go_wp2
      go_roundw
      case rel => exact ⟨j + 1, by go_num, by omega, HPm2, HKx2⟩
      case measure => simp [intOf]; omega
    · obtain rfl : n = j := by omega
      have HPm : Hid (Pm D2 wr w.heap.size [⟨la1, n, lc1⟩, ⟨la2, n, lc2⟩] 1 0) := HPm.out.next (e := ⟨la1, n, lc1⟩) rfl
      go_upto_region 13 with fail
      refine WL.start <| uK (.int .i64 ((n : Nat) : Int)) <| uK (.slice la1 n lc1) <| uK (.int .i64 ((n : Nat) : Int)) <| uB .lss 3 (.int .i64 ((n : Nat) : Int)) (.int .i64 ((n : Nat) : Int)) (.bool false) (by rw [b_lss, decide_eq_false (by omega)]) <| WL.nil <| ?_
      try simp only [pS]
      go_upto_region 16 with fail
      refine WL.start <| uK (.int .i64 0) <| WL.nil <| ?_
      try simp only [pS]
      go_wp2
      go_loopw [11] (fun v11 wr => ∃ (j : Nat), v11 = .int .i64 ((j : Nat) : Int) ∧ j ≤ n ∧ Hid (Pm D2 wr w.heap.size [⟨la1, n, lc1⟩, ⟨la2, n, lc2⟩] 1 j) ∧ Hid (Kept (EB [⟨la1, n, lc1⟩, ⟨la2, n, lc2⟩]) wk13 wr)) (fun j _ => n - (intOf j).toNat)
      case atStart => exact ⟨0, by go_num, by omega, HPm, HKx⟩
      case round =>
        clear HPm HKx
        obtain ⟨j, rfl, hj, HPm, HKx⟩ := hrel
        by_cases hlj : j < n
        · obtain ⟨gx, hxa⟩ := HPm.out.sm (e := ⟨la2, n, lc2⟩) rfl hlj
          have hxa : la2 = some ⟨gx, 0, none⟩ := hxa
          obtain ⟨cs1, hst, hP2, _, _⟩ := HPm.out.set (e := ⟨la2, n, lc2⟩) rfl hlj hxa (v := .agg (Mg.cells (D2.mm 1 j))) rfl S47 (Mg.oneL _)
          have hst : (storeVar 47 ⟨gx, 0 + j * 30, none⟩ (.agg (Mg.cells (D2.mm 1 j)))).run Try.prog wr = .ok () (wr.setRow gx cs1) := hst
          have HPm2 : Hid (Pm D2 (wr.setRow gx cs1) w.heap.size [⟨la1, n, lc1⟩, ⟨la2, n, lc2⟩] 1 (j + 1)) := hP2
          have HKx2 : Hid (Kept (EB [⟨la1, n, lc1⟩, ⟨la2, n, lc2⟩]) wk13 (wr.setRow gx cs1)) := HKx.out.trans (Kept.setRow _ _ _) (fun _ e => e) (fun k _ e => ⟨⟨la2, n, lc2⟩, by simp, _, hxa, (show gx = k from (show k = gx from e).symm)⟩)
          clear hP2
          go_upto_region 17 with fail
          refine WL.start <| uK (.int .i64 ((j : Nat) : Int)) <| uK (.slice la2 n lc2) <| uK (.int .i64 ((n : Nat) : Int)) <| uB .lss 3 (.int .i64 ((j : Nat) : Int)) (.int .i64 ((n : Nat) : Int)) (.bool true) (by rw [b_lss, decide_eq_true (by omega)]) <| WL.nil <| ?_
          try simp only [pS]
          go_upto_region 19 with fail
          refine WL.start <| uK (.slice la2 n lc2) <| uK (.int .i64 ((j : Nat) : Int)) <| uK (.int .i64 ((j : Nat) : Int)) <| uB .add 3 (.int .i64 900) (.int .i64 ((j : Nat) : Int)) (.int .i64 ((900 + j : Nat) : Int)) (b_addw _ _ _ (by rw [IntKind.wrap_i64]; omega) _) <| uW (.agg (Mg.cells ⟨0, adZ, adZ, ((900 + j : Nat) : Int), 0, kyZ, spZ, spZ, slZ, cZ, bvZ, slZ, false⟩)) (exec_build 47 _ rfl (Mg.cells ⟨0, adZ, adZ, ((900 + j : Nat) : Int), 0, kyZ, spZ, spZ, slZ, cZ, bvZ, slZ, false⟩) (by kernel_rfl)) <| uW (pV gx (0 + j * 30)) (exec_ixA 66 30 E66 F66 _ _ rfl gx 0 n lc2 j (Eq.trans (b := .slice la2 n lc2) (by kernel_rfl) (by rw [hxa])) (by kernel_rfl) (by omega)) <| ?_
          try simp only [pS]
          refine uT 47 ⟨gx, 0 + j * 30, none⟩ (.agg (Mg.cells ⟨0, adZ, adZ, ((900 + j : Nat) : Int), 0, kyZ, spZ, spZ, slZ, cZ, bvZ, slZ, false⟩)) (wr.setRow gx cs1) hst ?_
          try simp only [pS]
          refine WL.nil ?_
          try simp only [pS]
          go_upto_region 18 with fail
          refine WL.start <| uK (.int .i64 ((j : Nat) : Int)) <| uB .add 3 (.int .i64 ((j : Nat) : Int)) (.int .i64 1) (.int .i64 (((j + 1) : Nat) : Int)) (b_addw _ _ _ (by rw [IntKind.wrap_i64]; omega) _) <| uK (.int .i64 (((j + 1) : Nat) : Int)) <| WL.nil <| ?_
          try simp only [pS]
          go_wp2
          go_roundw
          case rel => exact ⟨j + 1, by go_num, by omega, HPm2, HKx2⟩
          case measure => simp [intOf]; omega
        · obtain rfl : n = j := by omega
          have HPm : Hid (Pm D2 wr w.heap.size [⟨la1, n, lc1⟩, ⟨la2, n, lc2⟩] 2 0) := HPm.out.next (e := ⟨la2, n, lc2⟩) rfl
          go_upto_region 17 with fail
          refine WL.start <| uK (.int .i64 ((n : Nat) : Int)) <| uK (.slice la2 n lc2) <| uK (.int .i64 ((n : Nat) : Int)) <| uB .lss 3 (.int .i64 ((n : Nat) : Int)) (.int .i64 ((n : Nat) : Int)) (.bool false) (by rw [b_lss, decide_eq_false (by omega)]) <| WL.nil <| ?_
          try simp only [pS]
          obtain ⟨W2, hW2⟩ : ∃ W2, W2 = wr := ⟨_, rfl⟩
          subst hW2
          have HGx : Hid (Gr D2 W2 W2 w.heap.size ⟨la1, n, lc1⟩ (marksOf D2 0 n) [] la1 lc1) := Gr.start (HPm.out.all (q := 0) (e := ⟨la1, n, lc1⟩) rfl (by omega))
          have HY : Hid (OwG D2 W2 w.heap.size la2 lc2 (marksOf D2 1 n)) := HPm.out.all (q := 1) (e := ⟨la2, n, lc2⟩) rfl (by omega)
          have hlo2 : w.heap.size ≤ W2.heap.size := Nat.le_trans hloW HKx.out.size
          clear HPm
          go_upto_region 20 with fail
          refine WL.start <| uK (.slice la1 n lc1) <| uK (.slice la1 n lc1) <| WL.nil <| ?_
          try simp only [pS]
          go_upto_region 21 with fail
          refine WL.start <| uK (.int .i64 0) <| WL.nil <| ?_
          try simp only [pS]
          go_wp2
          go_loopw [12, 13] (fun v12 v13 wr => ∃ (k : Nat) (a' : Option Addr) (c' : Nat), v12 = .slice a' (n + k) c' ∧ v13 = .int .i64 ((k : Nat) : Int) ∧ k ≤ 70 ∧ Hid (Gr D2 W2 wr w.heap.size ⟨la1, n, lc1⟩ (marksOf D2 0 n) (growsOf D2 0 k) a' c')) (fun _ j _ => 70 - (intOf j).toNat)
          case atStart => exact ⟨0, _, _, rfl, by go_num, by omega, by have h := HGx; simpa [growsOf] using h⟩
          case round =>
            clear HGx
            obtain ⟨k, a', c', rfl, rfl, hk, HGx⟩ := hrel
            by_cases hlk : k < 70
            · obtain ⟨a4, c4, w4, hap, hG⟩ := HGx.out.app (D2.mr 0 k) (n + k) (by rw [gr_len2]) U66 I47 rfl (Mg.oneL _) (by decide) (by omega) (Nat.le_trans hlo2 (HGx.out.kept.size))
              have hap : (Builtin.append_ #[66, 66] 66 #[.slice a' (n + k) c', .slice (some ⟨wr.heap.size, 0, none⟩) 1 1]).run Try.prog (wr.alloc (.cells (Mg.cells (D2.mr 0 k)) 47)) = .ok (.slice a4 (n + k + 1) c4) w4 := hap
              have HGx2 : Hid (Gr D2 W2 w4 w.heap.size ⟨la1, n, lc1⟩ (marksOf D2 0 n) (growsOf D2 0 (k + 1)) a4 c4) := by rw [growsOf_succ]; exact hG
              clear hG
              go_upto_region 22 with fail
              refine WL.start <| uK (.int .i64 ((k : Nat) : Int)) <| uB .lss 3 (.int .i64 ((k : Nat) : Int)) (.int .i64 70) (.bool true) (by rw [b_lss, decide_eq_true (by omega)]) <| WL.nil <| ?_
              try simp only [pS]
              go_upto_region 24 with fail
              refine WL.start <| uK (.slice a' (n + k) c') <| uW (.agg (Mg.cells ⟨0, adZ, adZ, (-500), 0, kyZ, spZ, spZ, slZ, cZ, bvZ, slZ, false⟩)) (exec_build 47 _ rfl (Mg.cells ⟨0, adZ, adZ, (-500), 0, kyZ, spZ, spZ, slZ, cZ, bvZ, slZ, false⟩) (by kernel_rfl)) <| ?_
              try simp only [pS]
              refine uR (.slice (some ⟨wr.heap.size, 0, none⟩) 1 1) (wr.alloc (.cells (Mg.cells ⟨0, adZ, adZ, (-500), 0, kyZ, spZ, spZ, slZ, cZ, bvZ, slZ, false⟩) 47)) (exec_slice2 66 47 _ rfl (Mg.cells ⟨0, adZ, adZ, (-500), 0, kyZ, spZ, spZ, slZ, cZ, bvZ, slZ, false⟩) (.agg (Mg.cells ⟨0, adZ, adZ, (-500), 0, kyZ, spZ, spZ, slZ, cZ, bvZ, slZ, false⟩)) (by kernel_rfl) (by kernel_rfl)) ?_
              try simp only [pS]
              refine uR (.slice a4 (n + k + 1) c4) w4 (exec_appN _ _ 66 66 rfl _ _ (by kernel_rfl) (by kernel_rfl) hap) ?_
              try simp only [pS]
              refine uK (.slice a4 (n + k + 1) c4) <| WL.nil <| ?_
              try simp only [pS]
              go_upto_region 23 with fail
              refine WL.start <| uK (.int .i64 ((k : Nat) : Int)) <| uB .add 3 (.int .i64 ((k : Nat) : Int)) (.int .i64 1) (.int .i64 (((k + 1) : Nat) : Int)) (b_addw _ _ _ (by rw [IntKind.wrap_i64]; omega) _) <| uK (.int .i64 (((k + 1) : Nat) : Int)) <| WL.nil <| ?_
              try simp only [pS]
              go_wp2
              go_roundw
              case rel => exact ⟨k + 1, _, _, rfl, by go_num, by omega, HGx2⟩
              case measure => simp [intOf]; omega
            · obtain rfl : k = 70 := by omega
              go_upto_region 22 with fail
              refine WL.start <| uK (.int .i64 ((70 : Nat) : Int)) <| uB .lss 3 (.int .i64 ((70 : Nat) : Int)) (.int .i64 70) (.bool false) (by rw [b_lss, decide_eq_false (by omega)]) <| WL.nil <| ?_
              try simp only [pS]
              obtain ⟨W3, hW3⟩ : ∃ W3, W3 = wr := ⟨_, rfl⟩
              subst hW3
              obtain ⟨ax, hax⟩ : ∃ ax, ax = a' := ⟨_, rfl⟩
              obtain ⟨cx, hcx⟩ : ∃ cx, cx = c' := ⟨_, rfl⟩
              subst hax hcx
              have HY3 : Hid (OwG D2 W3 w.heap.size la2 lc2 (marksOf D2 1 n)) := HY.out.kept HGx.out.kept (fun k h1 h2 => hdis k h2 h1)
              have HGy : Hid (Gr D2 W3 W3 w.heap.size ⟨la2, n, lc2⟩ (marksOf D2 1 n) [] la2 lc2) := Gr.start HY3.out
              clear hk hlk
              go_upto_region 25 with fail
              refine WL.start <| uK (.slice la2 n lc2) <| uK (.slice la2 n lc2) <| WL.nil <| ?_
              try simp only [pS]
              go_upto_region 26 with fail
              refine WL.start <| uK (.int .i64 0) <| WL.nil <| ?_
              try simp only [pS]
              go_wp2
              go_loopw [14, 15] (fun v14 v15 wr => ∃ (k : Nat) (a' : Option Addr) (c' : Nat), v14 = .slice a' (n + k) c' ∧ v15 = .int .i64 ((k : Nat) : Int) ∧ k ≤ 70 ∧ Hid (Gr D2 W3 wr w.heap.size ⟨la2, n, lc2⟩ (marksOf D2 1 n) (growsOf D2 1 k) a' c')) (fun _ j _ => 70 - (intOf j).toNat)
              case atStart => exact ⟨0, _, _, rfl, by go_num, by omega, by have h := HGy; simpa [growsOf] using h⟩
              case round =>
                clear HGy
                obtain ⟨k, a', c', rfl, rfl, hk, HGy⟩ := hrel
                by_cases hlk : k < 70
                · obtain ⟨a4, c4, w4, hap, hG⟩ := HGy.out.app (D2.mr 1 k) (n + k) (by rw [gr_len2]) U66 I47 rfl (Mg.oneL _) (by decide) (by omega) (Nat.le_trans hlo2 (Nat.le_trans HGx.out.kept.size HGy.out.kept.size))
                  have hap : (Builtin.append_ #[66, 66] 66 #[.slice a' (n + k) c', .slice (some ⟨wr.heap.size, 0, none⟩) 1 1]).run Try.prog (wr.alloc (.cells (Mg.cells (D2.mr 1 k)) 47)) = .ok (.slice a4 (n + k + 1) c4) w4 := hap
                  have HGy2 : Hid (Gr D2 W3 w4 w.heap.size ⟨la2, n, lc2⟩ (marksOf D2 1 n) (growsOf D2 1 (k + 1)) a4 c4) := by rw [growsOf_succ]; exact hG
                  clear hG
                  go_upto_region 27 with fail
                  refine WL.start <| uK (.int .i64 ((k : Nat) : Int)) <| uB .lss 3 (.int .i64 ((k : Nat) : Int)) (.int .i64 70) (.bool true) (by rw [b_lss, decide_eq_true (by omega)]) <| WL.nil <| ?_
                  try simp only [pS]
                  go_upto_region 29 with fail
                  refine WL.start <| uK (.slice a' (n + k) c') <| uW (.agg (Mg.cells ⟨0, adZ, adZ, 7000, 0, kyZ, spZ, spZ, slZ, cZ, bvZ, slZ, false⟩)) (exec_build 47 _ rfl (Mg.cells ⟨0, adZ, adZ, 7000, 0, kyZ, spZ, spZ, slZ, cZ, bvZ, slZ, false⟩) (by kernel_rfl)) <| ?_
                  try simp only [pS]
                  refine uR (.slice (some ⟨wr.heap.size, 0, none⟩) 1 1) (wr.alloc (.cells (Mg.cells ⟨0, adZ, adZ, 7000, 0, kyZ, spZ, spZ, slZ, cZ, bvZ, slZ, false⟩) 47)) (exec_slice2 66 47 _ rfl (Mg.cells ⟨0, adZ, adZ, 7000, 0, kyZ, spZ, spZ, slZ, cZ, bvZ, slZ, false⟩) (.agg (Mg.cells ⟨0, adZ, adZ, 7000, 0, kyZ, spZ, spZ, slZ, cZ, bvZ, slZ, false⟩)) (by kernel_rfl) (by kernel_rfl)) ?_
                  try simp only [pS]
                  refine uR (.slice a4 (n + k + 1) c4) w4 (exec_appN _ _ 66 66 rfl _ _ (by kernel_rfl) (by kernel_rfl) hap) ?_
                  try simp only [pS]
                  refine uK (.slice a4 (n + k + 1) c4) <| WL.nil <| ?_
                  try simp only [pS]
                  go_upto_region 28 with fail
                  refine WL.start <| uK (.int .i64 ((k : Nat) : Int)) <| uB .add 3 (.int .i64 ((k : Nat) : Int)) (.int .i64 1) (.int .i64 (((k + 1) : Nat) : Int)) (b_addw _ _ _ (by rw [IntKind.wrap_i64]; omega) _) <| uK (.int .i64 (((k + 1) : Nat) : Int)) <| WL.nil <| ?_
                  try simp only [pS]
                  go_wp2
                  go_roundw
                  case rel => exact ⟨k + 1, _, _, rfl, by go_num, by omega, HGy2⟩
                  case measure => simp [intOf]; omega
                · obtain rfl : k = 70 := by omega
                  go_upto_region 27 with fail
                  refine WL.start <| uK (.int .i64 ((70 : Nat) : Int)) <| uB .lss 3 (.int .i64 ((70 : Nat) : Int)) (.int .i64 70) (.bool false) (by rw [b_lss, decide_eq_false (by omega)]) <| WL.nil <| ?_
                  try simp only [pS]
                  obtain ⟨W4, hW4⟩ : ∃ W4, W4 = wr := ⟨_, rfl⟩
                  subst hW4
                  obtain ⟨ay, hay⟩ : ∃ ay, ay = a' := ⟨_, rfl⟩
                  obtain ⟨cy, hcy⟩ : ∃ cy, cy = c' := ⟨_, rfl⟩
                  subst hay hcy
                  have HX4 : Hid (OwG D2 W4 w.heap.size ax cx (marksOf D2 0 n ++ growsOf D2 0 70)) := HGx.out.new.kept HGy.out.kept (fun k h1 h2 => by
                    rcases HGx.out.wher with ⟨h, _⟩ | h
                    · rw [h] at h1; exact hdis k h1 h2
                    · have h3 := h k h1; have h4 := HY.out.lt h2; omega)
                  have HY4 : Hid (OwG D2 W4 w.heap.size ay cy (marksOf D2 1 n ++ growsOf D2 1 70)) := HGy.out.new
                  have HK4 : Hid (Kept (EB [⟨la1, n, lc1⟩, ⟨la2, n, lc2⟩]) wk13 W4) := (HKx.out.then (HGx.out.kept.mono (fun k _ e => ⟨⟨la1, n, lc1⟩, by simp, e⟩))).then (HGy.out.kept.mono (fun k _ e => ⟨⟨la2, n, lc2⟩, by simp, e⟩))
                  clear hk hlk HGx HGy HY3 HY HKx
                  go_upto_region 30 with fail
                  refine WL.start <| uK (.int .i64 0) <| WL.nil <| ?_
                  try simp only [pS]
                  go_wp2
                  go_loopw [16] (fun v16 wr => ∃ (k : Nat), v16 = .int .i64 ((k : Nat) : Int) ∧ k ≤ n + 70 ∧ wr = W4) (fun j _ => n + 70 - (intOf j).toNat)
                  case atStart => exact ⟨0, by go_num, by omega, rfl⟩
                  case round =>
                    obtain ⟨k, rfl, hk, rfl⟩ := hrel
                    by_cases hlk : k < n + 70
                    · obtain ⟨gx, hxa⟩ : ∃ g, ax = some ⟨g, 0, none⟩ := Own.sm HX4.out (by rw [gr_len2]; omega)
                      have hO : OwG D2 wr w.heap.size (some ⟨gx, 0, none⟩) cx (marksOf D2 0 n ++ growsOf D2 0 70) := by rw [← hxa]; exact HX4.out
                      by_cases hkn : k < n
                      · have hN : ∀ (j : Nat) v, (Mg.cs (D2.mm 0 k))[j]? = some v → wr.cell? ⟨gx, 0 + k * 30 + j, none⟩ = some v := OwG.at hO (mk_lo hkn)
                        go_upto_region 31 with fail
                        refine WL.start <| uK (.int .i64 ((k : Nat) : Int)) <| uK (.slice ax (n + 70) cx) <| uK (.int .i64 (((n + 70) : Nat) : Int)) <| uB .lss 3 (.int .i64 ((k : Nat) : Int)) (.int .i64 (((n + 70) : Nat) : Int)) (.bool true) (by rw [b_lss, decide_eq_true (by omega)]) <| WL.nil <| ?_
                        try simp only [pS]
                        go_upto_region 33 with fail
                        refine WL.start <| uK (.int .i64 ((k : Nat) : Int)) <| uK (.slice la1 n lc1) <| uK (.int .i64 ((n : Nat) : Int)) <| uB .lss 3 (.int .i64 ((k : Nat) : Int)) (.int .i64 ((n : Nat) : Int)) (.bool true) (by rw [b_lss, decide_eq_true (by omega)]) <| uK (.bool true) <| uK (.slice ax (n + 70) cx) <| uK (.int .i64 ((k : Nat) : Int)) <| ?_
                        try simp only [pS]
                        refine uW (pV gx (0 + k * 30)) (exec_ixA 66 30 E66 F66 _ _ rfl gx 0 (n + 70) cx k (Eq.trans (b := .slice ax (n + 70) cx) (by kernel_rfl) (by rw [hxa])) (by kernel_rfl) (by omega)) <| uK (pV gx (0 + k * 30 + 5)) <| uL 3 ⟨gx, 0 + k * 30 + 5, none⟩ (.int .i64 (-((k : Nat) : Int))) (load_one (hN 5 _ rfl) U3 rfl) <| uK (.int .i64 ((k : Nat) : Int)) <| uB .sub 3 (.int .i64 0) (.int .i64 ((k : Nat) : Int)) (.int .i64 (-((k : Nat) : Int))) (b_subw _ _ _ (by rw [IntKind.wrap_i64]; omega) _) <| uB .neq 3 (.int .i64 (-((k : Nat) : Int))) (.int .i64 (-((k : Nat) : Int))) (.bool false) (by rw [b_neq, beq_self_eq_true]; rfl) <| uK (.bool false) <| uK (.bool false) <| ?_
                        try simp only [pS]
                        refine uK (.int .i64 ((k : Nat) : Int)) <| uK (.slice la1 n lc1) <| uK (.int .i64 ((n : Nat) : Int)) <| uB .geq 3 (.int .i64 ((k : Nat) : Int)) (.int .i64 ((n : Nat) : Int)) (.bool false) (by rw [b_geq, decide_eq_false (by omega)]) <| uK (.bool false) <| uZ <| uZ <| uZ <| ?_
                        try simp only [pS]
                        refine uZ <| uZ <| uZ <| uK (.bool false) <| uK (.bool false) <| WL.nil <| ?_
                        try simp only [pS]
                        go_upto_region 32 with fail
                        refine WL.start <| uK (.int .i64 ((k : Nat) : Int)) <| uB .add 3 (.int .i64 ((k : Nat) : Int)) (.int .i64 1) (.int .i64 (((k + 1) : Nat) : Int)) (b_addw _ _ _ (by rw [IntKind.wrap_i64]; omega) _) <| uK (.int .i64 (((k + 1) : Nat) : Int)) <| WL.nil <| ?_
                        try simp only [pS]
                        go_wp2
                        go_roundw
                        case rel => exact ⟨k + 1, by go_num, by omega, by first | trivial | rfl⟩
                        case measure => simp [intOf]; omega
                      · have hN : ∀ (j : Nat) v, (Mg.cs (D2.mr 0 (k - n)))[j]? = some v → wr.cell? ⟨gx, 0 + k * 30 + j, none⟩ = some v := OwG.at hO (mk_hi (by omega) hlk)
                        go_upto_region 31 with fail
                        refine WL.start <| uK (.int .i64 ((k : Nat) : Int)) <| uK (.slice ax (n + 70) cx) <| uK (.int .i64 (((n + 70) : Nat) : Int)) <| uB .lss 3 (.int .i64 ((k : Nat) : Int)) (.int .i64 (((n + 70) : Nat) : Int)) (.bool true) (by rw [b_lss, decide_eq_true (by omega)]) <| WL.nil <| ?_
                        try simp only [pS]
                        go_upto_region 33 with fail
                        refine WL.start <| uK (.int .i64 ((k : Nat) : Int)) <| uK (.slice la1 n lc1) <| uK (.int .i64 ((n : Nat) : Int)) <| uB .lss 3 (.int .i64 ((k : Nat) : Int)) (.int .i64 ((n : Nat) : Int)) (.bool false) (by rw [b_lss, decide_eq_false (by omega)]) <| uK (.bool false) <| uZ <| uZ <| ?_
                        try simp only [pS]
                        refine uZ <| uZ <| uZ <| uZ <| uZ <| uZ <| uK (.bool false) <| uK (.bool false) <| ?_
                        try simp only [pS]
                        refine uK (.int .i64 ((k : Nat) : Int)) <| uK (.slice la1 n lc1) <| uK (.int .i64 ((n : Nat) : Int)) <| uB .geq 3 (.int .i64 ((k : Nat) : Int)) (.int .i64 ((n : Nat) : Int)) (.bool true) (by rw [b_geq, decide_eq_true (by omega)]) <| uK (.bool true) <| uK (.slice ax (n + 70) cx) <| uK (.int .i64 ((k : Nat) : Int)) <| uW (pV gx (0 + k * 30)) (exec_ixA 66 30 E66 F66 _ _ rfl gx 0 (n + 70) cx k (Eq.trans (b := .slice ax (n + 70) cx) (by kernel_rfl) (by rw [hxa])) (by kernel_rfl) (by omega)) <| ?_
                        try simp only [pS]
                        refine uK (pV gx (0 + k * 30 + 5)) <| uL 3 ⟨gx, 0 + k * 30 + 5, none⟩ (.int .i64 (-500)) (load_one (hN 5 _ rfl) U3 rfl) <| uB .neq 3 (.int .i64 (-500)) (.int .i64 (-500)) (.bool false) (by rw [b_neq, beq_self_eq_true]; rfl) <| uK (.bool false) <| uK (.bool false) <| WL.nil <| ?_
                        try simp only [pS]
                        go_upto_region 32 with fail
                        refine WL.start <| uK (.int .i64 ((k : Nat) : Int)) <| uB .add 3 (.int .i64 ((k : Nat) : Int)) (.int .i64 1) (.int .i64 (((k + 1) : Nat) : Int)) (b_addw _ _ _ (by rw [IntKind.wrap_i64]; omega) _) <| uK (.int .i64 (((k + 1) : Nat) : Int)) <| WL.nil <| ?_
                        try simp only [pS]
                        go_wp2
                        go_roundw
                        case rel => exact ⟨k + 1, by go_num, by omega, by first | trivial | rfl⟩
                        case measure => simp [intOf]; omega
                    · skip
                      go_upto_region 31 with fail
                      refine WL.start <| uK (.int .i64 ((k : Nat) : Int)) <| uK (.slice ax (n + 70) cx) <| uK (.int .i64 (((n + 70) : Nat) : Int)) <| uB .lss 3 (.int .i64 ((k : Nat) : Int)) (.int .i64 (((n + 70) : Nat) : Int)) (.bool false) (by rw [b_lss, decide_eq_false (by omega)]) <| WL.nil <| ?_
                      try simp only [pS]
                      obtain ⟨W4, hW4⟩ : ∃ W4, W4 = wr := ⟨_, rfl⟩
                      subst hW4
                      clear hk hlk
                      go_upto_region 35 with fail
                      refine WL.start <| uK (.int .i64 0) <| WL.nil <| ?_
                      try simp only [pS]
                      go_wp2
                      go_loopw [17] (fun v17 wr => ∃ (k : Nat), v17 = .int .i64 ((k : Nat) : Int) ∧ k ≤ n + 70 ∧ wr = W4) (fun j _ => n + 70 - (intOf j).toNat)
                      case atStart => exact ⟨0, by go_num, by omega, rfl⟩
                      case round =>
                        obtain ⟨k, rfl, hk, rfl⟩ := hrel
                        by_cases hlk : k < n + 70
                        · obtain ⟨gx, hxa⟩ : ∃ g, ay = some ⟨g, 0, none⟩ := Own.sm HY4.out (by rw [gr_len2]; omega)
                          have hO : OwG D2 wr w.heap.size (some ⟨gx, 0, none⟩) cy (marksOf D2 1 n ++ growsOf D2 1 70) := by rw [← hxa]; exact HY4.out
                          by_cases hkn : k < n
                          · have hN : ∀ (j : Nat) v, (Mg.cs (D2.mm 1 k))[j]? = some v → wr.cell? ⟨gx, 0 + k * 30 + j, none⟩ = some v := OwG.at hO (mk_lo hkn)
                            go_upto_region 36 with fail
                            refine WL.start <| uK (.int .i64 ((k : Nat) : Int)) <| uK (.slice ay (n + 70) cy) <| uK (.int .i64 (((n + 70) : Nat) : Int)) <| uB .lss 3 (.int .i64 ((k : Nat) : Int)) (.int .i64 (((n + 70) : Nat) : Int)) (.bool true) (by rw [b_lss, decide_eq_true (by omega)]) <| WL.nil <| ?_
                            try simp only [pS]
                            go_upto_region 38 with fail
                            refine WL.start <| uK (.int .i64 ((k : Nat) : Int)) <| uK (.slice la2 n lc2) <| uK (.int .i64 ((n : Nat) : Int)) <| uB .lss 3 (.int .i64 ((k : Nat) : Int)) (.int .i64 ((n : Nat) : Int)) (.bool true) (by rw [b_lss, decide_eq_true (by omega)]) <| uK (.bool true) <| uK (.slice ay (n + 70) cy) <| uK (.int .i64 ((k : Nat) : Int)) <| ?_
                            try simp only [pS]
                            refine uW (pV gx (0 + k * 30)) (exec_ixA 66 30 E66 F66 _ _ rfl gx 0 (n + 70) cy k (Eq.trans (b := .slice ay (n + 70) cy) (by kernel_rfl) (by rw [hxa])) (by kernel_rfl) (by omega)) <| uK (pV gx (0 + k * 30 + 5)) <| uL 3 ⟨gx, 0 + k * 30 + 5, none⟩ (.int .i64 ((900 + k : Nat) : Int)) (load_one (hN 5 _ rfl) U3 rfl) <| uK (.int .i64 ((k : Nat) : Int)) <| uB .add 3 (.int .i64 900) (.int .i64 ((k : Nat) : Int)) (.int .i64 ((900 + k : Nat) : Int)) (b_addw _ _ _ (by rw [IntKind.wrap_i64]; omega) _) <| uB .neq 3 (.int .i64 ((900 + k : Nat) : Int)) (.int .i64 ((900 + k : Nat) : Int)) (.bool false) (by rw [b_neq, beq_self_eq_true]; rfl) <| uK (.bool false) <| uK (.bool false) <| ?_
                            try simp only [pS]
                            refine uK (.int .i64 ((k : Nat) : Int)) <| uK (.slice la2 n lc2) <| uK (.int .i64 ((n : Nat) : Int)) <| uB .geq 3 (.int .i64 ((k : Nat) : Int)) (.int .i64 ((n : Nat) : Int)) (.bool false) (by rw [b_geq, decide_eq_false (by omega)]) <| uK (.bool false) <| uZ <| uZ <| uZ <| ?_
                            try simp only [pS]
                            refine uZ <| uZ <| uZ <| uK (.bool false) <| uK (.bool false) <| WL.nil <| ?_
                            try simp only [pS]
                            go_upto_region 37 with fail
                            refine WL.start <| uK (.int .i64 ((k : Nat) : Int)) <| uB .add 3 (.int .i64 ((k : Nat) : Int)) (.int .i64 1) (.int .i64 (((k + 1) : Nat) : Int)) (b_addw _ _ _ (by rw [IntKind.wrap_i64]; omega) _) <| uK (.int .i64 (((k + 1) : Nat) : Int)) <| WL.nil <| ?_
                            try simp only [pS]
                            go_wp2
                            go_roundw
                            case rel => exact ⟨k + 1, by go_num, by omega, by first | trivial | rfl⟩
                            case measure => simp [intOf]; omega
                          · have hN : ∀ (j : Nat) v, (Mg.cs (D2.mr 1 (k - n)))[j]? = some v → wr.cell? ⟨gx, 0 + k * 30 + j, none⟩ = some v := OwG.at hO (mk_hi (by omega) hlk)
                            go_upto_region 36 with fail
                            refine WL.start <| uK (.int .i64 ((k : Nat) : Int)) <| uK (.slice ay (n + 70) cy) <| uK (.int .i64 (((n + 70) : Nat) : Int)) <| uB .lss 3 (.int .i64 ((k : Nat) : Int)) (.int .i64 (((n + 70) : Nat) : Int)) (.bool true) (by rw [b_lss, decide_eq_true (by omega)]) <| WL.nil <| ?_
                            try simp only [pS]
                            go_upto_region 38 with fail
                            refine WL.start <| uK (.int .i64 ((k : Nat) : Int)) <| uK (.slice la2 n lc2) <| uK (.int .i64 ((n : Nat) : Int)) <| uB .lss 3 (.int .i64 ((k : Nat) : Int)) (.int .i64 ((n : Nat) : Int)) (.bool false) (by rw [b_lss, decide_eq_false (by omega)]) <| uK (.bool false) <| uZ <| uZ <| ?_
                            try simp only [pS]
                            refine uZ <| uZ <| uZ <| uZ <| uZ <| uZ <| uK (.bool false) <| uK (.bool false) <| ?_
                            try simp only [pS]
                            refine uK (.int .i64 ((k : Nat) : Int)) <| uK (.slice la2 n lc2) <| uK (.int .i64 ((n : Nat) : Int)) <| uB .geq 3 (.int .i64 ((k : Nat) : Int)) (.int .i64 ((n : Nat) : Int)) (.bool true) (by rw [b_geq, decide_eq_true (by omega)]) <| uK (.bool true) <| uK (.slice ay (n + 70) cy) <| uK (.int .i64 ((k : Nat) : Int)) <| uW (pV gx (0 + k * 30)) (exec_ixA 66 30 E66 F66 _ _ rfl gx 0 (n + 70) cy k (Eq.trans (b := .slice ay (n + 70) cy) (by kernel_rfl) (by rw [hxa])) (by kernel_rfl) (by omega)) <| ?_
                            try simp only [pS]
                            refine uK (pV gx (0 + k * 30 + 5)) <| uL 3 ⟨gx, 0 + k * 30 + 5, none⟩ (.int .i64 7000) (load_one (hN 5 _ rfl) U3 rfl) <| uB .neq 3 (.int .i64 7000) (.int .i64 7000) (.bool false) (by kernel_rfl) <| uK (.bool false) <| uK (.bool false) <| WL.nil <| ?_
                            try simp only [pS]
                            go_upto_region 37 with fail
                            refine WL.start <| uK (.int .i64 ((k : Nat) : Int)) <| uB .add 3 (.int .i64 ((k : Nat) : Int)) (.int .i64 1) (.int .i64 (((k + 1) : Nat) : Int)) (b_addw _ _ _ (by rw [IntKind.wrap_i64]; omega) _) <| uK (.int .i64 (((k + 1) : Nat) : Int)) <| WL.nil <| ?_
                            try simp only [pS]
                            go_wp2
                            go_roundw
                            case rel => exact ⟨k + 1, by go_num, by omega, by first | trivial | rfl⟩
                            case measure => simp [intOf]; omega
                        · skip
                          go_upto_region 36 with fail
                          refine WL.start <| uK (.int .i64 ((k : Nat) : Int)) <| uK (.slice ay (n + 70) cy) <| uK (.int .i64 (((n + 70) : Nat) : Int)) <| uB .lss 3 (.int .i64 ((k : Nat) : Int)) (.int .i64 (((n + 70) : Nat) : Int)) (.bool false) (by rw [b_lss, decide_eq_false (by omega)]) <| WL.nil <| ?_
                          try simp only [pS]
                          have HF : Hid (Og w (wr) I2 p (w1S zs) [(gk1, 44, Bv.cells b), (gk5, 23, Ky.cells ⟨3, 1, 4, 0⟩)] [(⟨wa, n, wk⟩, xM zs)]) := Og.wr (T1 := [(⟨la1, n, lc1⟩, xM zs), (⟨la2, n, lc2⟩, xM zs)]) (T2 := [(⟨wa, n, wk⟩, xM zs)]) HF0.out HK4.out
                          clear HF0 HK4 HX4 HY4
                          go_upto_region 40 with fail
                          refine WL.start <| uK (pV p 0) <| ?_
                          try simp only [pS]
                          refine uC 25 #[pV p 0] (wtickP HF.out.prp) ?_
                          rintro e wk14 ho
                          obtain ⟨la3, lc3, I3, rfl, hF⟩ := HF.out.call' ho ((xLs_len zs).trans hn) rfl
                          have HF : Hid (Og w (wk14) I3 p (w1S zs) [(gk1, 44, Bv.cells b), (gk5, 23, Ky.cells ⟨3, 1, 4, 0⟩)] [(⟨wa, n, wk⟩, xM zs), (⟨la3, n, lc3⟩, xM zs)]) := hF
                          clear ho hF
                          refine ⟨.slice la3 n lc3, rfl, ?_⟩
                          try simp only [pS]
                          refine uK (.slice wa n wk) ?_
                          try simp only [pS]
                          refine uC 26 #[.slice la3 n lc3, .slice wa n wk] (sameMs_any ⟨la3, n, lc3⟩ ⟨wa, n, wk⟩ (xM zs) _ (HF.out.rd (i := 1) rfl) (HF.out.rd (i := 0) rfl) (xM_pl zs) hnn) ?_
                          rintro e wk15 ⟨rfl, hk⟩
                          have HF : Hid (Og w (wk15) I3 p (w1S zs) [(gk1, 44, Bv.cells b), (gk5, 23, Ky.cells ⟨3, 1, 4, 0⟩)] [(⟨wa, n, wk⟩, xM zs), (⟨la3, n, lc3⟩, xM zs)]) := HF.out.no hk
                          clear hk
                          refine ⟨.bool true, rfl, ?_⟩
                          try simp only [pS]
                          refine uK (.bool false) <| WL.nil <| ?_
                          try simp only [pS]
                          by_cases hg9 : g.l = 0
                          ·skip
                           have hgz : (((g.l : Nat) : Int) == 0) = true := by rw [hg9]; rfl
                           go_upto_region 42 with fail
                           refine WL.start <| uK (g.v) <| uK (.int .i64 ((g.l : Nat) : Int)) <| uB .eql 3 (.int .i64 ((g.l : Nat) : Int)) (.int .i64 0) (.bool true) (by rw [b_eql, hgz]) <| WL.nil <| ?_
                           try simp only [pS]
                           go_upto_region 43 with fail
                           refine WL.start <| uK (.bool true) <| WL.nil <| ?_
                           try simp only [pS]
                           go_wp2
                           rw [HC.out]
                           exact ⟨rfl, HF.out.kept⟩
                          ·skip
                           have hgz : (((g.l : Nat) : Int) == 0) = false := by rw [beq_eq_false_iff_ne]; omega
                           go_upto_region 42 with fail
                           refine WL.start <| uK (g.v) <| uK (.int .i64 ((g.l : Nat) : Int)) <| uB .eql 3 (.int .i64 ((g.l : Nat) : Int)) (.int .i64 0) (.bool false) (by rw [b_eql, hgz]) <| WL.nil <| ?_
                           try simp only [pS]
                           have HF : Hid (Og w (wk15) I3 p (w1S zs) [(gk1, 44, Bv.cells b), (gk5, 23, Ky.cells ⟨3, 1, 4, 0⟩)] []) := HF.out.pick [] (by decide) rfl
                           obtain ⟨gg, go, hga, hgc⟩ := HG.out.at (i := 0) (by omega)
                           obtain ⟨g0, hg0e⟩ : ∃ g0, g0 = zs[0]?.getD 0 := ⟨_, rfl⟩
                           rw [← hg0e] at hgc
                           have hg0 : g0 ∈ zs := by
                             have h1 : 0 < zs.length := by omega
                             rw [hg0e, List.getElem?_eq_getElem h1]
                             exact List.getElem_mem h1
                           have hgv : g.v = .slice (some ⟨gg, go, none⟩) g.l g.k := by unfold Sl.v; rw [hga]
                           clear hga hg0e
                           go_upto_region 44 with fail
                           go_cut [18] from 169 to 177 (fun v18 wc => ∃ (gm gb ge gl gc : Nat), v18 = .pointer (some ⟨gm, 0, none⟩) ∧ Hid (Og w wc I3 p (w1S zs) [(gk1, 44, Bv.cells b), (gk5, 23, Ky.cells ⟨3, 1, 4, 0⟩), (gm, 47, Mg.cells (lentM (bMsg g0 b) gb ge gl gc))] []) ∧ Hid (LmAt wc wk15.drew.heap.size (bMsg g0 b) [] es ls [] gb ge gl gc))
                           case first =>
                            rename_i J0 K0 hJ0 hK0
                            refine wp_region_held_drew (S := fun w' => Kept No wk15.drew w') rfl (Kept.refl No _) (fun hH => ?_)
                            have HF : Hid (Og w (wk15.drew) I3 p (w1S zs) [(gk1, 44, Bv.cells b), (gk5, 23, Ky.cells ⟨3, 1, 4, 0⟩)] []) := HF.out.drew
                            have HGc : Hid (wk15.drew.cell? ⟨gg, go + 0 * 1, none⟩ = some (.int .i64 g0)) := HF.out.kept.cell hgc (fun e => e)
                            have HMg : Hid (MgAt w (bMsg g0 b) [] es ls []) := ⟨OwB.nil w 0 |>.rd, HBe.out, HBl.out, ⟨RowsAt.nil _ _ _, rfl, fun _ => rfl⟩, Nat.zero_le _, by show b.e.l ≤ _; omega, by show b.l.l ≤ _; omega, Nat.zero_le _⟩
                            generalize hwz : wk15.drew = wz at HF HGc hH ⊢
                            have HFz : Hid (Og w (wz) I3 p (w1S zs) [(gk1, 44, Bv.cells b), (gk5, 23, Ky.cells ⟨3, 1, 4, 0⟩)] []) := HF
                            have HWz : Hid (wk15.drew = wz) := hwz
                            clear hwz
                            refine xV 0 169 g.v hH <| xU 1 170 (pV gg (go + 0 * 1)) (fun w' hw => exec_ixA 24 1 E24 F24 _ _ rfl gg go g.l g.k 0 (Eq.trans (b := g.v) (by kernel_rfl) hgv) (by kernel_rfl) (by omega)) hH <| xL 2 171 3 ⟨gg, go + 0 * 1, none⟩ (.int .i64 g0) (fun _ hw => load_one (hw.cell HGc.out (fun e => e)) U3 rfl) hH <| xU 3 172 (.agg (Ad.cells ⟨false, g0⟩)) (fun w' hw => exec_build 37 _ rfl (Ad.cells ⟨false, g0⟩) (by kernel_rfl)) hH <| xU 4 173 (.agg (Ad.cells ⟨true, 2⟩)) (fun w' hw => exec_build 37 _ rfl (Ad.cells ⟨true, 2⟩) (by kernel_rfl)) hH <| xL 5 174 23 ⟨gk5, 0, none⟩ (.agg (Ky.cells ⟨3, 1, 4, 0⟩)) (fun _ hw => run_load_part (cs := Ky.cs ⟨3, 1, 4, 0⟩) (sub := Ky.cs ⟨3, 1, 4, 0⟩) ((HFz.out.box 1 _ _ _ rfl).kept hw (fun e => e)) (Part.all _) U23 rfl S23) hH <| ?_
                            try simp only [pS]
                            refine xL 6 175 44 ⟨gk1, 0, none⟩ (.agg (Bv.cells b)) (fun _ hw => run_load_part (cs := Bv.cs b) (sub := Bv.cs b) ((HFz.out.box 0 _ _ _ rfl).kept hw (fun e => e)) (Part.all _) U44 rfl S44) hH <| xU 7 176 (.agg (Mg.cells ⟨17, ⟨false, g0⟩, ⟨true, 2⟩, 3, 6, ⟨3, 1, 4, 0⟩, spZ, spZ, slZ, cZ, b, slZ, false⟩)) (fun w' hw => exec_build 47 _ rfl (Mg.cells ⟨17, ⟨false, g0⟩, ⟨true, 2⟩, 3, 6, ⟨3, 1, 4, 0⟩, spZ, spZ, slZ, cZ, b, slZ, false⟩) (by kernel_rfl)) hH <| ?_
                            try simp only [pS]
                            refine any_pick (rs := [8, 9]) (by kernel_rfl) (by simp) ?_
                            intro i hi
                            rcases pick2 hi with rfl | rfl
                            ·skip
                             clear hi
                             refine step_call (i := 8) (o := { dst := some 177, op := Op.call { callee := Callee.value (Operand.func 27), args := #[Operand.tmp 176], argTypes := #[47] }, type := 47, pos := "outright.go:364", after := #[{ on := 7, ground := Ground.data }], guard := none }) rfl (by kernel_rfl) 27 #[.agg (Mg.cells ⟨17, ⟨false, g0⟩, ⟨true, 2⟩, 3, 6, ⟨3, 1, 4, 0⟩, spZ, spZ, slZ, cZ, b, slZ, false⟩)] (by kernel_rfl) _ (lendM_any (bMsg g0 b) [] es ls [] _ (HMg.out.no (HFz.out.kept.then hH))) ?_
                             rintro e wk16 ⟨gb, ge, gl, gc, rfl, hm, hk⟩
                             have hH2 : Kept No wz wk16 := hH.then hk
                             have HLm : Hid (LmAt wk16 wz.heap.size (bMsg g0 b) [] es ls [] gb ge gl gc) := ⟨hm.b, hm.e, hm.l, hm.c, Nat.le_trans hH.size hm.lb, Nat.le_trans hH.size hm.le, Nat.le_trans hH.size hm.ll, Nat.le_trans hH.size hm.lc⟩
                             have HF : Hid (Og w (wk16) I3 p (w1S zs) [(gk1, 44, Bv.cells b), (gk5, 23, Ky.cells ⟨3, 1, 4, 0⟩)] []) := HF.out.no hk
                             clear hm hk
                             refine ⟨.agg (Mg.cells (lentM (bMsg g0 b) gb ge gl gc)), rfl, hH2, fun hH => ?_⟩
                             clear hH2
                             try simp only [pS]
                             have hgm0 : wz.heap.size ≤ wk16.heap.size := hH.size
                             refine xP 9 18 (pV wk16.heap.size 0) (w' := wk16.alloc (.cells (Mg.cells mgZ) 47)) (exec_alloc 47 rfl (Mg.cells mgZ) Z47) (hH.alloc _) (fun hH => ?_)
                             try simp only [pS]
                             have HF : Hid (Og w (wk16.alloc (.cells (Mg.cells mgZ) 47)) I3 p (w1S zs) [(gk1, 44, Bv.cells b), (gk5, 23, Ky.cells ⟨3, 1, 4, 0⟩), (wk16.heap.size, 47, Mg.cells mgZ)] []) := HF.out.alloc _ _
                             have HLm : Hid (LmAt (wk16.alloc (.cells (Mg.cells mgZ) 47)) wz.heap.size (bMsg g0 b) [] es ls [] gb ge gl gc) := HLm.out.no ((Kept.refl No _).alloc _)
                             generalize wk16.alloc (.cells (Mg.cells mgZ) 47) = wk18 at HF HLm hH ⊢
                             obtain ⟨gk17, hg2⟩ : ∃ g2, g2 = wk16.heap.size := ⟨_, rfl⟩
                             rw [← hg2] at HF ⊢
                             have hgm : wz.heap.size ≤ gk17 := by rw [hg2]; exact hgm0
                             clear hgm0 hg2
                             have hgb := HF.out.box 2 _ _ _ rfl
                             refine xS 10 47 ⟨gk17, 0, none⟩ (.agg (Mg.cells (lentM (bMsg g0 b) gb ge gl gc))) (w' := wk18.setRow gk17 (Mg.cells (lentM (bMsg g0 b) gb ge gl gc))) (rs (Mg.cs mgZ) (Mg.cs (lentM (bMsg g0 b) gb ge gl gc)) (Mg.cs (lentM (bMsg g0 b) gb ge gl gc)) (HF.out.box 2 _ _ _ rfl) S47 (Mg.oneL _)) (Kept.newRow hH hgm _) (fun hH => ?_)
                             try simp only [pS]
                             have HF : Hid (Og w (wk18.setRow gk17 (Mg.cells (lentM (bMsg g0 b) gb ge gl gc))) I3 p (w1S zs) [(gk1, 44, Bv.cells b), (gk5, 23, Ky.cells ⟨3, 1, 4, 0⟩), (gk17, 47, Mg.cells (lentM (bMsg g0 b) gb ge gl gc))] []) := HF.out.set 2 rfl _
                             have HLm : Hid (LmAt (wk18.setRow gk17 (Mg.cells (lentM (bMsg g0 b) gb ge gl gc))) wz.heap.size (bMsg g0 b) [] es ls [] gb ge gl gc) := ⟨HLm.out.b.kept (Kept.setRow _ _ _) (fun e => box_ne HLm.out.b hgb (by decide) e), HLm.out.e.kept (Kept.setRow _ _ _) (fun e => box_ne HLm.out.e hgb (by decide) e), HLm.out.l.kept (Kept.setRow _ _ _) (fun e => box_ne HLm.out.l hgb (by decide) e), HLm.out.c.kept (Kept.setRow _ _ _) (fun e => box_ne HLm.out.c hgb (by decide) e), HLm.out.lb, HLm.out.le, HLm.out.ll, HLm.out.lc⟩
                             generalize wk18.setRow gk17 (Mg.cells (lentM (bMsg g0 b) gb ge gl gc)) = wk19 at HF HLm hH ⊢
                             refine wpAnyH_done (by kernel_rfl) ?_ _
                             try simp only [pS]
                             clear hH
                             refine hK0 _ _ (Met.intro (hJ0 _ _ ?_))
                             (repeat apply Exists.intro)
                             refine ⟨?_, rfl⟩
                             exact ⟨_, gb, ge, gl, gc, rfl, HF, by rw [HWz.out]; exact HLm⟩
                            ·skip
                             clear hi
                             have hgm0 : wz.heap.size ≤ wz.heap.size := hH.size
                             refine step_run (i := 9) (o := { dst := some 18, op := Op.alloc 47, type := 0, pos := "outright.go:364", after := #[], guard := none }) (v := .pointer (some ⟨wz.heap.size, 0, none⟩)) (w' := wz.alloc (.cells (Mg.cells mgZ) 47)) rfl (by kernel_rfl) (exec_alloc 47 rfl (Mg.cells mgZ) Z47) (hH.alloc _) (fun hH => ?_)
                             try simp only [pS]
                             have HF : Hid (Og w (wz.alloc (.cells (Mg.cells mgZ) 47)) I3 p (w1S zs) [(gk1, 44, Bv.cells b), (gk5, 23, Ky.cells ⟨3, 1, 4, 0⟩), (wz.heap.size, 47, Mg.cells mgZ)] []) := HF.out.alloc _ _
                             generalize wz.alloc (.cells (Mg.cells mgZ) 47) = wk21 at HF hH ⊢
                             obtain ⟨gk20, hg2⟩ : ∃ g2, g2 = wz.heap.size := ⟨_, rfl⟩
                             rw [← hg2] at HF ⊢
                             have hgm : wz.heap.size ≤ gk20 := by rw [hg2]; exact hgm0
                             clear hgm0 hg2
                             refine xC 8 177 27 #[.agg (Mg.cells ⟨17, ⟨false, g0⟩, ⟨true, 2⟩, 3, 6, ⟨3, 1, 4, 0⟩, spZ, spZ, slZ, cZ, b, slZ, false⟩)] (lendM_any (bMsg g0 b) [] es ls [] _ (HMg.out.no (HFz.out.kept.then hH))) ?_
                             rintro e wk22 ⟨gb, ge, gl, gc, rfl, hm, hk⟩
                             have hH2 : Kept No wz wk22 := hH.then hk
                             have HLm : Hid (LmAt wk22 wz.heap.size (bMsg g0 b) [] es ls [] gb ge gl gc) := ⟨hm.b, hm.e, hm.l, hm.c, Nat.le_trans hH.size hm.lb, Nat.le_trans hH.size hm.le, Nat.le_trans hH.size hm.ll, Nat.le_trans hH.size hm.lc⟩
                             have HF : Hid (Og w (wk22) I3 p (w1S zs) [(gk1, 44, Bv.cells b), (gk5, 23, Ky.cells ⟨3, 1, 4, 0⟩), (gk20, 47, Mg.cells mgZ)] []) := HF.out.no hk
                             clear hm hk
                             refine ⟨.agg (Mg.cells (lentM (bMsg g0 b) gb ge gl gc)), rfl, hH2, fun hH => ?_⟩
                             clear hH2
                             try simp only [pS]
                             have hgb := HF.out.box 2 _ _ _ rfl
                             refine xS 10 47 ⟨gk20, 0, none⟩ (.agg (Mg.cells (lentM (bMsg g0 b) gb ge gl gc))) (w' := wk22.setRow gk20 (Mg.cells (lentM (bMsg g0 b) gb ge gl gc))) (rs (Mg.cs mgZ) (Mg.cs (lentM (bMsg g0 b) gb ge gl gc)) (Mg.cs (lentM (bMsg g0 b) gb ge gl gc)) (HF.out.box 2 _ _ _ rfl) S47 (Mg.oneL _)) (Kept.newRow hH hgm _) (fun hH => ?_)
                             try simp only [pS]
                             have HF : Hid (Og w (wk22.setRow gk20 (Mg.cells (lentM (bMsg g0 b) gb ge gl gc))) I3 p (w1S zs) [(gk1, 44, Bv.cells b), (gk5, 23, Ky.cells ⟨3, 1, 4, 0⟩), (gk20, 47, Mg.cells (lentM (bMsg g0 b) gb ge gl gc))] []) := HF.out.set 2 rfl _
                             have HLm : Hid (LmAt (wk22.setRow gk20 (Mg.cells (lentM (bMsg g0 b) gb ge gl gc))) wz.heap.size (bMsg g0 b) [] es ls [] gb ge gl gc) := ⟨HLm.out.b.kept (Kept.setRow _ _ _) (fun e => box_ne HLm.out.b hgb (by decide) e), HLm.out.e.kept (Kept.setRow _ _ _) (fun e => box_ne HLm.out.e hgb (by decide) e), HLm.out.l.kept (Kept.setRow _ _ _) (fun e => box_ne HLm.out.l hgb (by decide) e), HLm.out.c.kept (Kept.setRow _ _ _) (fun e => box_ne HLm.out.c hgb (by decide) e), HLm.out.lb, HLm.out.le, HLm.out.ll, HLm.out.lc⟩
                             generalize wk22.setRow gk20 (Mg.cells (lentM (bMsg g0 b) gb ge gl gc)) = wk23 at HF HLm hH ⊢
                             refine wpAnyH_done (by kernel_rfl) ?_ _
                             try simp only [pS]
                             clear hH
                             refine hK0 _ _ (Met.intro (hJ0 _ _ ?_))
                             (repeat apply Exists.intro)
                             refine ⟨?_, rfl⟩
                             exact ⟨_, gb, ge, gl, gc, rfl, HF, by rw [HWz.out]; exact HLm⟩
                           case rest =>
                            have HKz : Hid (Kept No w wk15.drew) := HF.out.kept.drew
                            have HIb : Hid (∀ k, I3 k → k < wk15.drew.heap.size) := show ∀ k, I3 k → k < wk15.drew.heap.size from fun k e => (HF.out.drew.ia k e).2.1
                            clear HF
                            obtain ⟨gm, gb, ge, gl, gc, rfl, HF, HLm⟩ := hcut
                            generalize wk15.drew = wz at HKz HIb HLm
                            go_upto_region 45 with fail
                            refine WL.start <| uK (pV p 0) <| uL 47 ⟨gm, 0, none⟩ (.agg (Mg.cells (lentM (bMsg g0 b) gb ge gl gc))) (run_load_part (cs := Mg.cs (lentM (bMsg g0 b) gb ge gl gc)) (sub := Mg.cs (lentM (bMsg g0 b) gb ge gl gc)) (HF.out.box 2 _ _ _ rfl) (Part.all _) U47 rfl S47) <| ?_
                            try simp only [pS]
                            refine uC 28 #[pV p 0, .agg (Mg.cells (lentM (bMsg g0 b) gb ge gl gc))] (take_P HF.out.prp (uM (lentM (bMsg g0 b) gb ge gl gc)) (es.map dE) (ls.map dL) (by show b.e.l * 40 ≤ 140737488355328; omega) (by show b.l.l * 56 ≤ 140737488355328; omega) (lm_rdE HLm.out hel) (lm_rdL HLm.out hll)) ?_
                            rintro e wk24 ho
                            rw [wtake hg0 b es ls gb ge gl gc] at ho
                            obtain ⟨la9, lc9, J9, rfl, hO, hP, hI, hk⟩ := ho
                            have hF := (HF.out.step (n := 0) (L := []) rfl rfl hO hP hI hk).pick (T' := []) [] (by decide) rfl
                            have hi : ∀ k, wz.heap.size ≤ k → k < wc.heap.size → ¬ I3 k ∧ ¬ J9 k := fun k h1 h2 => ⟨fun e => by have := HIb.out k e; omega, fun e => by rcases (hI k e).1 with e | e; (have := HIb.out k e; omega); omega⟩
                            have n1 := hi gb HLm.out.lb HLm.out.b.lt
                            have n2 := hi ge HLm.out.le HLm.out.e.lt
                            have n3 := hi gl HLm.out.ll HLm.out.l.lt
                            have n4 := hi gc HLm.out.lc HLm.out.c.lt
                            have HLm : Hid (LmAt wk24 wz.heap.size (bMsg g0 b) [] es ls [] gb ge gl gc) := ⟨HLm.out.b.kept hk n1.1, HLm.out.e.kept hk n2.1, HLm.out.l.kept hk n3.1, HLm.out.c.kept hk n4.1, HLm.out.lb, HLm.out.le, HLm.out.ll, HLm.out.lc⟩
                            have HnI : Hid (¬ J9 gb ∧ ¬ J9 ge ∧ ¬ J9 gl ∧ ¬ J9 gc) := ⟨n1.2, n2.2, n3.2, n4.2⟩
                            have HF : Hid (Og w (wk24) J9 p (w2S zs b es ls) [(gk1, 44, Bv.cells b), (gk5, 23, Ky.cells ⟨3, 1, 4, 0⟩), (gm, 47, Mg.cells (lentM (bMsg g0 b) gb ge gl gc))] []) := hF
                            clear hF hO hP hI hk hi n1 n2 n3 n4
                            refine ⟨.slice la9 0 lc9, rfl, ?_⟩
                            try simp only [pS]
                            refine uK (.int .i64 ((0 : Nat) : Int)) <| uB .neq 3 (.int .i64 ((0 : Nat) : Int)) (.int .i64 0) (.bool false) (by kernel_rfl) <| WL.nil <| ?_
                            try simp only [pS]
                            go_upto_region 47 with fail
                            refine WL.start <| uL 47 ⟨gm, 0, none⟩ (.agg (Mg.cells (lentM (bMsg g0 b) gb ge gl gc))) (run_load_part (cs := Mg.cs (lentM (bMsg g0 b) gb ge gl gc)) (sub := Mg.cs (lentM (bMsg g0 b) gb ge gl gc)) (HF.out.box 2 _ _ _ rfl) (Part.all _) U47 rfl S47) <| ?_
                            try simp only [pS]
                            refine uC 29 #[.agg (Mg.cells (lentM (bMsg g0 b) gb ge gl gc))] (spoil_any (bMsg g0 b) gb ge gl gc _ [] es ls [] _ HLm.out (by show 0 ≤ _; omega) (by show b.e.l ≤ _; omega) (by show b.l.l ≤ _; omega) (by show 0 ≤ _; omega)) ?_
                            rintro e wk25 ⟨rfl, hk⟩
                            have hF := HF.out.keep hk (fun k e => by
                              rcases e with rfl | rfl | rfl | rfl
                              · exact ⟨Nat.le_trans HKz.out.size HLm.out.lb, HnI.out.1, fun cs => ty_off HLm.out.b (by decide)⟩
                              · exact ⟨Nat.le_trans HKz.out.size HLm.out.le, HnI.out.2.1, fun cs => ty_off HLm.out.e (by decide)⟩
                              · exact ⟨Nat.le_trans HKz.out.size HLm.out.ll, HnI.out.2.2.1, fun cs => ty_off HLm.out.l (by decide)⟩
                              · exact ⟨Nat.le_trans HKz.out.size HLm.out.lc, HnI.out.2.2.2, fun cs => ty_off HLm.out.c (by decide)⟩) (fun i q t cs hi e => by
                              have hb := HF.out.box i q t cs hi
                              have hm := List.mem_of_getElem? hi
                              simp only [List.mem_cons, Prod.mk.injEq, List.not_mem_nil, or_false] at hm
                              have ht : t = 44 ∨ t = 23 ∨ t = 47 := by
                                rcases hm with ⟨_, h, _⟩ | ⟨_, h, _⟩ | ⟨_, h, _⟩
                                · exact .inl h
                                · exact .inr (.inl h)
                                · exact .inr (.inr h)
                              rcases ht with rfl | rfl | rfl <;> rcases e with rfl | rfl | rfl | rfl <;> first | exact ty_off HLm.out.b (by decide) hb | exact ty_off HLm.out.e (by decide) hb | exact ty_off HLm.out.l (by decide) hb | exact ty_off HLm.out.c (by decide) hb)
                            have HF : Hid (Og w (wk25) J9 p (w2S zs b es ls) [(gk1, 44, Bv.cells b), (gk5, 23, Ky.cells ⟨3, 1, 4, 0⟩), (gm, 47, Mg.cells (lentM (bMsg g0 b) gb ge gl gc))] []) := hF
                            clear hF hk HLm HnI
                            refine ⟨.tuple #[], rfl, ?_⟩
                            try simp only [pS]
                            refine WL.nil ?_
                            try simp only [pS]
                            go_upto_region 48 with fail
                            refine WL.start <| uK (pV p 0) <| ?_
                            try simp only [pS]
                            have HB1 : Hid (w.heap.size ≤ wk25.heap.size) := HF.out.kept.size
                            have HIc : Hid (∀ k, J9 k → k < wk25.heap.size) := show ∀ k, J9 k → k < wk25.heap.size from fun k e => (HF.out.ia k e).2.1
                            refine uC 30 #[pV p 0] (wtrimP HF.out.prp) ?_
                            rintro e wk26 ⟨se1, sl1, rfl, hE, hL, hk⟩
                            have HF : Hid (Og w (wk26) J9 p (w2S zs b es ls) [(gk1, 44, Bv.cells b), (gk5, 23, Ky.cells ⟨3, 1, 4, 0⟩), (gm, 47, Mg.cells (lentM (bMsg g0 b) gb ge gl gc))] []) := HF.out.no hk
                            have HE1 : Hid (OwE wk26 wk25.heap.size se1 es) := hE
                            have HL1 : Hid (OwL wk26 wk25.heap.size sl1 ls) := hL
                            have HS1 : Hid (wk25.heap.size ≤ wk26.heap.size) := hk.size
                            clear hE hL hk
                            have HZ1 : Hid (Sz wk26.heap.size wk26) := Nat.le_refl _
                            refine ⟨.tuple #[.agg (Bv.cells ⟨b.up, se1, sl1⟩), .bool true], rfl, ?_⟩
                            try simp only [pS]
                            refine uK (.tuple #[.agg (Bv.cells ⟨b.up, se1, sl1⟩), .bool true]) <| uK (.agg (Bv.cells ⟨b.up, se1, sl1⟩)) <| uK (.bool true) <| ?_
                            try simp only [pS]
                            refine uR (pV wk26.heap.size 0) (wk26.alloc (.cells (Bv.cells bvZ) 44)) (exec_alloc 44 rfl (Bv.cells bvZ) Z44) ?_
                            try simp only [pS]
                            have HE1 : Hid (OwE (wk26.alloc (.cells (Bv.cells bvZ) 44)) wk25.heap.size se1 es) := HE1.out.no ((Kept.refl No _).alloc _)
                            have HL1 : Hid (OwL (wk26.alloc (.cells (Bv.cells bvZ) 44)) wk25.heap.size sl1 ls) := HL1.out.no ((Kept.refl No _).alloc _)
                            have HZ1 : Hid (Sz wk26.heap.size (wk26.alloc (.cells (Bv.cells bvZ) 44))) := HZ1.out.no ((Kept.refl No _).alloc _)
                            have HF : Hid (Og w (wk26.alloc (.cells (Bv.cells bvZ) 44)) J9 p (w2S zs b es ls) [(gk1, 44, Bv.cells b), (gk5, 23, Ky.cells ⟨3, 1, 4, 0⟩), (gm, 47, Mg.cells (lentM (bMsg g0 b) gb ge gl gc)), (wk26.heap.size, 44, Bv.cells bvZ)] []) := HF.out.alloc _ _
                            generalize wk26.alloc (.cells (Bv.cells bvZ) 44) = wk28 at HF HE1 HL1 HZ1 ⊢
                            generalize wk26.heap.size = gk27 at HF ⊢
                            refine uT 44 ⟨gk27, 0, none⟩ (.agg (Bv.cells ⟨b.up, se1, sl1⟩)) (wk28.setRow gk27 (Bv.cells ⟨b.up, se1, sl1⟩)) (rs (Bv.cs bvZ) (Bv.cs ⟨b.up, se1, sl1⟩) (Bv.cs ⟨b.up, se1, sl1⟩) (HF.out.box 3 _ _ _ rfl) S44 (Bv.oneL _)) ?_
                            try simp only [pS]
                            have HE1 : Hid (OwE (wk28.setRow gk27 (Bv.cells ⟨b.up, se1, sl1⟩)) wk25.heap.size se1 es) := HE1.out.kept (Kept.setRow _ _ _) (fun k h e => (HE1.out.own.notBox (HF.out.box 3 _ _ _ rfl) (by decide)) ((show k = gk27 from e) ▸ h))
                            have HL1 : Hid (OwL (wk28.setRow gk27 (Bv.cells ⟨b.up, se1, sl1⟩)) wk25.heap.size sl1 ls) := HL1.out.kept (Kept.setRow _ _ _) (fun k h e => (HL1.out.own.notBox (HF.out.box 3 _ _ _ rfl) (by decide)) ((show k = gk27 from e) ▸ h))
                            have HZ1 : Hid (Sz wk26.heap.size (wk28.setRow gk27 (Bv.cells ⟨b.up, se1, sl1⟩))) := HZ1.out.no (Kept.setRow _ _ _)
                            have HF : Hid (Og w (wk28.setRow gk27 (Bv.cells ⟨b.up, se1, sl1⟩)) J9 p (w2S zs b es ls) [(gk1, 44, Bv.cells b), (gk5, 23, Ky.cells ⟨3, 1, 4, 0⟩), (gm, 47, Mg.cells (lentM (bMsg g0 b) gb ge gl gc)), (gk27, 44, Bv.cells ⟨b.up, se1, sl1⟩)] []) := HF.out.set 3 rfl _
                            generalize wk28.setRow gk27 (Bv.cells ⟨b.up, se1, sl1⟩) = wk29 at HF HE1 HL1 HZ1 ⊢
                            refine uK (.bool true) <| WL.nil <| ?_
                            try simp only [pS]
                            go_upto_region 49 with fail
                            refine WL.start <| uK (pV p 0) <| ?_
                            try simp only [pS]
                            have HB2 : Hid (w.heap.size ≤ wk29.heap.size) := HF.out.kept.size
                            have HR1 : Hid ((∀ q, At se1.a q → q < wk29.heap.size) ∧ ∀ q, At sl1.a q → q < wk29.heap.size) := ⟨fun q e => Own.lt HE1.out.own e, fun q e => Own.lt HL1.out.own e⟩
                            have HR2 : Hid (wk26.heap.size ≤ wk29.heap.size) := HZ1.out
                            refine uC 30 #[pV p 0] (wtrimP HF.out.prp) ?_
                            rintro e wk30 ⟨se2, sl2, rfl, hE, hL, hk⟩
                            have HE1 : Hid (OwE (wk30) wk25.heap.size se1 es) := HE1.out.no hk
                            have HL1 : Hid (OwL (wk30) wk25.heap.size sl1 ls) := HL1.out.no hk
                            have HZ1 : Hid (Sz wk26.heap.size (wk30)) := HZ1.out.no hk
                            have HF : Hid (Og w (wk30) J9 p (w2S zs b es ls) [(gk1, 44, Bv.cells b), (gk5, 23, Ky.cells ⟨3, 1, 4, 0⟩), (gm, 47, Mg.cells (lentM (bMsg g0 b) gb ge gl gc)), (gk27, 44, Bv.cells ⟨b.up, se1, sl1⟩)] []) := HF.out.no hk
                            have HE2 : Hid (OwE wk30 wk29.heap.size se2 es) := hE
                            have HL2 : Hid (OwL wk30 wk29.heap.size sl2 ls) := hL
                            have HS2 : Hid (wk29.heap.size ≤ wk30.heap.size) := hk.size
                            clear hE hL hk
                            have HZ2 : Hid (Sz wk30.heap.size wk30) := Nat.le_refl _
                            have HR3 : Hid ((∀ q, At se2.a q → q < wk30.heap.size) ∧ ∀ q, At sl2.a q → q < wk30.heap.size) := ⟨fun q e => Own.lt HE2.out.own e, fun q e => Own.lt HL2.out.own e⟩
                            refine ⟨.tuple #[.agg (Bv.cells ⟨b.up, se2, sl2⟩), .bool true], rfl, ?_⟩
                            try simp only [pS]
                            refine uK (.tuple #[.agg (Bv.cells ⟨b.up, se2, sl2⟩), .bool true]) <| uK (.agg (Bv.cells ⟨b.up, se2, sl2⟩)) <| uK (.bool true) <| ?_
                            try simp only [pS]
                            refine uR (pV wk30.heap.size 0) (wk30.alloc (.cells (Bv.cells bvZ) 44)) (exec_alloc 44 rfl (Bv.cells bvZ) Z44) ?_
                            try simp only [pS]
                            have HE1 : Hid (OwE (wk30.alloc (.cells (Bv.cells bvZ) 44)) wk25.heap.size se1 es) := HE1.out.no ((Kept.refl No _).alloc _)
                            have HL1 : Hid (OwL (wk30.alloc (.cells (Bv.cells bvZ) 44)) wk25.heap.size sl1 ls) := HL1.out.no ((Kept.refl No _).alloc _)
                            have HZ1 : Hid (Sz wk26.heap.size (wk30.alloc (.cells (Bv.cells bvZ) 44))) := HZ1.out.no ((Kept.refl No _).alloc _)
                            have HE2 : Hid (OwE (wk30.alloc (.cells (Bv.cells bvZ) 44)) wk29.heap.size se2 es) := HE2.out.no ((Kept.refl No _).alloc _)
                            have HL2 : Hid (OwL (wk30.alloc (.cells (Bv.cells bvZ) 44)) wk29.heap.size sl2 ls) := HL2.out.no ((Kept.refl No _).alloc _)
                            have HZ2 : Hid (Sz wk30.heap.size (wk30.alloc (.cells (Bv.cells bvZ) 44))) := HZ2.out.no ((Kept.refl No _).alloc _)
                            have HF : Hid (Og w (wk30.alloc (.cells (Bv.cells bvZ) 44)) J9 p (w2S zs b es ls) [(gk1, 44, Bv.cells b), (gk5, 23, Ky.cells ⟨3, 1, 4, 0⟩), (gm, 47, Mg.cells (lentM (bMsg g0 b) gb ge gl gc)), (gk27, 44, Bv.cells ⟨b.up, se1, sl1⟩), (wk30.heap.size, 44, Bv.cells bvZ)] []) := HF.out.alloc _ _
                            generalize wk30.alloc (.cells (Bv.cells bvZ) 44) = wk32 at HF HE1 HL1 HZ1 HE2 HL2 HZ2 ⊢
                            generalize wk30.heap.size = gk31 at HF ⊢
                            refine uT 44 ⟨gk31, 0, none⟩ (.agg (Bv.cells ⟨b.up, se2, sl2⟩)) (wk32.setRow gk31 (Bv.cells ⟨b.up, se2, sl2⟩)) (rs (Bv.cs bvZ) (Bv.cs ⟨b.up, se2, sl2⟩) (Bv.cs ⟨b.up, se2, sl2⟩) (HF.out.box 4 _ _ _ rfl) S44 (Bv.oneL _)) ?_
                            try simp only [pS]
                            have HE1 : Hid (OwE (wk32.setRow gk31 (Bv.cells ⟨b.up, se2, sl2⟩)) wk25.heap.size se1 es) := HE1.out.kept (Kept.setRow _ _ _) (fun k h e => (HE1.out.own.notBox (HF.out.box 4 _ _ _ rfl) (by decide)) ((show k = gk31 from e) ▸ h))
                            have HL1 : Hid (OwL (wk32.setRow gk31 (Bv.cells ⟨b.up, se2, sl2⟩)) wk25.heap.size sl1 ls) := HL1.out.kept (Kept.setRow _ _ _) (fun k h e => (HL1.out.own.notBox (HF.out.box 4 _ _ _ rfl) (by decide)) ((show k = gk31 from e) ▸ h))
                            have HZ1 : Hid (Sz wk26.heap.size (wk32.setRow gk31 (Bv.cells ⟨b.up, se2, sl2⟩))) := HZ1.out.no (Kept.setRow _ _ _)
                            have HE2 : Hid (OwE (wk32.setRow gk31 (Bv.cells ⟨b.up, se2, sl2⟩)) wk29.heap.size se2 es) := HE2.out.kept (Kept.setRow _ _ _) (fun k h e => (HE2.out.own.notBox (HF.out.box 4 _ _ _ rfl) (by decide)) ((show k = gk31 from e) ▸ h))
                            have HL2 : Hid (OwL (wk32.setRow gk31 (Bv.cells ⟨b.up, se2, sl2⟩)) wk29.heap.size sl2 ls) := HL2.out.kept (Kept.setRow _ _ _) (fun k h e => (HL2.out.own.notBox (HF.out.box 4 _ _ _ rfl) (by decide)) ((show k = gk31 from e) ▸ h))
                            have HZ2 : Hid (Sz wk30.heap.size (wk32.setRow gk31 (Bv.cells ⟨b.up, se2, sl2⟩))) := HZ2.out.no (Kept.setRow _ _ _)
                            have HF : Hid (Og w (wk32.setRow gk31 (Bv.cells ⟨b.up, se2, sl2⟩)) J9 p (w2S zs b es ls) [(gk1, 44, Bv.cells b), (gk5, 23, Ky.cells ⟨3, 1, 4, 0⟩), (gm, 47, Mg.cells (lentM (bMsg g0 b) gb ge gl gc)), (gk27, 44, Bv.cells ⟨b.up, se1, sl1⟩), (gk31, 44, Bv.cells ⟨b.up, se2, sl2⟩)] []) := HF.out.set 4 rfl _
                            generalize wk32.setRow gk31 (Bv.cells ⟨b.up, se2, sl2⟩) = wk33 at HF HE1 HL1 HZ1 HE2 HL2 HZ2 ⊢
                            refine uK (.bool true) <| WL.nil <| ?_
                            try simp only [pS]
                            go_upto_region 50 with fail
                            refine WL.start <| uK (.bool true) <| uK (.bool false) <| uK (.bool false) <| uK (.bool true) <| uK (.bool false) <| uK (.bool false) <| uK (.bool false) <| ?_
                            try simp only [pS]
                            refine uL 44 ⟨gk27, 0, none⟩ (.agg (Bv.cells ⟨b.up, se1, sl1⟩)) (run_load_part (cs := Bv.cs ⟨b.up, se1, sl1⟩) (sub := Bv.cs ⟨b.up, se1, sl1⟩) (HF.out.box 3 _ _ _ rfl) (Part.all _) U44 rfl S44) <| uL 44 ⟨gk1, 0, none⟩ (.agg (Bv.cells b)) (run_load_part (cs := Bv.cs b) (sub := Bv.cs b) (HF.out.box 0 _ _ _ rfl) (Part.all _) U44 rfl S44) <| ?_
                            try simp only [pS]
                            refine uC 31 #[.agg (Bv.cells ⟨b.up, se1, sl1⟩), .agg (Bv.cells b)] (sameK2 b.up se1 b.e sl1 b.l es ls _ HE1.out.rd (HBe.out.no HF.out.kept) HL1.out.rd (HBl.out.no HF.out.kept) (by rw [← HE1.out.len]; omega) (by rw [← HL1.out.len]; omega)) ?_
                            rintro e wk34 ⟨rfl, hk⟩
                            have HE1 : Hid (OwE (wk34) wk25.heap.size se1 es) := HE1.out.no hk
                            have HL1 : Hid (OwL (wk34) wk25.heap.size sl1 ls) := HL1.out.no hk
                            have HZ1 : Hid (Sz wk26.heap.size (wk34)) := HZ1.out.no hk
                            have HE2 : Hid (OwE (wk34) wk29.heap.size se2 es) := HE2.out.no hk
                            have HL2 : Hid (OwL (wk34) wk29.heap.size sl2 ls) := HL2.out.no hk
                            have HZ2 : Hid (Sz wk30.heap.size (wk34)) := HZ2.out.no hk
                            have HF : Hid (Og w (wk34) J9 p (w2S zs b es ls) [(gk1, 44, Bv.cells b), (gk5, 23, Ky.cells ⟨3, 1, 4, 0⟩), (gm, 47, Mg.cells (lentM (bMsg g0 b) gb ge gl gc)), (gk27, 44, Bv.cells ⟨b.up, se1, sl1⟩), (gk31, 44, Bv.cells ⟨b.up, se2, sl2⟩)] []) := HF.out.no hk
                            clear hk
                            refine ⟨.bool true, rfl, ?_⟩
                            try simp only [pS]
                            refine uK (.bool false) <| uK (.bool false) <| uK (.bool false) <| uL 44 ⟨gk31, 0, none⟩ (.agg (Bv.cells ⟨b.up, se2, sl2⟩)) (run_load_part (cs := Bv.cs ⟨b.up, se2, sl2⟩) (sub := Bv.cs ⟨b.up, se2, sl2⟩) (HF.out.box 4 _ _ _ rfl) (Part.all _) U44 rfl S44) <| uL 44 ⟨gk1, 0, none⟩ (.agg (Bv.cells b)) (run_load_part (cs := Bv.cs b) (sub := Bv.cs b) (HF.out.box 0 _ _ _ rfl) (Part.all _) U44 rfl S44) <| ?_
                            try simp only [pS]
                            refine uC 31 #[.agg (Bv.cells ⟨b.up, se2, sl2⟩), .agg (Bv.cells b)] (sameK2 b.up se2 b.e sl2 b.l es ls _ HE2.out.rd (HBe.out.no HF.out.kept) HL2.out.rd (HBl.out.no HF.out.kept) (by rw [← HE2.out.len]; omega) (by rw [← HL2.out.len]; omega)) ?_
                            rintro e wk35 ⟨rfl, hk⟩
                            have HE1 : Hid (OwE (wk35) wk25.heap.size se1 es) := HE1.out.no hk
                            have HL1 : Hid (OwL (wk35) wk25.heap.size sl1 ls) := HL1.out.no hk
                            have HZ1 : Hid (Sz wk26.heap.size (wk35)) := HZ1.out.no hk
                            have HE2 : Hid (OwE (wk35) wk29.heap.size se2 es) := HE2.out.no hk
                            have HL2 : Hid (OwL (wk35) wk29.heap.size sl2 ls) := HL2.out.no hk
                            have HZ2 : Hid (Sz wk30.heap.size (wk35)) := HZ2.out.no hk
                            have HF : Hid (Og w (wk35) J9 p (w2S zs b es ls) [(gk1, 44, Bv.cells b), (gk5, 23, Ky.cells ⟨3, 1, 4, 0⟩), (gm, 47, Mg.cells (lentM (bMsg g0 b) gb ge gl gc)), (gk27, 44, Bv.cells ⟨b.up, se1, sl1⟩), (gk31, 44, Bv.cells ⟨b.up, se2, sl2⟩)] []) := HF.out.no hk
                            clear hk
                            refine ⟨.bool true, rfl, ?_⟩
                            try simp only [pS]
                            refine uK (.bool false) <| uK (.bool false) <| WL.nil <| ?_
                            try simp only [pS]
                            go_upto_region 52 with fail
                            refine WL.start <| uK (pV p 0) <| ?_
                            try simp only [pS]
                            have HB3 : Hid (w.heap.size ≤ wk35.heap.size) := HF.out.kept.size
                            have HR4 : Hid (wk30.heap.size ≤ wk35.heap.size) := HZ2.out
                            refine uC 30 #[pV p 0] (wtrimP HF.out.prp) ?_
                            rintro e wk36 ⟨se3, sl3, rfl, hE, hL, hk⟩
                            have HE1 : Hid (OwE (wk36) wk25.heap.size se1 es) := HE1.out.no hk
                            have HL1 : Hid (OwL (wk36) wk25.heap.size sl1 ls) := HL1.out.no hk
                            have HZ1 : Hid (Sz wk26.heap.size (wk36)) := HZ1.out.no hk
                            have HE2 : Hid (OwE (wk36) wk29.heap.size se2 es) := HE2.out.no hk
                            have HL2 : Hid (OwL (wk36) wk29.heap.size sl2 ls) := HL2.out.no hk
                            have HZ2 : Hid (Sz wk30.heap.size (wk36)) := HZ2.out.no hk
                            have HF : Hid (Og w (wk36) J9 p (w2S zs b es ls) [(gk1, 44, Bv.cells b), (gk5, 23, Ky.cells ⟨3, 1, 4, 0⟩), (gm, 47, Mg.cells (lentM (bMsg g0 b) gb ge gl gc)), (gk27, 44, Bv.cells ⟨b.up, se1, sl1⟩), (gk31, 44, Bv.cells ⟨b.up, se2, sl2⟩)] []) := HF.out.no hk
                            have HE3 : Hid (OwE wk36 wk35.heap.size se3 es) := hE
                            have HL3 : Hid (OwL wk36 wk35.heap.size sl3 ls) := hL
                            have HS3 : Hid (wk35.heap.size ≤ wk36.heap.size) := hk.size
                            clear hE hL hk
                            refine ⟨.tuple #[.agg (Bv.cells ⟨b.up, se3, sl3⟩), .bool true], rfl, ?_⟩
                            try simp only [pS]
                            refine uK (.tuple #[.agg (Bv.cells ⟨b.up, se3, sl3⟩), .bool true]) <| uK (.agg (Bv.cells ⟨b.up, se3, sl3⟩)) <| uK (.bool true) <| ?_
                            try simp only [pS]
                            refine uR (pV wk36.heap.size 0) (wk36.alloc (.cells (Bv.cells bvZ) 44)) (exec_alloc 44 rfl (Bv.cells bvZ) Z44) ?_
                            try simp only [pS]
                            have HE1 : Hid (OwE (wk36.alloc (.cells (Bv.cells bvZ) 44)) wk25.heap.size se1 es) := HE1.out.no ((Kept.refl No _).alloc _)
                            have HL1 : Hid (OwL (wk36.alloc (.cells (Bv.cells bvZ) 44)) wk25.heap.size sl1 ls) := HL1.out.no ((Kept.refl No _).alloc _)
                            have HZ1 : Hid (Sz wk26.heap.size (wk36.alloc (.cells (Bv.cells bvZ) 44))) := HZ1.out.no ((Kept.refl No _).alloc _)
                            have HE2 : Hid (OwE (wk36.alloc (.cells (Bv.cells bvZ) 44)) wk29.heap.size se2 es) := HE2.out.no ((Kept.refl No _).alloc _)
                            have HL2 : Hid (OwL (wk36.alloc (.cells (Bv.cells bvZ) 44)) wk29.heap.size sl2 ls) := HL2.out.no ((Kept.refl No _).alloc _)
                            have HZ2 : Hid (Sz wk30.heap.size (wk36.alloc (.cells (Bv.cells bvZ) 44))) := HZ2.out.no ((Kept.refl No _).alloc _)
                            have HE3 : Hid (OwE (wk36.alloc (.cells (Bv.cells bvZ) 44)) wk35.heap.size se3 es) := HE3.out.no ((Kept.refl No _).alloc _)
                            have HL3 : Hid (OwL (wk36.alloc (.cells (Bv.cells bvZ) 44)) wk35.heap.size sl3 ls) := HL3.out.no ((Kept.refl No _).alloc _)
                            have HF : Hid (Og w (wk36.alloc (.cells (Bv.cells bvZ) 44)) J9 p (w2S zs b es ls) [(gk1, 44, Bv.cells b), (gk5, 23, Ky.cells ⟨3, 1, 4, 0⟩), (gm, 47, Mg.cells (lentM (bMsg g0 b) gb ge gl gc)), (gk27, 44, Bv.cells ⟨b.up, se1, sl1⟩), (gk31, 44, Bv.cells ⟨b.up, se2, sl2⟩), (wk36.heap.size, 44, Bv.cells bvZ)] []) := HF.out.alloc _ _
                            generalize wk36.alloc (.cells (Bv.cells bvZ) 44) = wk38 at HF HE1 HL1 HZ1 HE2 HL2 HZ2 HE3 HL3 ⊢
                            generalize wk36.heap.size = gk37 at HF ⊢
                            refine uT 44 ⟨gk37, 0, none⟩ (.agg (Bv.cells ⟨b.up, se3, sl3⟩)) (wk38.setRow gk37 (Bv.cells ⟨b.up, se3, sl3⟩)) (rs (Bv.cs bvZ) (Bv.cs ⟨b.up, se3, sl3⟩) (Bv.cs ⟨b.up, se3, sl3⟩) (HF.out.box 5 _ _ _ rfl) S44 (Bv.oneL _)) ?_
                            try simp only [pS]
                            have HE1 : Hid (OwE (wk38.setRow gk37 (Bv.cells ⟨b.up, se3, sl3⟩)) wk25.heap.size se1 es) := HE1.out.kept (Kept.setRow _ _ _) (fun k h e => (HE1.out.own.notBox (HF.out.box 5 _ _ _ rfl) (by decide)) ((show k = gk37 from e) ▸ h))
                            have HL1 : Hid (OwL (wk38.setRow gk37 (Bv.cells ⟨b.up, se3, sl3⟩)) wk25.heap.size sl1 ls) := HL1.out.kept (Kept.setRow _ _ _) (fun k h e => (HL1.out.own.notBox (HF.out.box 5 _ _ _ rfl) (by decide)) ((show k = gk37 from e) ▸ h))
                            have HZ1 : Hid (Sz wk26.heap.size (wk38.setRow gk37 (Bv.cells ⟨b.up, se3, sl3⟩))) := HZ1.out.no (Kept.setRow _ _ _)
                            have HE2 : Hid (OwE (wk38.setRow gk37 (Bv.cells ⟨b.up, se3, sl3⟩)) wk29.heap.size se2 es) := HE2.out.kept (Kept.setRow _ _ _) (fun k h e => (HE2.out.own.notBox (HF.out.box 5 _ _ _ rfl) (by decide)) ((show k = gk37 from e) ▸ h))
                            have HL2 : Hid (OwL (wk38.setRow gk37 (Bv.cells ⟨b.up, se3, sl3⟩)) wk29.heap.size sl2 ls) := HL2.out.kept (Kept.setRow _ _ _) (fun k h e => (HL2.out.own.notBox (HF.out.box 5 _ _ _ rfl) (by decide)) ((show k = gk37 from e) ▸ h))
                            have HZ2 : Hid (Sz wk30.heap.size (wk38.setRow gk37 (Bv.cells ⟨b.up, se3, sl3⟩))) := HZ2.out.no (Kept.setRow _ _ _)
                            have HE3 : Hid (OwE (wk38.setRow gk37 (Bv.cells ⟨b.up, se3, sl3⟩)) wk35.heap.size se3 es) := HE3.out.kept (Kept.setRow _ _ _) (fun k h e => (HE3.out.own.notBox (HF.out.box 5 _ _ _ rfl) (by decide)) ((show k = gk37 from e) ▸ h))
                            have HL3 : Hid (OwL (wk38.setRow gk37 (Bv.cells ⟨b.up, se3, sl3⟩)) wk35.heap.size sl3 ls) := HL3.out.kept (Kept.setRow _ _ _) (fun k h e => (HL3.out.own.notBox (HF.out.box 5 _ _ _ rfl) (by decide)) ((show k = gk37 from e) ▸ h))
                            have HF : Hid (Og w (wk38.setRow gk37 (Bv.cells ⟨b.up, se3, sl3⟩)) J9 p (w2S zs b es ls) [(gk1, 44, Bv.cells b), (gk5, 23, Ky.cells ⟨3, 1, 4, 0⟩), (gm, 47, Mg.cells (lentM (bMsg g0 b) gb ge gl gc)), (gk27, 44, Bv.cells ⟨b.up, se1, sl1⟩), (gk31, 44, Bv.cells ⟨b.up, se2, sl2⟩), (gk37, 44, Bv.cells ⟨b.up, se3, sl3⟩)] []) := HF.out.set 5 rfl _
                            generalize wk38.setRow gk37 (Bv.cells ⟨b.up, se3, sl3⟩) = wk39 at HF HE1 HL1 HZ1 HE2 HL2 HZ2 HE3 HL3 ⊢
                            refine uK (.bool true) <| WL.nil <| ?_
                            try simp only [pS]
                            go_upto_region 53 with fail
                            refine WL.start <| uL 44 ⟨gk27, 0, none⟩ (.agg (Bv.cells ⟨b.up, se1, sl1⟩)) (run_load_part (cs := Bv.cs ⟨b.up, se1, sl1⟩) (sub := Bv.cs ⟨b.up, se1, sl1⟩) (HF.out.box 3 _ _ _ rfl) (Part.all _) U44 rfl S44) <| uL 44 ⟨gk31, 0, none⟩ (.agg (Bv.cells ⟨b.up, se2, sl2⟩)) (run_load_part (cs := Bv.cs ⟨b.up, se2, sl2⟩) (sub := Bv.cs ⟨b.up, se2, sl2⟩) (HF.out.box 4 _ _ _ rfl) (Part.all _) U44 rfl S44) <| ?_
                            try simp only [pS]
                            refine uR (.slice (some ⟨wk39.heap.size, 0, none⟩) 2 2) (wk39.alloc (.cells #[.int .i64 b.up, se1.v, sl1.v, .int .i64 b.up, se2.v, sl2.v] 44)) (exec_slice2b _ rfl b.up b.up se1 sl1 se2 sl2 (by kernel_rfl)) ?_
                            try simp only [pS]
                            have HE1 : Hid (OwE (wk39.alloc (.cells #[.int .i64 b.up, se1.v, sl1.v, .int .i64 b.up, se2.v, sl2.v] 44)) wk25.heap.size se1 es) := HE1.out.no ((Kept.refl No _).alloc _)
                            have HL1 : Hid (OwL (wk39.alloc (.cells #[.int .i64 b.up, se1.v, sl1.v, .int .i64 b.up, se2.v, sl2.v] 44)) wk25.heap.size sl1 ls) := HL1.out.no ((Kept.refl No _).alloc _)
                            have HZ1 : Hid (Sz wk26.heap.size (wk39.alloc (.cells #[.int .i64 b.up, se1.v, sl1.v, .int .i64 b.up, se2.v, sl2.v] 44))) := HZ1.out.no ((Kept.refl No _).alloc _)
                            have HE2 : Hid (OwE (wk39.alloc (.cells #[.int .i64 b.up, se1.v, sl1.v, .int .i64 b.up, se2.v, sl2.v] 44)) wk29.heap.size se2 es) := HE2.out.no ((Kept.refl No _).alloc _)
                            have HL2 : Hid (OwL (wk39.alloc (.cells #[.int .i64 b.up, se1.v, sl1.v, .int .i64 b.up, se2.v, sl2.v] 44)) wk29.heap.size sl2 ls) := HL2.out.no ((Kept.refl No _).alloc _)
                            have HZ2 : Hid (Sz wk30.heap.size (wk39.alloc (.cells #[.int .i64 b.up, se1.v, sl1.v, .int .i64 b.up, se2.v, sl2.v] 44))) := HZ2.out.no ((Kept.refl No _).alloc _)
                            have HE3 : Hid (OwE (wk39.alloc (.cells #[.int .i64 b.up, se1.v, sl1.v, .int .i64 b.up, se2.v, sl2.v] 44)) wk35.heap.size se3 es) := HE3.out.no ((Kept.refl No _).alloc _)
                            have HL3 : Hid (OwL (wk39.alloc (.cells #[.int .i64 b.up, se1.v, sl1.v, .int .i64 b.up, se2.v, sl2.v] 44)) wk35.heap.size sl3 ls) := HL3.out.no ((Kept.refl No _).alloc _)
                            have HF : Hid (Og w (wk39.alloc (.cells #[.int .i64 b.up, se1.v, sl1.v, .int .i64 b.up, se2.v, sl2.v] 44)) J9 p (w2S zs b es ls) [(gk1, 44, Bv.cells b), (gk5, 23, Ky.cells ⟨3, 1, 4, 0⟩), (gm, 47, Mg.cells (lentM (bMsg g0 b) gb ge gl gc)), (gk27, 44, Bv.cells ⟨b.up, se1, sl1⟩), (gk31, 44, Bv.cells ⟨b.up, se2, sl2⟩), (gk37, 44, Bv.cells ⟨b.up, se3, sl3⟩), (wk39.heap.size, 44, #[.int .i64 b.up, se1.v, sl1.v, .int .i64 b.up, se2.v, sl2.v])] []) := HF.out.alloc _ _
                            generalize wk39.alloc (.cells #[.int .i64 b.up, se1.v, sl1.v, .int .i64 b.up, se2.v, sl2.v] 44) = wk41 at HF HE1 HL1 HZ1 HE2 HL2 HZ2 HE3 HL3 ⊢
                            generalize wk39.heap.size = gk40 at HF ⊢
                            have HEe : Hid (Erow DE wk41 w.heap.size [se1, se2] (fun _ => es)) := er2E (HE1.out.low HB1.out) (HE2.out.low HB2.out) (fun k h1 h2 => by have e1 := HR1.out.1 k h1; have e2 := Own.base HE2.out.own h2; have := HR2.out; omega) (by omega)
                            have HEl : Hid (Erow DL wk41 w.heap.size [sl1, sl2] (fun _ => ls)) := er2L (HL1.out.low HB1.out) (HL2.out.low HB2.out) (fun k h1 h2 => by have e1 := HR1.out.2 k h1; have e2 := Own.base HL2.out.own h2; have := HR2.out; omega) (by omega)
                            refine uC 32 #[.slice (some ⟨gk40, 0, none⟩) 2 2] (grownB_any gk40 2 2 w.heap.size [⟨b.up, se1, sl1⟩, ⟨b.up, se2, sl2⟩] _ _ _ rfl (by decide) (by decide) (bb2 (HF.out.box 6 _ _ _ rfl)) HEe.out HEl.out HF.out.kept.size) ?_
                            rintro e wk42 ⟨rfl, hk⟩
                            have hS : ∀ k, (EB (bE [⟨b.up, se1, sl1⟩, ⟨b.up, se2, sl2⟩]) k ∨ EB (bL [⟨b.up, se1, sl1⟩, ⟨b.up, se2, sl2⟩]) k) → (At se1.a k ∨ At se2.a k) ∨ (At sl1.a k ∨ At sl2.a k) := fun k e => by
                              rcases e with ⟨x, hx, ha⟩ | ⟨x, hx, ha⟩
                              · simp only [bE, List.map_cons, List.map_nil, List.mem_cons, List.not_mem_nil, or_false] at hx
                                rcases hx with rfl | rfl
                                · exact .inl (.inl ha)
                                · exact .inl (.inr ha)
                              · simp only [bL, List.map_cons, List.map_nil, List.mem_cons, List.not_mem_nil, or_false] at hx
                                rcases hx with rfl | rfl
                                · exact .inr (.inl ha)
                                · exact .inr (.inr ha)
                            have hT : ∀ k, (EB (bE [⟨b.up, se1, sl1⟩, ⟨b.up, se2, sl2⟩]) k ∨ EB (bL [⟨b.up, se1, sl1⟩, ⟨b.up, se2, sl2⟩]) k) → wk25.heap.size ≤ k ∧ k < wk30.heap.size ∧ ((∃ cur, Box wk41 k 124 cur) ∨ ∃ cur, Box wk41 k 127 cur) := fun k e => by
                              rcases hS k e with (e | e) | (e | e)
                              · exact ⟨Own.base HE1.out.own e, by have := HR1.out.1 k e; have := HR2.out; have := HS2.out; omega, .inl (Own.ty HE1.out.own e)⟩
                              · exact ⟨by have := Own.base HE2.out.own e; have := HR2.out; have := HS1.out; omega, HR3.out.1 k e, .inl (Own.ty HE2.out.own e)⟩
                              · exact ⟨Own.base HL1.out.own e, by have := HR1.out.2 k e; have := HR2.out; have := HS2.out; omega, .inr (Own.ty HL1.out.own e)⟩
                              · exact ⟨by have := Own.base HL2.out.own e; have := HR2.out; have := HS1.out; omega, HR3.out.2 k e, .inr (Own.ty HL2.out.own e)⟩
                            have hF := HF.out.keep hk (fun k e => ⟨by have h1 := HB1.out; have h2 := (hT k e).1; omega, fun f => by have h1 := HIc.out k f; have h2 := (hT k e).1; omega, fun cs hb => by
                              rcases (hT k e).2.2 with ⟨cur, h⟩ | ⟨cur, h⟩
                              · exact ty_off h (by decide) hb
                              · exact ty_off h (by decide) hb⟩) (fun i q t cs hi e => by
                              have hb := HF.out.box i q t cs hi
                              have hm := List.mem_of_getElem? hi
                              simp only [List.mem_cons, Prod.mk.injEq, List.not_mem_nil, or_false] at hm
                              have ht : t = 44 ∨ t = 23 ∨ t = 47 := by
                                rcases hm with ⟨_, h, _⟩ | ⟨_, h, _⟩ | ⟨_, h, _⟩ | ⟨_, h, _⟩ | ⟨_, h, _⟩ | ⟨_, h, _⟩ | ⟨_, h, _⟩ <;> simp [h]
                              rcases (hT q e).2.2 with ⟨cur, h⟩ | ⟨cur, h⟩ <;> rcases ht with rfl | rfl | rfl <;> exact ty_off h (by decide) hb)
                            have HE3b : Hid (OwE wk42 wk35.heap.size se3 es) := HE3.out.kept hk (fun k ha e => by have h1 := Own.base HE3.out.own ha; have h2 := (hT k e).2.1; have h3 := HR4.out; omega)
                            have HL3b : Hid (OwL wk42 wk35.heap.size sl3 ls) := HL3.out.kept hk (fun k ha e => by have h1 := Own.base HL3.out.own ha; have h2 := (hT k e).2.1; have h3 := HR4.out; omega)
                            have HF : Hid (Og w (wk42) J9 p (w2S zs b es ls) [(gk1, 44, Bv.cells b), (gk5, 23, Ky.cells ⟨3, 1, 4, 0⟩), (gm, 47, Mg.cells (lentM (bMsg g0 b) gb ge gl gc)), (gk27, 44, Bv.cells ⟨b.up, se1, sl1⟩), (gk31, 44, Bv.cells ⟨b.up, se2, sl2⟩), (gk37, 44, Bv.cells ⟨b.up, se3, sl3⟩), (gk40, 44, #[.int .i64 b.up, se1.v, sl1.v, .int .i64 b.up, se2.v, sl2.v])] []) := hF
                            have HE3 := HE3b
                            have HL3 := HL3b
                            clear hF hk hS hT HE3b HL3b HE1 HE2 HL1 HL2 HEe HEl HZ1 HZ2
                            refine ⟨.bool true, rfl, ?_⟩
                            try simp only [pS]
                            refine uK (.bool false) <| WL.nil <| ?_
                            try simp only [pS]
                            go_upto_region 55 with fail
                            refine WL.start <| uK (pV p 0) <| ?_
                            try simp only [pS]
                            have HB4 : Hid (w.heap.size ≤ wk42.heap.size) := HF.out.kept.size
                            refine uC 30 #[pV p 0] (wtrimP HF.out.prp) ?_
                            rintro e wk43 ⟨se4, sl4, rfl, hE, hL, hk⟩
                            have HE3 : Hid (OwE (wk43) wk35.heap.size se3 es) := HE3.out.no hk
                            have HL3 : Hid (OwL (wk43) wk35.heap.size sl3 ls) := HL3.out.no hk
                            have HF : Hid (Og w (wk43) J9 p (w2S zs b es ls) [(gk1, 44, Bv.cells b), (gk5, 23, Ky.cells ⟨3, 1, 4, 0⟩), (gm, 47, Mg.cells (lentM (bMsg g0 b) gb ge gl gc)), (gk27, 44, Bv.cells ⟨b.up, se1, sl1⟩), (gk31, 44, Bv.cells ⟨b.up, se2, sl2⟩), (gk37, 44, Bv.cells ⟨b.up, se3, sl3⟩), (gk40, 44, #[.int .i64 b.up, se1.v, sl1.v, .int .i64 b.up, se2.v, sl2.v])] []) := HF.out.no hk
                            have HE4 : Hid (OwE wk43 wk42.heap.size se4 es) := hE
                            have HL4 : Hid (OwL wk43 wk42.heap.size sl4 ls) := hL
                            have HS4 : Hid (wk42.heap.size ≤ wk43.heap.size) := hk.size
                            clear hE hL hk
                            refine ⟨.tuple #[.agg (Bv.cells ⟨b.up, se4, sl4⟩), .bool true], rfl, ?_⟩
                            try simp only [pS]
                            refine uK (.tuple #[.agg (Bv.cells ⟨b.up, se4, sl4⟩), .bool true]) <| uK (.agg (Bv.cells ⟨b.up, se4, sl4⟩)) <| uK (.bool true) <| ?_
                            try simp only [pS]
                            refine uR (pV wk43.heap.size 0) (wk43.alloc (.cells (Bv.cells bvZ) 44)) (exec_alloc 44 rfl (Bv.cells bvZ) Z44) ?_
                            try simp only [pS]
                            have HE3 : Hid (OwE (wk43.alloc (.cells (Bv.cells bvZ) 44)) wk35.heap.size se3 es) := HE3.out.no ((Kept.refl No _).alloc _)
                            have HL3 : Hid (OwL (wk43.alloc (.cells (Bv.cells bvZ) 44)) wk35.heap.size sl3 ls) := HL3.out.no ((Kept.refl No _).alloc _)
                            have HE4 : Hid (OwE (wk43.alloc (.cells (Bv.cells bvZ) 44)) wk42.heap.size se4 es) := HE4.out.no ((Kept.refl No _).alloc _)
                            have HL4 : Hid (OwL (wk43.alloc (.cells (Bv.cells bvZ) 44)) wk42.heap.size sl4 ls) := HL4.out.no ((Kept.refl No _).alloc _)
                            have HF : Hid (Og w (wk43.alloc (.cells (Bv.cells bvZ) 44)) J9 p (w2S zs b es ls) [(gk1, 44, Bv.cells b), (gk5, 23, Ky.cells ⟨3, 1, 4, 0⟩), (gm, 47, Mg.cells (lentM (bMsg g0 b) gb ge gl gc)), (gk27, 44, Bv.cells ⟨b.up, se1, sl1⟩), (gk31, 44, Bv.cells ⟨b.up, se2, sl2⟩), (gk37, 44, Bv.cells ⟨b.up, se3, sl3⟩), (gk40, 44, #[.int .i64 b.up, se1.v, sl1.v, .int .i64 b.up, se2.v, sl2.v]), (wk43.heap.size, 44, Bv.cells bvZ)] []) := HF.out.alloc _ _
                            generalize wk43.alloc (.cells (Bv.cells bvZ) 44) = wk45 at HF HE3 HL3 HE4 HL4 ⊢
                            generalize wk43.heap.size = gk44 at HF ⊢
                            refine uT 44 ⟨gk44, 0, none⟩ (.agg (Bv.cells ⟨b.up, se4, sl4⟩)) (wk45.setRow gk44 (Bv.cells ⟨b.up, se4, sl4⟩)) (rs (Bv.cs bvZ) (Bv.cs ⟨b.up, se4, sl4⟩) (Bv.cs ⟨b.up, se4, sl4⟩) (HF.out.box 7 _ _ _ rfl) S44 (Bv.oneL _)) ?_
                            try simp only [pS]
                            have HE3 : Hid (OwE (wk45.setRow gk44 (Bv.cells ⟨b.up, se4, sl4⟩)) wk35.heap.size se3 es) := HE3.out.kept (Kept.setRow _ _ _) (fun k h e => (HE3.out.own.notBox (HF.out.box 7 _ _ _ rfl) (by decide)) ((show k = gk44 from e) ▸ h))
                            have HL3 : Hid (OwL (wk45.setRow gk44 (Bv.cells ⟨b.up, se4, sl4⟩)) wk35.heap.size sl3 ls) := HL3.out.kept (Kept.setRow _ _ _) (fun k h e => (HL3.out.own.notBox (HF.out.box 7 _ _ _ rfl) (by decide)) ((show k = gk44 from e) ▸ h))
                            have HE4 : Hid (OwE (wk45.setRow gk44 (Bv.cells ⟨b.up, se4, sl4⟩)) wk42.heap.size se4 es) := HE4.out.kept (Kept.setRow _ _ _) (fun k h e => (HE4.out.own.notBox (HF.out.box 7 _ _ _ rfl) (by decide)) ((show k = gk44 from e) ▸ h))
                            have HL4 : Hid (OwL (wk45.setRow gk44 (Bv.cells ⟨b.up, se4, sl4⟩)) wk42.heap.size sl4 ls) := HL4.out.kept (Kept.setRow _ _ _) (fun k h e => (HL4.out.own.notBox (HF.out.box 7 _ _ _ rfl) (by decide)) ((show k = gk44 from e) ▸ h))
                            have HF : Hid (Og w (wk45.setRow gk44 (Bv.cells ⟨b.up, se4, sl4⟩)) J9 p (w2S zs b es ls) [(gk1, 44, Bv.cells b), (gk5, 23, Ky.cells ⟨3, 1, 4, 0⟩), (gm, 47, Mg.cells (lentM (bMsg g0 b) gb ge gl gc)), (gk27, 44, Bv.cells ⟨b.up, se1, sl1⟩), (gk31, 44, Bv.cells ⟨b.up, se2, sl2⟩), (gk37, 44, Bv.cells ⟨b.up, se3, sl3⟩), (gk40, 44, #[.int .i64 b.up, se1.v, sl1.v, .int .i64 b.up, se2.v, sl2.v]), (gk44, 44, Bv.cells ⟨b.up, se4, sl4⟩)] []) := HF.out.set 7 rfl _
                            generalize wk45.setRow gk44 (Bv.cells ⟨b.up, se4, sl4⟩) = wk46 at HF HE3 HL3 HE4 HL4 ⊢
                            refine uK (.bool true) <| WL.nil <| ?_
                            try simp only [pS]
                            go_upto_region 56 with fail
                            refine WL.start <| uL 44 ⟨gk37, 0, none⟩ (.agg (Bv.cells ⟨b.up, se3, sl3⟩)) (run_load_part (cs := Bv.cs ⟨b.up, se3, sl3⟩) (sub := Bv.cs ⟨b.up, se3, sl3⟩) (HF.out.box 5 _ _ _ rfl) (Part.all _) U44 rfl S44) <| uL 44 ⟨gk1, 0, none⟩ (.agg (Bv.cells b)) (run_load_part (cs := Bv.cs b) (sub := Bv.cs b) (HF.out.box 0 _ _ _ rfl) (Part.all _) U44 rfl S44) <| ?_
                            try simp only [pS]
                            refine uC 31 #[.agg (Bv.cells ⟨b.up, se3, sl3⟩), .agg (Bv.cells b)] (sameK2 b.up se3 b.e sl3 b.l es ls _ HE3.out.rd (HBe.out.no HF.out.kept) HL3.out.rd (HBl.out.no HF.out.kept) (by rw [← HE3.out.len]; omega) (by rw [← HL3.out.len]; omega)) ?_
                            rintro e wk47 ⟨rfl, hk⟩
                            have HE3 : Hid (OwE (wk47) wk35.heap.size se3 es) := HE3.out.no hk
                            have HL3 : Hid (OwL (wk47) wk35.heap.size sl3 ls) := HL3.out.no hk
                            have HE4 : Hid (OwE (wk47) wk42.heap.size se4 es) := HE4.out.no hk
                            have HL4 : Hid (OwL (wk47) wk42.heap.size sl4 ls) := HL4.out.no hk
                            have HF : Hid (Og w (wk47) J9 p (w2S zs b es ls) [(gk1, 44, Bv.cells b), (gk5, 23, Ky.cells ⟨3, 1, 4, 0⟩), (gm, 47, Mg.cells (lentM (bMsg g0 b) gb ge gl gc)), (gk27, 44, Bv.cells ⟨b.up, se1, sl1⟩), (gk31, 44, Bv.cells ⟨b.up, se2, sl2⟩), (gk37, 44, Bv.cells ⟨b.up, se3, sl3⟩), (gk40, 44, #[.int .i64 b.up, se1.v, sl1.v, .int .i64 b.up, se2.v, sl2.v]), (gk44, 44, Bv.cells ⟨b.up, se4, sl4⟩)] []) := HF.out.no hk
                            clear hk
                            refine ⟨.bool true, rfl, ?_⟩
                            try simp only [pS]
                            refine uK (.bool true) <| uL 44 ⟨gk44, 0, none⟩ (.agg (Bv.cells ⟨b.up, se4, sl4⟩)) (run_load_part (cs := Bv.cs ⟨b.up, se4, sl4⟩) (sub := Bv.cs ⟨b.up, se4, sl4⟩) (HF.out.box 7 _ _ _ rfl) (Part.all _) U44 rfl S44) <| uL 44 ⟨gk1, 0, none⟩ (.agg (Bv.cells b)) (run_load_part (cs := Bv.cs b) (sub := Bv.cs b) (HF.out.box 0 _ _ _ rfl) (Part.all _) U44 rfl S44) <| ?_
                            try simp only [pS]
                            refine uC 31 #[.agg (Bv.cells ⟨b.up, se4, sl4⟩), .agg (Bv.cells b)] (sameK2 b.up se4 b.e sl4 b.l es ls _ HE4.out.rd (HBe.out.no HF.out.kept) HL4.out.rd (HBl.out.no HF.out.kept) (by rw [← HE4.out.len]; omega) (by rw [← HL4.out.len]; omega)) ?_
                            rintro e wk48 ⟨rfl, hk⟩
                            have HE3 : Hid (OwE (wk48) wk35.heap.size se3 es) := HE3.out.no hk
                            have HL3 : Hid (OwL (wk48) wk35.heap.size sl3 ls) := HL3.out.no hk
                            have HE4 : Hid (OwE (wk48) wk42.heap.size se4 es) := HE4.out.no hk
                            have HL4 : Hid (OwL (wk48) wk42.heap.size sl4 ls) := HL4.out.no hk
                            have HF : Hid (Og w (wk48) J9 p (w2S zs b es ls) [(gk1, 44, Bv.cells b), (gk5, 23, Ky.cells ⟨3, 1, 4, 0⟩), (gm, 47, Mg.cells (lentM (bMsg g0 b) gb ge gl gc)), (gk27, 44, Bv.cells ⟨b.up, se1, sl1⟩), (gk31, 44, Bv.cells ⟨b.up, se2, sl2⟩), (gk37, 44, Bv.cells ⟨b.up, se3, sl3⟩), (gk40, 44, #[.int .i64 b.up, se1.v, sl1.v, .int .i64 b.up, se2.v, sl2.v]), (gk44, 44, Bv.cells ⟨b.up, se4, sl4⟩)] []) := HF.out.no hk
                            clear hk
                            refine ⟨.bool true, rfl, ?_⟩
                            try simp only [pS]
                            refine uK (.bool true) <| uK (.bool true) <| WL.nil <| ?_
                            try simp only [pS]
                            go_wp2
                            rw [HC.out]
                            exact ⟨rfl, HF.out.kept⟩

end Go.Proofs.Ytpabpeppgpeaoaa.Md
