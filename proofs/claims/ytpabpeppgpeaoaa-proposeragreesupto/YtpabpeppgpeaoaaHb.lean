import Derived.Test.YtpabpeppgpeaoaaHa
namespace Go.Proofs.Ytpabpeppgpeaoaa.Md
open Go.RowKit Gx
set_option linter.unusedVariables false
set_option linter.unusedSimpArgs false

section
variable {ops : Array Oper} {o : Oper} {a : Act} {w w' : World} {Q : Exit → Act → World → Prop} {md : Region.Mode} {S : World → Prop} {fuel : Nat} {listed : Array Bool}
end
theorem results_cct {fn : Func} {p q u : Tmp} {t s : TypeId} (h : fn.results = #[.cell p t, .cell q s, .tmp u]) (tmps : Array Value) (P : Program) (w : World) :
    (results fn tmps).run P w = ((asAddr (tmps.getD p undef)).run P w).andThen fun a w₁ => ((loadVar t a).run P w₁).andThen fun v w₂ => ((asAddr (tmps.getD q undef)).run P w₂).andThen fun b w₃ => ((loadVar s b).run P w₃).andThen fun v' w₄ => .ok (.tuple #[v, v', tmps.getD u undef]) w₄ := by
  simp only [results, h]
  simp [Sem.run_bind, Result.andThen]
theorem results_row2_tmp {fn : Func} {p q u : Tmp} {t s : TypeId} (h : fn.results = #[.cell p t, .cell q s, .tmp u]) (tmps : Array Value) (w : World) (g g' : Nat) (cs cs' : Array Value) (hp : tmps.getD p undef = .pointer (some ⟨g, 0, none⟩)) (hq : tmps.getD q undef = .pointer (some ⟨g', 0, none⟩)) (hrun : (loadVar t ⟨g, 0, none⟩).run Try.prog w = .ok (.agg cs) w) (hrun' : (loadVar s ⟨g', 0, none⟩).run Try.prog w = .ok (.agg cs') w) :
    (results fn tmps).run Try.prog w = .ok (.tuple #[.agg cs, .agg cs', tmps.getD u undef]) w := by
  rw [results_cct h, hp, hq]
  simp [asAddr, hrun, hrun', Result.andThen]

def uI (i : In) : Ytpabpeppgpeaoaa.In := ⟨⟨i.p.n, i.p.c⟩, ⟨i.a.n, i.a.c⟩, jC i.c, i.d⟩
def mM (k : Int) (st hd : Sp) (c : Cm) : Mg := ⟨k, adZ, adZ, 0, 0, kyZ, st, hd, slZ, c, bvZ, slZ, false⟩
def ltV (a b : Sp) : Bool := decide (a.n < b.n) || (decide (a.n = b.n) && decide (a.c < b.c))
theorem tless' (a b : Sp) (w : World) : Calls Try.prog 94 #[.agg (Sp.cells a), .agg (Sp.cells b)] w (fun e w' => e = .returned (.bool (ltV a b)) ∧ Kept No w w') := tless_any a.n a.c b.n b.c w
set_option maxRecDepth 100000 in
set_option maxHeartbeats 4000000 in
theorem ref_d (p a : Sp) (c : Cm) (s : Sp) (w : World) : Calls Try.prog 87 #[.agg (In.cells ⟨p, a, c, true⟩), .agg (Sp.cells s)] w (fun e w' => e = .returned (.tuple #[.agg (Mg.cells (mM 16 spZ spZ c)), .bool true]) ∧ Kept No w w') := by
  refine hideC fun C HC => ?_
  have HF : Hid (Fq No w w []) := Fq.start _ _
  go_enter Try.func87, Try.ntmps87
  go_upto_region 0 with fail
  refine WL.start ?_
  refine uR (pV w.heap.size 0) (w.alloc (.cells (In.cells ⟨p, a, c, true⟩) 142)) (exec_box 142 _ rfl (In.cells ⟨p, a, c, true⟩) (by kernel_rfl)) ?_
  try simp only [pS]
  have HF : Hid (Fq No w (w.alloc (.cells (In.cells ⟨p, a, c, true⟩) 142)) [(w.heap.size, 142, In.cells ⟨p, a, c, true⟩)]) := HF.out.alloc _ _
  generalize w.alloc (.cells (In.cells ⟨p, a, c, true⟩) 142) = wk2 at HF ⊢
  generalize w.heap.size = gk1 at HF ⊢
  refine uR (pV wk2.heap.size 0) (wk2.alloc (.cells (Sp.cells s) 39)) (exec_box 39 _ rfl (Sp.cells s) (by kernel_rfl)) ?_
  try simp only [pS]
  have HF : Hid (Fq No w (wk2.alloc (.cells (Sp.cells s) 39)) [(gk1, 142, In.cells ⟨p, a, c, true⟩), (wk2.heap.size, 39, Sp.cells s)]) := HF.out.alloc _ _
  generalize wk2.alloc (.cells (Sp.cells s) 39) = wk4 at HF ⊢
  generalize wk2.heap.size = gk3 at HF ⊢
  refine uR (pV wk4.heap.size 0) (wk4.alloc (.cells (Mg.cells mgZ) 47)) (exec_alloc 47 rfl (Mg.cells mgZ) Z47) ?_
  try simp only [pS]
  have HF : Hid (Fq No w (wk4.alloc (.cells (Mg.cells mgZ) 47)) [(gk1, 142, In.cells ⟨p, a, c, true⟩), (gk3, 39, Sp.cells s), (wk4.heap.size, 47, Mg.cells mgZ)]) := HF.out.alloc _ _
  generalize wk4.alloc (.cells (Mg.cells mgZ) 47) = wk6 at HF ⊢
  generalize wk4.heap.size = gk5 at HF ⊢
  refine uK (.bool false) <| WL.nil <| ?_
  try simp only [pS]
  go_upto_region 1 with fail
  refine WL.start <| uK (pV gk1 13) <| uL 4 ⟨gk1, 13, none⟩ (.bool true) (load_one ((HF.out.box 0 _ _ _ rfl).cell 13 |>.trans (by kernel_rfl)) U4 rfl) <| WL.nil <| ?_
  try simp only [pS]
  go_upto_region 2 with fail
  refine WL.start <| uK (pV gk1 4) <| uL 28 ⟨gk1, 4, none⟩ (.agg (Cm.cells c)) (run_load_part (cs := In.cs ⟨p, a, c, true⟩) (sub := Cm.cs c) (HF.out.box 0 _ _ _ rfl) (part_of (by kernel_rfl)) U28 rfl S28) <| uW (.agg (Mg.cells ⟨16, adZ, adZ, 0, 0, kyZ, spZ, spZ, slZ, c, bvZ, slZ, false⟩)) (exec_build 47 _ rfl (Mg.cells ⟨16, adZ, adZ, 0, 0, kyZ, spZ, spZ, slZ, c, bvZ, slZ, false⟩) (by kernel_rfl)) <| ?_
  try simp only [pS]
  refine uT 47 ⟨gk5, 0, none⟩ (.agg (Mg.cells ⟨16, adZ, adZ, 0, 0, kyZ, spZ, spZ, slZ, c, bvZ, slZ, false⟩)) (wk6.setRow gk5 (Mg.cells ⟨16, adZ, adZ, 0, 0, kyZ, spZ, spZ, slZ, c, bvZ, slZ, false⟩)) (rs (Mg.cs mgZ) (Mg.cs ⟨16, adZ, adZ, 0, 0, kyZ, spZ, spZ, slZ, c, bvZ, slZ, false⟩) (Mg.cs ⟨16, adZ, adZ, 0, 0, kyZ, spZ, spZ, slZ, c, bvZ, slZ, false⟩) (HF.out.box 2 _ _ _ rfl) S47 (Mg.oneL _)) ?_
  try simp only [pS]
  have HF : Hid (Fq No w (wk6.setRow gk5 (Mg.cells ⟨16, adZ, adZ, 0, 0, kyZ, spZ, spZ, slZ, c, bvZ, slZ, false⟩)) [(gk1, 142, In.cells ⟨p, a, c, true⟩), (gk3, 39, Sp.cells s), (gk5, 47, Mg.cells ⟨16, adZ, adZ, 0, 0, kyZ, spZ, spZ, slZ, c, bvZ, slZ, false⟩)]) := HF.out.set 2 rfl _
  generalize wk6.setRow gk5 (Mg.cells ⟨16, adZ, adZ, 0, 0, kyZ, spZ, spZ, slZ, c, bvZ, slZ, false⟩) = wk7 at HF ⊢
  refine uK (.bool true) <| WL.nil <| ?_
  try simp only [pS]
  go_wp2
  rw [HC.out]
  refine bodyPost_ret (results_row_tmp (by rfl) _ _ gk5 (Mg.cells ⟨16, adZ, adZ, 0, 0, kyZ, spZ, spZ, slZ, c, bvZ, slZ, false⟩) (by rfl) (run_load_part (cs := Mg.cs ⟨16, adZ, adZ, 0, 0, kyZ, spZ, spZ, slZ, c, bvZ, slZ, false⟩) (sub := Mg.cs ⟨16, adZ, adZ, 0, 0, kyZ, spZ, spZ, slZ, c, bvZ, slZ, false⟩) (HF.out.box 2 _ _ _ rfl) (Part.all _) U47 rfl S47)) rfl ?_
  exact ⟨rfl, HF.out.kept⟩
set_option maxRecDepth 100000 in
set_option maxHeartbeats 4000000 in
theorem ref_l (p a : Sp) (c : Cm) (s : Sp) (w : World) (hl : ltV s p = true) : Calls Try.prog 87 #[.agg (In.cells ⟨p, a, c, false⟩), .agg (Sp.cells s)] w (fun e w' => e = .returned (.tuple #[.agg (Mg.cells (mM 14 p spZ cZ)), .bool true]) ∧ Kept No w w') := by
  refine hideC fun C HC => ?_
  have HF : Hid (Fq No w w []) := Fq.start _ _
  go_enter Try.func87, Try.ntmps87
  go_upto_region 0 with fail
  refine WL.start ?_
  refine uR (pV w.heap.size 0) (w.alloc (.cells (In.cells ⟨p, a, c, false⟩) 142)) (exec_box 142 _ rfl (In.cells ⟨p, a, c, false⟩) (by kernel_rfl)) ?_
  try simp only [pS]
  have HF : Hid (Fq No w (w.alloc (.cells (In.cells ⟨p, a, c, false⟩) 142)) [(w.heap.size, 142, In.cells ⟨p, a, c, false⟩)]) := HF.out.alloc _ _
  generalize w.alloc (.cells (In.cells ⟨p, a, c, false⟩) 142) = wk2 at HF ⊢
  generalize w.heap.size = gk1 at HF ⊢
  refine uR (pV wk2.heap.size 0) (wk2.alloc (.cells (Sp.cells s) 39)) (exec_box 39 _ rfl (Sp.cells s) (by kernel_rfl)) ?_
  try simp only [pS]
  have HF : Hid (Fq No w (wk2.alloc (.cells (Sp.cells s) 39)) [(gk1, 142, In.cells ⟨p, a, c, false⟩), (wk2.heap.size, 39, Sp.cells s)]) := HF.out.alloc _ _
  generalize wk2.alloc (.cells (Sp.cells s) 39) = wk4 at HF ⊢
  generalize wk2.heap.size = gk3 at HF ⊢
  refine uR (pV wk4.heap.size 0) (wk4.alloc (.cells (Mg.cells mgZ) 47)) (exec_alloc 47 rfl (Mg.cells mgZ) Z47) ?_
  try simp only [pS]
  have HF : Hid (Fq No w (wk4.alloc (.cells (Mg.cells mgZ) 47)) [(gk1, 142, In.cells ⟨p, a, c, false⟩), (gk3, 39, Sp.cells s), (wk4.heap.size, 47, Mg.cells mgZ)]) := HF.out.alloc _ _
  generalize wk4.alloc (.cells (Mg.cells mgZ) 47) = wk6 at HF ⊢
  generalize wk4.heap.size = gk5 at HF ⊢
  refine uK (.bool false) <| WL.nil <| ?_
  try simp only [pS]
  go_upto_region 1 with fail
  refine WL.start <| uK (pV gk1 13) <| uL 4 ⟨gk1, 13, none⟩ (.bool false) (load_one ((HF.out.box 0 _ _ _ rfl).cell 13 |>.trans (by kernel_rfl)) U4 rfl) <| WL.nil <| ?_
  try simp only [pS]
  go_upto_region 3 with fail
  refine WL.start <| uL 39 ⟨gk3, 0, none⟩ (.agg (Sp.cells s)) (run_load_part (cs := Sp.cs s) (sub := Sp.cs s) (HF.out.box 1 _ _ _ rfl) (Part.all _) U39 rfl S39) <| uK (pV gk1 0) <| uL 39 ⟨gk1, 0, none⟩ (.agg (Sp.cells p)) (run_load_part (cs := In.cs ⟨p, a, c, false⟩) (sub := Sp.cs p) (HF.out.box 0 _ _ _ rfl) (part_of (by kernel_rfl)) U39 rfl S39) <| ?_
  try simp only [pS]
  refine uC 94 #[.agg (Sp.cells s), .agg (Sp.cells p)] (tless' s p _) ?_
  rintro e wk7 ⟨rfl, hk⟩
  have HF : Hid (Fq No w (wk7) [(gk1, 142, In.cells ⟨p, a, c, false⟩), (gk3, 39, Sp.cells s), (gk5, 47, Mg.cells mgZ)]) := HF.out.no hk
  clear hk
  refine ⟨.bool true, by rw [hl], ?_⟩
  try simp only [pS]
  refine WL.nil ?_
  try simp only [pS]
  go_upto_region 4 with fail
  refine WL.start <| uK (pV gk1 0) <| uL 39 ⟨gk1, 0, none⟩ (.agg (Sp.cells p)) (run_load_part (cs := In.cs ⟨p, a, c, false⟩) (sub := Sp.cs p) (HF.out.box 0 _ _ _ rfl) (part_of (by kernel_rfl)) U39 rfl S39) <| uW (.agg (Mg.cells ⟨14, adZ, adZ, 0, 0, kyZ, p, spZ, slZ, cZ, bvZ, slZ, false⟩)) (exec_build 47 _ rfl (Mg.cells ⟨14, adZ, adZ, 0, 0, kyZ, p, spZ, slZ, cZ, bvZ, slZ, false⟩) (by kernel_rfl)) <| ?_
  try simp only [pS]
  refine uT 47 ⟨gk5, 0, none⟩ (.agg (Mg.cells ⟨14, adZ, adZ, 0, 0, kyZ, p, spZ, slZ, cZ, bvZ, slZ, false⟩)) (wk7.setRow gk5 (Mg.cells ⟨14, adZ, adZ, 0, 0, kyZ, p, spZ, slZ, cZ, bvZ, slZ, false⟩)) (rs (Mg.cs mgZ) (Mg.cs ⟨14, adZ, adZ, 0, 0, kyZ, p, spZ, slZ, cZ, bvZ, slZ, false⟩) (Mg.cs ⟨14, adZ, adZ, 0, 0, kyZ, p, spZ, slZ, cZ, bvZ, slZ, false⟩) (HF.out.box 2 _ _ _ rfl) S47 (Mg.oneL _)) ?_
  try simp only [pS]
  have HF : Hid (Fq No w (wk7.setRow gk5 (Mg.cells ⟨14, adZ, adZ, 0, 0, kyZ, p, spZ, slZ, cZ, bvZ, slZ, false⟩)) [(gk1, 142, In.cells ⟨p, a, c, false⟩), (gk3, 39, Sp.cells s), (gk5, 47, Mg.cells ⟨14, adZ, adZ, 0, 0, kyZ, p, spZ, slZ, cZ, bvZ, slZ, false⟩)]) := HF.out.set 2 rfl _
  generalize wk7.setRow gk5 (Mg.cells ⟨14, adZ, adZ, 0, 0, kyZ, p, spZ, slZ, cZ, bvZ, slZ, false⟩) = wk8 at HF ⊢
  refine uK (.bool true) <| WL.nil <| ?_
  try simp only [pS]
  go_wp2
  rw [HC.out]
  refine bodyPost_ret (results_row_tmp (by rfl) _ _ gk5 (Mg.cells ⟨14, adZ, adZ, 0, 0, kyZ, p, spZ, slZ, cZ, bvZ, slZ, false⟩) (by rfl) (run_load_part (cs := Mg.cs ⟨14, adZ, adZ, 0, 0, kyZ, p, spZ, slZ, cZ, bvZ, slZ, false⟩) (sub := Mg.cs ⟨14, adZ, adZ, 0, 0, kyZ, p, spZ, slZ, cZ, bvZ, slZ, false⟩) (HF.out.box 2 _ _ _ rfl) (Part.all _) U47 rfl S47)) rfl ?_
  exact ⟨rfl, HF.out.kept⟩
set_option maxRecDepth 100000 in
set_option maxHeartbeats 4000000 in
theorem ref_n (p a : Sp) (c : Cm) (s : Sp) (w : World) (hl : ltV s p = false) : Calls Try.prog 87 #[.agg (In.cells ⟨p, a, c, false⟩), .agg (Sp.cells s)] w (fun e w' => e = .returned (.tuple #[.agg (Mg.cells mgZ), .bool false]) ∧ Kept No w w') := by
  refine hideC fun C HC => ?_
  have HF : Hid (Fq No w w []) := Fq.start _ _
  go_enter Try.func87, Try.ntmps87
  go_upto_region 0 with fail
  refine WL.start ?_
  refine uR (pV w.heap.size 0) (w.alloc (.cells (In.cells ⟨p, a, c, false⟩) 142)) (exec_box 142 _ rfl (In.cells ⟨p, a, c, false⟩) (by kernel_rfl)) ?_
  try simp only [pS]
  have HF : Hid (Fq No w (w.alloc (.cells (In.cells ⟨p, a, c, false⟩) 142)) [(w.heap.size, 142, In.cells ⟨p, a, c, false⟩)]) := HF.out.alloc _ _
  generalize w.alloc (.cells (In.cells ⟨p, a, c, false⟩) 142) = wk2 at HF ⊢
  generalize w.heap.size = gk1 at HF ⊢
  refine uR (pV wk2.heap.size 0) (wk2.alloc (.cells (Sp.cells s) 39)) (exec_box 39 _ rfl (Sp.cells s) (by kernel_rfl)) ?_
  try simp only [pS]
  have HF : Hid (Fq No w (wk2.alloc (.cells (Sp.cells s) 39)) [(gk1, 142, In.cells ⟨p, a, c, false⟩), (wk2.heap.size, 39, Sp.cells s)]) := HF.out.alloc _ _
  generalize wk2.alloc (.cells (Sp.cells s) 39) = wk4 at HF ⊢
  generalize wk2.heap.size = gk3 at HF ⊢
  refine uR (pV wk4.heap.size 0) (wk4.alloc (.cells (Mg.cells mgZ) 47)) (exec_alloc 47 rfl (Mg.cells mgZ) Z47) ?_
  try simp only [pS]
  have HF : Hid (Fq No w (wk4.alloc (.cells (Mg.cells mgZ) 47)) [(gk1, 142, In.cells ⟨p, a, c, false⟩), (gk3, 39, Sp.cells s), (wk4.heap.size, 47, Mg.cells mgZ)]) := HF.out.alloc _ _
  generalize wk4.alloc (.cells (Mg.cells mgZ) 47) = wk6 at HF ⊢
  generalize wk4.heap.size = gk5 at HF ⊢
  refine uK (.bool false) <| WL.nil <| ?_
  try simp only [pS]
  go_upto_region 1 with fail
  refine WL.start <| uK (pV gk1 13) <| uL 4 ⟨gk1, 13, none⟩ (.bool false) (load_one ((HF.out.box 0 _ _ _ rfl).cell 13 |>.trans (by kernel_rfl)) U4 rfl) <| WL.nil <| ?_
  try simp only [pS]
  go_upto_region 3 with fail
  refine WL.start <| uL 39 ⟨gk3, 0, none⟩ (.agg (Sp.cells s)) (run_load_part (cs := Sp.cs s) (sub := Sp.cs s) (HF.out.box 1 _ _ _ rfl) (Part.all _) U39 rfl S39) <| uK (pV gk1 0) <| uL 39 ⟨gk1, 0, none⟩ (.agg (Sp.cells p)) (run_load_part (cs := In.cs ⟨p, a, c, false⟩) (sub := Sp.cs p) (HF.out.box 0 _ _ _ rfl) (part_of (by kernel_rfl)) U39 rfl S39) <| ?_
  try simp only [pS]
  refine uC 94 #[.agg (Sp.cells s), .agg (Sp.cells p)] (tless' s p _) ?_
  rintro e wk7 ⟨rfl, hk⟩
  have HF : Hid (Fq No w (wk7) [(gk1, 142, In.cells ⟨p, a, c, false⟩), (gk3, 39, Sp.cells s), (gk5, 47, Mg.cells mgZ)]) := HF.out.no hk
  clear hk
  refine ⟨.bool false, by rw [hl], ?_⟩
  try simp only [pS]
  refine WL.nil ?_
  try simp only [pS]
  go_upto_region 5 with fail
  refine WL.start <| uW (.agg (Mg.cells mgZ)) (exec_build 47 _ rfl (Mg.cells mgZ) (by kernel_rfl)) <| ?_
  try simp only [pS]
  refine uT 47 ⟨gk5, 0, none⟩ (.agg (Mg.cells mgZ)) (wk7.setRow gk5 (Mg.cells mgZ)) (rs (Mg.cs mgZ) (Mg.cs mgZ) (Mg.cs mgZ) (HF.out.box 2 _ _ _ rfl) S47 (Mg.oneL _)) ?_
  try simp only [pS]
  have HF : Hid (Fq No w (wk7.setRow gk5 (Mg.cells mgZ)) [(gk1, 142, In.cells ⟨p, a, c, false⟩), (gk3, 39, Sp.cells s), (gk5, 47, Mg.cells mgZ)]) := HF.out.set 2 rfl _
  generalize wk7.setRow gk5 (Mg.cells mgZ) = wk8 at HF ⊢
  refine uK (.bool false) <| WL.nil <| ?_
  try simp only [pS]
  go_wp2
  rw [HC.out]
  refine bodyPost_ret (results_row_tmp (by rfl) _ _ gk5 (Mg.cells mgZ) (by rfl) (run_load_part (cs := Mg.cs mgZ) (sub := Mg.cs mgZ) (HF.out.box 2 _ _ _ rfl) (Part.all _) U47 rfl S47)) rfl ?_
  exact ⟨rfl, HF.out.kept⟩
set_option maxRecDepth 100000 in
set_option maxHeartbeats 4000000 in
theorem prep_d (p a : Sp) (c : Cm) (s : Sp) (w : World) : Calls Try.prog 69 #[.agg (In.cells ⟨p, a, c, true⟩), .agg (Sp.cells s)] w (fun e w' => ∃ b, e = .returned (.tuple #[.agg (In.cells ⟨p, a, c, true⟩), .agg (Mg.cells (mM 16 spZ spZ c)), .bool b]) ∧ Kept No w w') := by
  refine hideC fun C HC => ?_
  have HF : Hid (Fq No w w []) := Fq.start _ _
  go_enter Try.func69, Try.ntmps69
  go_upto_region 0 with fail
  refine WL.start ?_
  refine uR (pV w.heap.size 0) (w.alloc (.cells (In.cells ⟨p, a, c, true⟩) 142)) (exec_box 142 _ rfl (In.cells ⟨p, a, c, true⟩) (by kernel_rfl)) ?_
  try simp only [pS]
  have HF : Hid (Fq No w (w.alloc (.cells (In.cells ⟨p, a, c, true⟩) 142)) [(w.heap.size, 142, In.cells ⟨p, a, c, true⟩)]) := HF.out.alloc _ _
  generalize w.alloc (.cells (In.cells ⟨p, a, c, true⟩) 142) = wk2 at HF ⊢
  generalize w.heap.size = gk1 at HF ⊢
  refine uR (pV wk2.heap.size 0) (wk2.alloc (.cells (Sp.cells s) 39)) (exec_box 39 _ rfl (Sp.cells s) (by kernel_rfl)) ?_
  try simp only [pS]
  have HF : Hid (Fq No w (wk2.alloc (.cells (Sp.cells s) 39)) [(gk1, 142, In.cells ⟨p, a, c, true⟩), (wk2.heap.size, 39, Sp.cells s)]) := HF.out.alloc _ _
  generalize wk2.alloc (.cells (Sp.cells s) 39) = wk4 at HF ⊢
  generalize wk2.heap.size = gk3 at HF ⊢
  refine uR (pV wk4.heap.size 0) (wk4.alloc (.cells (In.cells inZ) 142)) (exec_alloc 142 rfl (In.cells inZ) Z142) ?_
  try simp only [pS]
  have HF : Hid (Fq No w (wk4.alloc (.cells (In.cells inZ) 142)) [(gk1, 142, In.cells ⟨p, a, c, true⟩), (gk3, 39, Sp.cells s), (wk4.heap.size, 142, In.cells inZ)]) := HF.out.alloc _ _
  generalize wk4.alloc (.cells (In.cells inZ) 142) = wk6 at HF ⊢
  generalize wk4.heap.size = gk5 at HF ⊢
  refine uR (pV wk6.heap.size 0) (wk6.alloc (.cells (Mg.cells mgZ) 47)) (exec_alloc 47 rfl (Mg.cells mgZ) Z47) ?_
  try simp only [pS]
  have HF : Hid (Fq No w (wk6.alloc (.cells (Mg.cells mgZ) 47)) [(gk1, 142, In.cells ⟨p, a, c, true⟩), (gk3, 39, Sp.cells s), (gk5, 142, In.cells inZ), (wk6.heap.size, 47, Mg.cells mgZ)]) := HF.out.alloc _ _
  generalize wk6.alloc (.cells (Mg.cells mgZ) 47) = wk8 at HF ⊢
  generalize wk6.heap.size = gk7 at HF ⊢
  refine uK (.bool false) <| WL.nil <| ?_
  try simp only [pS]
  go_upto_region 1 with fail
  refine WL.start <| uL 142 ⟨gk1, 0, none⟩ (.agg (In.cells ⟨p, a, c, true⟩)) (run_load_part (cs := In.cs ⟨p, a, c, true⟩) (sub := In.cs ⟨p, a, c, true⟩) (HF.out.box 0 _ _ _ rfl) (Part.all _) U142 rfl S142) <| uL 39 ⟨gk3, 0, none⟩ (.agg (Sp.cells s)) (run_load_part (cs := Sp.cs s) (sub := Sp.cs s) (HF.out.box 1 _ _ _ rfl) (Part.all _) U39 rfl S39) <| ?_
  try simp only [pS]
  refine uC 87 #[.agg (In.cells ⟨p, a, c, true⟩), .agg (Sp.cells s)] (ref_d p a c s _) ?_
  rintro e wk9 ⟨rfl, hk⟩
  have HF : Hid (Fq No w (wk9) [(gk1, 142, In.cells ⟨p, a, c, true⟩), (gk3, 39, Sp.cells s), (gk5, 142, In.cells inZ), (gk7, 47, Mg.cells mgZ)]) := HF.out.no hk
  clear hk
  refine ⟨.tuple #[.agg (Mg.cells (mM 16 spZ spZ c)), .bool true], rfl, ?_⟩
  try simp only [pS]
  refine uK (.tuple #[.agg (Mg.cells (mM 16 spZ spZ c)), .bool true]) <| uK (.agg (Mg.cells (mM 16 spZ spZ c))) <| uK (.bool true) <| ?_
  try simp only [pS]
  refine uR (pV wk9.heap.size 0) (wk9.alloc (.cells (Mg.cells mgZ) 47)) (exec_alloc 47 rfl (Mg.cells mgZ) Z47) ?_
  try simp only [pS]
  have HF : Hid (Fq No w (wk9.alloc (.cells (Mg.cells mgZ) 47)) [(gk1, 142, In.cells ⟨p, a, c, true⟩), (gk3, 39, Sp.cells s), (gk5, 142, In.cells inZ), (gk7, 47, Mg.cells mgZ), (wk9.heap.size, 47, Mg.cells mgZ)]) := HF.out.alloc _ _
  generalize wk9.alloc (.cells (Mg.cells mgZ) 47) = wk11 at HF ⊢
  generalize wk9.heap.size = gk10 at HF ⊢
  refine uT 47 ⟨gk10, 0, none⟩ (.agg (Mg.cells (mM 16 spZ spZ c))) (wk11.setRow gk10 (Mg.cells (mM 16 spZ spZ c))) (rs (Mg.cs mgZ) (Mg.cs (mM 16 spZ spZ c)) (Mg.cs (mM 16 spZ spZ c)) (HF.out.box 4 _ _ _ rfl) S47 (Mg.oneL _)) ?_
  try simp only [pS]
  have HF : Hid (Fq No w (wk11.setRow gk10 (Mg.cells (mM 16 spZ spZ c))) [(gk1, 142, In.cells ⟨p, a, c, true⟩), (gk3, 39, Sp.cells s), (gk5, 142, In.cells inZ), (gk7, 47, Mg.cells mgZ), (gk10, 47, Mg.cells (mM 16 spZ spZ c))]) := HF.out.set 4 rfl _
  generalize wk11.setRow gk10 (Mg.cells (mM 16 spZ spZ c)) = wk12 at HF ⊢
  refine uK (.bool true) <| WL.nil <| ?_
  try simp only [pS]
  go_upto_region 2 with fail
  refine WL.start <| uK (.bool true) <| WL.nil <| ?_
  try simp only [pS]
  go_upto_region 3 with fail
  refine wp_region_held_drew (S := fun w' => Box w' gk1 142 (In.cells ⟨p, a, c, true⟩) ∧ Box w' gk10 47 (Mg.cells (mM 16 spZ spZ c))) rfl ⟨HF.out.box 0 _ _ _ rfl, HF.out.box 4 _ _ _ rfl⟩ (fun hH => ?_)
  have HF : Hid (Fq No w (wk12.drew) [(gk1, 142, In.cells ⟨p, a, c, true⟩), (gk3, 39, Sp.cells s), (gk5, 142, In.cells inZ), (gk7, 47, Mg.cells mgZ), (gk10, 47, Mg.cells (mM 16 spZ spZ c))]) := HF.out.drew
  generalize wk12.drew = wk13 at HF hH ⊢
  refine xL 0 17 142 ⟨gk1, 0, none⟩ (.agg (In.cells ⟨p, a, c, true⟩)) (fun _ hw => run_load_part (cs := In.cs ⟨p, a, c, true⟩) (sub := In.cs ⟨p, a, c, true⟩) (hw.1) (Part.all _) U142 rfl S142) hH <| xL 1 18 47 ⟨gk10, 0, none⟩ (.agg (Mg.cells (mM 16 spZ spZ c))) (fun _ hw => run_load_part (cs := Mg.cs (mM 16 spZ spZ c)) (sub := Mg.cs (mM 16 spZ spZ c)) (hw.2) (Part.all _) U47 rfl S47) hH <| ?_
  try simp only [pS]
  refine xS 2 142 ⟨gk5, 0, none⟩ (.agg (In.cells ⟨p, a, c, true⟩)) (w' := wk13.setRow gk5 (In.cells ⟨p, a, c, true⟩)) (rs (In.cs inZ) (In.cs ⟨p, a, c, true⟩) (In.cs ⟨p, a, c, true⟩) (HF.out.box 2 _ _ _ rfl) S142 (In.oneL _)) (⟨hH.1.rowNe (HF.out.ne 0 2 rfl rfl (by simp)) _, hH.2.rowNe (HF.out.ne 4 2 rfl rfl (by simp)) _⟩) (fun hH => ?_)
  try simp only [pS]
  have HF : Hid (Fq No w (wk13.setRow gk5 (In.cells ⟨p, a, c, true⟩)) [(gk1, 142, In.cells ⟨p, a, c, true⟩), (gk3, 39, Sp.cells s), (gk5, 142, In.cells ⟨p, a, c, true⟩), (gk7, 47, Mg.cells mgZ), (gk10, 47, Mg.cells (mM 16 spZ spZ c))]) := HF.out.set 2 rfl _
  generalize wk13.setRow gk5 (In.cells ⟨p, a, c, true⟩) = wk14 at HF hH ⊢
  refine xS 3 47 ⟨gk7, 0, none⟩ (.agg (Mg.cells (mM 16 spZ spZ c))) (w' := wk14.setRow gk7 (Mg.cells (mM 16 spZ spZ c))) (rs (Mg.cs mgZ) (Mg.cs (mM 16 spZ spZ c)) (Mg.cs (mM 16 spZ spZ c)) (HF.out.box 3 _ _ _ rfl) S47 (Mg.oneL _)) (⟨hH.1.rowNe (HF.out.ne 0 3 rfl rfl (by simp)) _, hH.2.rowNe (HF.out.ne 4 3 rfl rfl (by simp)) _⟩) (fun hH => ?_)
  try simp only [pS]
  have HF : Hid (Fq No w (wk14.setRow gk7 (Mg.cells (mM 16 spZ spZ c))) [(gk1, 142, In.cells ⟨p, a, c, true⟩), (gk3, 39, Sp.cells s), (gk5, 142, In.cells ⟨p, a, c, true⟩), (gk7, 47, Mg.cells (mM 16 spZ spZ c)), (gk10, 47, Mg.cells (mM 16 spZ spZ c))]) := HF.out.set 3 rfl _
  generalize wk14.setRow gk7 (Mg.cells (mM 16 spZ spZ c)) = wk15 at HF hH ⊢
  refine xV 4 6 (.bool false) hH ?_
  try simp only [pS]
  refine wpAnyH_done (by kernel_rfl) ?_ _
  try simp only [pS]
  clear hH
  go_wp2
  rw [HC.out]
  refine bodyPost_ret (results_row2_tmp (by rfl) _ _ gk5 gk7 (In.cells ⟨p, a, c, true⟩) (Mg.cells (mM 16 spZ spZ c)) (by rfl) (by rfl) (run_load_part (cs := In.cs ⟨p, a, c, true⟩) (sub := In.cs ⟨p, a, c, true⟩) (HF.out.box 2 _ _ _ rfl) (Part.all _) U142 rfl S142) (run_load_part (cs := Mg.cs (mM 16 spZ spZ c)) (sub := Mg.cs (mM 16 spZ spZ c)) (HF.out.box 3 _ _ _ rfl) (Part.all _) U47 rfl S47)) rfl ?_
  exact ⟨_, rfl, HF.out.kept⟩
set_option maxRecDepth 100000 in
set_option maxHeartbeats 4000000 in
theorem prep_l (p a : Sp) (c : Cm) (s : Sp) (w : World) (hl : ltV s p = true) : Calls Try.prog 69 #[.agg (In.cells ⟨p, a, c, false⟩), .agg (Sp.cells s)] w (fun e w' => ∃ b, e = .returned (.tuple #[.agg (In.cells ⟨p, a, c, false⟩), .agg (Mg.cells (mM 14 p spZ cZ)), .bool b]) ∧ Kept No w w') := by
  refine hideC fun C HC => ?_
  have HF : Hid (Fq No w w []) := Fq.start _ _
  go_enter Try.func69, Try.ntmps69
  go_upto_region 0 with fail
  refine WL.start ?_
  refine uR (pV w.heap.size 0) (w.alloc (.cells (In.cells ⟨p, a, c, false⟩) 142)) (exec_box 142 _ rfl (In.cells ⟨p, a, c, false⟩) (by kernel_rfl)) ?_
  try simp only [pS]
  have HF : Hid (Fq No w (w.alloc (.cells (In.cells ⟨p, a, c, false⟩) 142)) [(w.heap.size, 142, In.cells ⟨p, a, c, false⟩)]) := HF.out.alloc _ _
  generalize w.alloc (.cells (In.cells ⟨p, a, c, false⟩) 142) = wk2 at HF ⊢
  generalize w.heap.size = gk1 at HF ⊢
  refine uR (pV wk2.heap.size 0) (wk2.alloc (.cells (Sp.cells s) 39)) (exec_box 39 _ rfl (Sp.cells s) (by kernel_rfl)) ?_
  try simp only [pS]
  have HF : Hid (Fq No w (wk2.alloc (.cells (Sp.cells s) 39)) [(gk1, 142, In.cells ⟨p, a, c, false⟩), (wk2.heap.size, 39, Sp.cells s)]) := HF.out.alloc _ _
  generalize wk2.alloc (.cells (Sp.cells s) 39) = wk4 at HF ⊢
  generalize wk2.heap.size = gk3 at HF ⊢
  refine uR (pV wk4.heap.size 0) (wk4.alloc (.cells (In.cells inZ) 142)) (exec_alloc 142 rfl (In.cells inZ) Z142) ?_
  try simp only [pS]
  have HF : Hid (Fq No w (wk4.alloc (.cells (In.cells inZ) 142)) [(gk1, 142, In.cells ⟨p, a, c, false⟩), (gk3, 39, Sp.cells s), (wk4.heap.size, 142, In.cells inZ)]) := HF.out.alloc _ _
  generalize wk4.alloc (.cells (In.cells inZ) 142) = wk6 at HF ⊢
  generalize wk4.heap.size = gk5 at HF ⊢
  refine uR (pV wk6.heap.size 0) (wk6.alloc (.cells (Mg.cells mgZ) 47)) (exec_alloc 47 rfl (Mg.cells mgZ) Z47) ?_
  try simp only [pS]
  have HF : Hid (Fq No w (wk6.alloc (.cells (Mg.cells mgZ) 47)) [(gk1, 142, In.cells ⟨p, a, c, false⟩), (gk3, 39, Sp.cells s), (gk5, 142, In.cells inZ), (wk6.heap.size, 47, Mg.cells mgZ)]) := HF.out.alloc _ _
  generalize wk6.alloc (.cells (Mg.cells mgZ) 47) = wk8 at HF ⊢
  generalize wk6.heap.size = gk7 at HF ⊢
  refine uK (.bool false) <| WL.nil <| ?_
  try simp only [pS]
  go_upto_region 1 with fail
  refine WL.start <| uL 142 ⟨gk1, 0, none⟩ (.agg (In.cells ⟨p, a, c, false⟩)) (run_load_part (cs := In.cs ⟨p, a, c, false⟩) (sub := In.cs ⟨p, a, c, false⟩) (HF.out.box 0 _ _ _ rfl) (Part.all _) U142 rfl S142) <| uL 39 ⟨gk3, 0, none⟩ (.agg (Sp.cells s)) (run_load_part (cs := Sp.cs s) (sub := Sp.cs s) (HF.out.box 1 _ _ _ rfl) (Part.all _) U39 rfl S39) <| ?_
  try simp only [pS]
  refine uC 87 #[.agg (In.cells ⟨p, a, c, false⟩), .agg (Sp.cells s)] (ref_l p a c s _ hl) ?_
  rintro e wk9 ⟨rfl, hk⟩
  have HF : Hid (Fq No w (wk9) [(gk1, 142, In.cells ⟨p, a, c, false⟩), (gk3, 39, Sp.cells s), (gk5, 142, In.cells inZ), (gk7, 47, Mg.cells mgZ)]) := HF.out.no hk
  clear hk
  refine ⟨.tuple #[.agg (Mg.cells (mM 14 p spZ cZ)), .bool true], rfl, ?_⟩
  try simp only [pS]
  refine uK (.tuple #[.agg (Mg.cells (mM 14 p spZ cZ)), .bool true]) <| uK (.agg (Mg.cells (mM 14 p spZ cZ))) <| uK (.bool true) <| ?_
  try simp only [pS]
  refine uR (pV wk9.heap.size 0) (wk9.alloc (.cells (Mg.cells mgZ) 47)) (exec_alloc 47 rfl (Mg.cells mgZ) Z47) ?_
  try simp only [pS]
  have HF : Hid (Fq No w (wk9.alloc (.cells (Mg.cells mgZ) 47)) [(gk1, 142, In.cells ⟨p, a, c, false⟩), (gk3, 39, Sp.cells s), (gk5, 142, In.cells inZ), (gk7, 47, Mg.cells mgZ), (wk9.heap.size, 47, Mg.cells mgZ)]) := HF.out.alloc _ _
  generalize wk9.alloc (.cells (Mg.cells mgZ) 47) = wk11 at HF ⊢
  generalize wk9.heap.size = gk10 at HF ⊢
  refine uT 47 ⟨gk10, 0, none⟩ (.agg (Mg.cells (mM 14 p spZ cZ))) (wk11.setRow gk10 (Mg.cells (mM 14 p spZ cZ))) (rs (Mg.cs mgZ) (Mg.cs (mM 14 p spZ cZ)) (Mg.cs (mM 14 p spZ cZ)) (HF.out.box 4 _ _ _ rfl) S47 (Mg.oneL _)) ?_
  try simp only [pS]
  have HF : Hid (Fq No w (wk11.setRow gk10 (Mg.cells (mM 14 p spZ cZ))) [(gk1, 142, In.cells ⟨p, a, c, false⟩), (gk3, 39, Sp.cells s), (gk5, 142, In.cells inZ), (gk7, 47, Mg.cells mgZ), (gk10, 47, Mg.cells (mM 14 p spZ cZ))]) := HF.out.set 4 rfl _
  generalize wk11.setRow gk10 (Mg.cells (mM 14 p spZ cZ)) = wk12 at HF ⊢
  refine uK (.bool true) <| WL.nil <| ?_
  try simp only [pS]
  go_upto_region 2 with fail
  refine WL.start <| uK (.bool true) <| WL.nil <| ?_
  try simp only [pS]
  go_upto_region 3 with fail
  refine wp_region_held_drew (S := fun w' => Box w' gk1 142 (In.cells ⟨p, a, c, false⟩) ∧ Box w' gk10 47 (Mg.cells (mM 14 p spZ cZ))) rfl ⟨HF.out.box 0 _ _ _ rfl, HF.out.box 4 _ _ _ rfl⟩ (fun hH => ?_)
  have HF : Hid (Fq No w (wk12.drew) [(gk1, 142, In.cells ⟨p, a, c, false⟩), (gk3, 39, Sp.cells s), (gk5, 142, In.cells inZ), (gk7, 47, Mg.cells mgZ), (gk10, 47, Mg.cells (mM 14 p spZ cZ))]) := HF.out.drew
  generalize wk12.drew = wk13 at HF hH ⊢
  refine xL 0 17 142 ⟨gk1, 0, none⟩ (.agg (In.cells ⟨p, a, c, false⟩)) (fun _ hw => run_load_part (cs := In.cs ⟨p, a, c, false⟩) (sub := In.cs ⟨p, a, c, false⟩) (hw.1) (Part.all _) U142 rfl S142) hH <| xL 1 18 47 ⟨gk10, 0, none⟩ (.agg (Mg.cells (mM 14 p spZ cZ))) (fun _ hw => run_load_part (cs := Mg.cs (mM 14 p spZ cZ)) (sub := Mg.cs (mM 14 p spZ cZ)) (hw.2) (Part.all _) U47 rfl S47) hH <| ?_
  try simp only [pS]
  refine xS 2 142 ⟨gk5, 0, none⟩ (.agg (In.cells ⟨p, a, c, false⟩)) (w' := wk13.setRow gk5 (In.cells ⟨p, a, c, false⟩)) (rs (In.cs inZ) (In.cs ⟨p, a, c, false⟩) (In.cs ⟨p, a, c, false⟩) (HF.out.box 2 _ _ _ rfl) S142 (In.oneL _)) (⟨hH.1.rowNe (HF.out.ne 0 2 rfl rfl (by simp)) _, hH.2.rowNe (HF.out.ne 4 2 rfl rfl (by simp)) _⟩) (fun hH => ?_)
  try simp only [pS]
  have HF : Hid (Fq No w (wk13.setRow gk5 (In.cells ⟨p, a, c, false⟩)) [(gk1, 142, In.cells ⟨p, a, c, false⟩), (gk3, 39, Sp.cells s), (gk5, 142, In.cells ⟨p, a, c, false⟩), (gk7, 47, Mg.cells mgZ), (gk10, 47, Mg.cells (mM 14 p spZ cZ))]) := HF.out.set 2 rfl _
  generalize wk13.setRow gk5 (In.cells ⟨p, a, c, false⟩) = wk14 at HF hH ⊢
  refine xS 3 47 ⟨gk7, 0, none⟩ (.agg (Mg.cells (mM 14 p spZ cZ))) (w' := wk14.setRow gk7 (Mg.cells (mM 14 p spZ cZ))) (rs (Mg.cs mgZ) (Mg.cs (mM 14 p spZ cZ)) (Mg.cs (mM 14 p spZ cZ)) (HF.out.box 3 _ _ _ rfl) S47 (Mg.oneL _)) (⟨hH.1.rowNe (HF.out.ne 0 3 rfl rfl (by simp)) _, hH.2.rowNe (HF.out.ne 4 3 rfl rfl (by simp)) _⟩) (fun hH => ?_)
  try simp only [pS]
  have HF : Hid (Fq No w (wk14.setRow gk7 (Mg.cells (mM 14 p spZ cZ))) [(gk1, 142, In.cells ⟨p, a, c, false⟩), (gk3, 39, Sp.cells s), (gk5, 142, In.cells ⟨p, a, c, false⟩), (gk7, 47, Mg.cells (mM 14 p spZ cZ)), (gk10, 47, Mg.cells (mM 14 p spZ cZ))]) := HF.out.set 3 rfl _
  generalize wk14.setRow gk7 (Mg.cells (mM 14 p spZ cZ)) = wk15 at HF hH ⊢
  refine xV 4 6 (.bool false) hH ?_
  try simp only [pS]
  refine wpAnyH_done (by kernel_rfl) ?_ _
  try simp only [pS]
  clear hH
  go_wp2
  rw [HC.out]
  refine bodyPost_ret (results_row2_tmp (by rfl) _ _ gk5 gk7 (In.cells ⟨p, a, c, false⟩) (Mg.cells (mM 14 p spZ cZ)) (by rfl) (by rfl) (run_load_part (cs := In.cs ⟨p, a, c, false⟩) (sub := In.cs ⟨p, a, c, false⟩) (HF.out.box 2 _ _ _ rfl) (Part.all _) U142 rfl S142) (run_load_part (cs := Mg.cs (mM 14 p spZ cZ)) (sub := Mg.cs (mM 14 p spZ cZ)) (HF.out.box 3 _ _ _ rfl) (Part.all _) U47 rfl S47)) rfl ?_
  exact ⟨_, rfl, HF.out.kept⟩
set_option maxRecDepth 100000 in
set_option maxHeartbeats 4000000 in
theorem prep_n (p a : Sp) (c : Cm) (s : Sp) (w : World) (hl : ltV s p = false) : Calls Try.prog 69 #[.agg (In.cells ⟨p, a, c, false⟩), .agg (Sp.cells s)] w (fun e w' => ∃ b, e = .returned (.tuple #[.agg (In.cells ⟨s, a, c, false⟩), .agg (Mg.cells (mM 13 s a c)), .bool b]) ∧ Kept No w w') := by
  refine hideC fun C HC => ?_
  have HF : Hid (Fq No w w []) := Fq.start _ _
  go_enter Try.func69, Try.ntmps69
  go_upto_region 0 with fail
  refine WL.start ?_
  refine uR (pV w.heap.size 0) (w.alloc (.cells (In.cells ⟨p, a, c, false⟩) 142)) (exec_box 142 _ rfl (In.cells ⟨p, a, c, false⟩) (by kernel_rfl)) ?_
  try simp only [pS]
  have HF : Hid (Fq No w (w.alloc (.cells (In.cells ⟨p, a, c, false⟩) 142)) [(w.heap.size, 142, In.cells ⟨p, a, c, false⟩)]) := HF.out.alloc _ _
  generalize w.alloc (.cells (In.cells ⟨p, a, c, false⟩) 142) = wk2 at HF ⊢
  generalize w.heap.size = gk1 at HF ⊢
  refine uR (pV wk2.heap.size 0) (wk2.alloc (.cells (Sp.cells s) 39)) (exec_box 39 _ rfl (Sp.cells s) (by kernel_rfl)) ?_
  try simp only [pS]
  have HF : Hid (Fq No w (wk2.alloc (.cells (Sp.cells s) 39)) [(gk1, 142, In.cells ⟨p, a, c, false⟩), (wk2.heap.size, 39, Sp.cells s)]) := HF.out.alloc _ _
  generalize wk2.alloc (.cells (Sp.cells s) 39) = wk4 at HF ⊢
  generalize wk2.heap.size = gk3 at HF ⊢
  refine uR (pV wk4.heap.size 0) (wk4.alloc (.cells (In.cells inZ) 142)) (exec_alloc 142 rfl (In.cells inZ) Z142) ?_
  try simp only [pS]
  have HF : Hid (Fq No w (wk4.alloc (.cells (In.cells inZ) 142)) [(gk1, 142, In.cells ⟨p, a, c, false⟩), (gk3, 39, Sp.cells s), (wk4.heap.size, 142, In.cells inZ)]) := HF.out.alloc _ _
  generalize wk4.alloc (.cells (In.cells inZ) 142) = wk6 at HF ⊢
  generalize wk4.heap.size = gk5 at HF ⊢
  refine uR (pV wk6.heap.size 0) (wk6.alloc (.cells (Mg.cells mgZ) 47)) (exec_alloc 47 rfl (Mg.cells mgZ) Z47) ?_
  try simp only [pS]
  have HF : Hid (Fq No w (wk6.alloc (.cells (Mg.cells mgZ) 47)) [(gk1, 142, In.cells ⟨p, a, c, false⟩), (gk3, 39, Sp.cells s), (gk5, 142, In.cells inZ), (wk6.heap.size, 47, Mg.cells mgZ)]) := HF.out.alloc _ _
  generalize wk6.alloc (.cells (Mg.cells mgZ) 47) = wk8 at HF ⊢
  generalize wk6.heap.size = gk7 at HF ⊢
  refine uK (.bool false) <| WL.nil <| ?_
  try simp only [pS]
  go_upto_region 1 with fail
  refine WL.start <| uL 142 ⟨gk1, 0, none⟩ (.agg (In.cells ⟨p, a, c, false⟩)) (run_load_part (cs := In.cs ⟨p, a, c, false⟩) (sub := In.cs ⟨p, a, c, false⟩) (HF.out.box 0 _ _ _ rfl) (Part.all _) U142 rfl S142) <| uL 39 ⟨gk3, 0, none⟩ (.agg (Sp.cells s)) (run_load_part (cs := Sp.cs s) (sub := Sp.cs s) (HF.out.box 1 _ _ _ rfl) (Part.all _) U39 rfl S39) <| ?_
  try simp only [pS]
  refine uC 87 #[.agg (In.cells ⟨p, a, c, false⟩), .agg (Sp.cells s)] (ref_n p a c s _ hl) ?_
  rintro e wk9 ⟨rfl, hk⟩
  have HF : Hid (Fq No w (wk9) [(gk1, 142, In.cells ⟨p, a, c, false⟩), (gk3, 39, Sp.cells s), (gk5, 142, In.cells inZ), (gk7, 47, Mg.cells mgZ)]) := HF.out.no hk
  clear hk
  refine ⟨.tuple #[.agg (Mg.cells mgZ), .bool false], rfl, ?_⟩
  try simp only [pS]
  refine uK (.tuple #[.agg (Mg.cells mgZ), .bool false]) <| uK (.agg (Mg.cells mgZ)) <| uK (.bool false) <| ?_
  try simp only [pS]
  refine uR (pV wk9.heap.size 0) (wk9.alloc (.cells (Mg.cells mgZ) 47)) (exec_alloc 47 rfl (Mg.cells mgZ) Z47) ?_
  try simp only [pS]
  have HF : Hid (Fq No w (wk9.alloc (.cells (Mg.cells mgZ) 47)) [(gk1, 142, In.cells ⟨p, a, c, false⟩), (gk3, 39, Sp.cells s), (gk5, 142, In.cells inZ), (gk7, 47, Mg.cells mgZ), (wk9.heap.size, 47, Mg.cells mgZ)]) := HF.out.alloc _ _
  generalize wk9.alloc (.cells (Mg.cells mgZ) 47) = wk11 at HF ⊢
  generalize wk9.heap.size = gk10 at HF ⊢
  refine uT 47 ⟨gk10, 0, none⟩ (.agg (Mg.cells mgZ)) (wk11.setRow gk10 (Mg.cells mgZ)) (rs (Mg.cs mgZ) (Mg.cs mgZ) (Mg.cs mgZ) (HF.out.box 4 _ _ _ rfl) S47 (Mg.oneL _)) ?_
  try simp only [pS]
  have HF : Hid (Fq No w (wk11.setRow gk10 (Mg.cells mgZ)) [(gk1, 142, In.cells ⟨p, a, c, false⟩), (gk3, 39, Sp.cells s), (gk5, 142, In.cells inZ), (gk7, 47, Mg.cells mgZ), (gk10, 47, Mg.cells mgZ)]) := HF.out.set 4 rfl _
  generalize wk11.setRow gk10 (Mg.cells mgZ) = wk12 at HF ⊢
  refine uK (.bool false) <| WL.nil <| ?_
  try simp only [pS]
  go_upto_region 2 with fail
  refine WL.start <| uK (.bool false) <| WL.nil <| ?_
  try simp only [pS]
  go_upto_region 4 with fail
  refine WL.start <| uL 142 ⟨gk1, 0, none⟩ (.agg (In.cells ⟨p, a, c, false⟩)) (run_load_part (cs := In.cs ⟨p, a, c, false⟩) (sub := In.cs ⟨p, a, c, false⟩) (HF.out.box 0 _ _ _ rfl) (Part.all _) U142 rfl S142) <| ?_
  try simp only [pS]
  refine uR (pV wk12.heap.size 0) (wk12.alloc (.cells (In.cells inZ) 142)) (exec_alloc 142 rfl (In.cells inZ) Z142) ?_
  try simp only [pS]
  have HF : Hid (Fq No w (wk12.alloc (.cells (In.cells inZ) 142)) [(gk1, 142, In.cells ⟨p, a, c, false⟩), (gk3, 39, Sp.cells s), (gk5, 142, In.cells inZ), (gk7, 47, Mg.cells mgZ), (gk10, 47, Mg.cells mgZ), (wk12.heap.size, 142, In.cells inZ)]) := HF.out.alloc _ _
  generalize wk12.alloc (.cells (In.cells inZ) 142) = wk14 at HF ⊢
  generalize wk12.heap.size = gk13 at HF ⊢
  refine uT 142 ⟨gk13, 0, none⟩ (.agg (In.cells ⟨p, a, c, false⟩)) (wk14.setRow gk13 (In.cells ⟨p, a, c, false⟩)) (rs (In.cs inZ) (In.cs ⟨p, a, c, false⟩) (In.cs ⟨p, a, c, false⟩) (HF.out.box 5 _ _ _ rfl) S142 (In.oneL _)) ?_
  try simp only [pS]
  have HF : Hid (Fq No w (wk14.setRow gk13 (In.cells ⟨p, a, c, false⟩)) [(gk1, 142, In.cells ⟨p, a, c, false⟩), (gk3, 39, Sp.cells s), (gk5, 142, In.cells inZ), (gk7, 47, Mg.cells mgZ), (gk10, 47, Mg.cells mgZ), (gk13, 142, In.cells ⟨p, a, c, false⟩)]) := HF.out.set 5 rfl _
  generalize wk14.setRow gk13 (In.cells ⟨p, a, c, false⟩) = wk15 at HF ⊢
  refine WL.nil ?_
  try simp only [pS]
  go_upto_region 5 with fail
  refine WL.start <| uL 39 ⟨gk3, 0, none⟩ (.agg (Sp.cells s)) (run_load_part (cs := Sp.cs s) (sub := Sp.cs s) (HF.out.box 1 _ _ _ rfl) (Part.all _) U39 rfl S39) <| uK (pV gk13 0) <| ?_
  try simp only [pS]
  refine uT 39 ⟨gk13, 0, none⟩ (.agg (Sp.cells s)) (wk15.setRow gk13 (In.cells ⟨s, a, c, false⟩)) (rs (In.cs ⟨p, a, c, false⟩) (Sp.cs s) (In.cs ⟨s, a, c, false⟩) (HF.out.box 5 _ _ _ rfl) S39 (Sp.oneL _)) ?_
  try simp only [pS]
  have HF : Hid (Fq No w (wk15.setRow gk13 (In.cells ⟨s, a, c, false⟩)) [(gk1, 142, In.cells ⟨p, a, c, false⟩), (gk3, 39, Sp.cells s), (gk5, 142, In.cells inZ), (gk7, 47, Mg.cells mgZ), (gk10, 47, Mg.cells mgZ), (gk13, 142, In.cells ⟨s, a, c, false⟩)]) := HF.out.set 5 rfl _
  generalize wk15.setRow gk13 (In.cells ⟨s, a, c, false⟩) = wk16 at HF ⊢
  refine WL.nil ?_
  try simp only [pS]
  go_upto_region 6 with fail
  refine wp_region_held_drew (S := fun w' => Box w' gk1 142 (In.cells ⟨p, a, c, false⟩) ∧ Box w' gk3 39 (Sp.cells s) ∧ Box w' gk13 142 (In.cells ⟨s, a, c, false⟩)) rfl ⟨HF.out.box 0 _ _ _ rfl, HF.out.box 1 _ _ _ rfl, HF.out.box 5 _ _ _ rfl⟩ (fun hH => ?_)
  have HF : Hid (Fq No w (wk16.drew) [(gk1, 142, In.cells ⟨p, a, c, false⟩), (gk3, 39, Sp.cells s), (gk5, 142, In.cells inZ), (gk7, 47, Mg.cells mgZ), (gk10, 47, Mg.cells mgZ), (gk13, 142, In.cells ⟨s, a, c, false⟩)]) := HF.out.drew
  generalize wk16.drew = wk17 at HF hH ⊢
  refine xL 0 22 142 ⟨gk13, 0, none⟩ (.agg (In.cells ⟨s, a, c, false⟩)) (fun _ hw => run_load_part (cs := In.cs ⟨s, a, c, false⟩) (sub := In.cs ⟨s, a, c, false⟩) (hw.2.2) (Part.all _) U142 rfl S142) hH <| xL 1 23 39 ⟨gk3, 0, none⟩ (.agg (Sp.cells s)) (fun _ hw => run_load_part (cs := Sp.cs s) (sub := Sp.cs s) (hw.2.1) (Part.all _) U39 rfl S39) hH <| xV 2 24 (pV gk1 2) hH <| xL 3 25 39 ⟨gk1, 2, none⟩ (.agg (Sp.cells a)) (fun _ hw => run_load_part (cs := In.cs ⟨p, a, c, false⟩) (sub := Sp.cs a) (hw.1) (part_of (by kernel_rfl)) U39 rfl S39) hH <| xV 4 26 (pV gk1 4) hH <| xL 5 27 28 ⟨gk1, 4, none⟩ (.agg (Cm.cells c)) (fun _ hw => run_load_part (cs := In.cs ⟨p, a, c, false⟩) (sub := Cm.cs c) (hw.1) (part_of (by kernel_rfl)) U28 rfl S28) hH <| ?_
  try simp only [pS]
  refine xU 6 28 (.agg (Mg.cells ⟨13, adZ, adZ, 0, 0, kyZ, s, a, slZ, c, bvZ, slZ, false⟩)) (fun w' hw => exec_build 47 _ rfl (Mg.cells ⟨13, adZ, adZ, 0, 0, kyZ, s, a, slZ, c, bvZ, slZ, false⟩) (by kernel_rfl)) hH <| xL 7 29 142 ⟨gk13, 0, none⟩ (.agg (In.cells ⟨s, a, c, false⟩)) (fun _ hw => run_load_part (cs := In.cs ⟨s, a, c, false⟩) (sub := In.cs ⟨s, a, c, false⟩) (hw.2.2) (Part.all _) U142 rfl S142) hH <| xL 8 30 142 ⟨gk1, 0, none⟩ (.agg (In.cells ⟨p, a, c, false⟩)) (fun _ hw => run_load_part (cs := In.cs ⟨p, a, c, false⟩) (sub := In.cs ⟨p, a, c, false⟩) (hw.1) (Part.all _) U142 rfl S142) hH <| xB 9 31 .neq 142 (.agg (In.cells ⟨s, a, c, false⟩)) (.agg (In.cells ⟨p, a, c, false⟩)) (.bool (!Ytpabpeppgpeaoaa.eqI (uI ⟨s, a, c, false⟩) (uI ⟨p, a, c, false⟩))) (fun _ _ => neqI (uI ⟨s, a, c, false⟩) (uI ⟨p, a, c, false⟩) _) hH <| ?_
  try simp only [pS]
  refine xS 10 142 ⟨gk5, 0, none⟩ (.agg (In.cells ⟨s, a, c, false⟩)) (w' := wk17.setRow gk5 (In.cells ⟨s, a, c, false⟩)) (rs (In.cs inZ) (In.cs ⟨s, a, c, false⟩) (In.cs ⟨s, a, c, false⟩) (HF.out.box 2 _ _ _ rfl) S142 (In.oneL _)) (⟨hH.1.rowNe (HF.out.ne 0 2 rfl rfl (by simp)) _, hH.2.1.rowNe (HF.out.ne 1 2 rfl rfl (by simp)) _, hH.2.2.rowNe (HF.out.ne 5 2 rfl rfl (by simp)) _⟩) (fun hH => ?_)
  try simp only [pS]
  have HF : Hid (Fq No w (wk17.setRow gk5 (In.cells ⟨s, a, c, false⟩)) [(gk1, 142, In.cells ⟨p, a, c, false⟩), (gk3, 39, Sp.cells s), (gk5, 142, In.cells ⟨s, a, c, false⟩), (gk7, 47, Mg.cells mgZ), (gk10, 47, Mg.cells mgZ), (gk13, 142, In.cells ⟨s, a, c, false⟩)]) := HF.out.set 2 rfl _
  generalize wk17.setRow gk5 (In.cells ⟨s, a, c, false⟩) = wk18 at HF hH ⊢
  refine xS 11 47 ⟨gk7, 0, none⟩ (.agg (Mg.cells ⟨13, adZ, adZ, 0, 0, kyZ, s, a, slZ, c, bvZ, slZ, false⟩)) (w' := wk18.setRow gk7 (Mg.cells ⟨13, adZ, adZ, 0, 0, kyZ, s, a, slZ, c, bvZ, slZ, false⟩)) (rs (Mg.cs mgZ) (Mg.cs ⟨13, adZ, adZ, 0, 0, kyZ, s, a, slZ, c, bvZ, slZ, false⟩) (Mg.cs ⟨13, adZ, adZ, 0, 0, kyZ, s, a, slZ, c, bvZ, slZ, false⟩) (HF.out.box 3 _ _ _ rfl) S47 (Mg.oneL _)) (⟨hH.1.rowNe (HF.out.ne 0 3 rfl rfl (by simp)) _, hH.2.1.rowNe (HF.out.ne 1 3 rfl rfl (by simp)) _, hH.2.2.rowNe (HF.out.ne 5 3 rfl rfl (by simp)) _⟩) (fun hH => ?_)
  try simp only [pS]
  have HF : Hid (Fq No w (wk18.setRow gk7 (Mg.cells ⟨13, adZ, adZ, 0, 0, kyZ, s, a, slZ, c, bvZ, slZ, false⟩)) [(gk1, 142, In.cells ⟨p, a, c, false⟩), (gk3, 39, Sp.cells s), (gk5, 142, In.cells ⟨s, a, c, false⟩), (gk7, 47, Mg.cells ⟨13, adZ, adZ, 0, 0, kyZ, s, a, slZ, c, bvZ, slZ, false⟩), (gk10, 47, Mg.cells mgZ), (gk13, 142, In.cells ⟨s, a, c, false⟩)]) := HF.out.set 3 rfl _
  generalize wk18.setRow gk7 (Mg.cells ⟨13, adZ, adZ, 0, 0, kyZ, s, a, slZ, c, bvZ, slZ, false⟩) = wk19 at HF hH ⊢
  refine xV 12 6 (.bool (!Ytpabpeppgpeaoaa.eqI (uI ⟨s, a, c, false⟩) (uI ⟨p, a, c, false⟩))) hH ?_
  try simp only [pS]
  refine wpAnyH_done (by kernel_rfl) ?_ _
  try simp only [pS]
  clear hH
  go_wp2
  rw [HC.out]
  refine bodyPost_ret (results_row2_tmp (by rfl) _ _ gk5 gk7 (In.cells ⟨s, a, c, false⟩) (Mg.cells ⟨13, adZ, adZ, 0, 0, kyZ, s, a, slZ, c, bvZ, slZ, false⟩) (by rfl) (by rfl) (run_load_part (cs := In.cs ⟨s, a, c, false⟩) (sub := In.cs ⟨s, a, c, false⟩) (HF.out.box 2 _ _ _ rfl) (Part.all _) U142 rfl S142) (run_load_part (cs := Mg.cs ⟨13, adZ, adZ, 0, 0, kyZ, s, a, slZ, c, bvZ, slZ, false⟩) (sub := Mg.cs ⟨13, adZ, adZ, 0, 0, kyZ, s, a, slZ, c, bvZ, slZ, false⟩) (HF.out.box 3 _ _ _ rfl) (Part.all _) U47 rfl S47)) rfl ?_
  exact ⟨_, rfl, HF.out.kept⟩
set_option maxRecDepth 100000 in
set_option maxHeartbeats 4000000 in
theorem acc_d (p a : Sp) (c : Cm) (s : Sp) (c0 : Cm) (w : World) : Calls Try.prog 70 #[.agg (In.cells ⟨p, a, c, true⟩), .agg (Sp.cells s), .agg (Cm.cells c0)] w (fun e w' => ∃ b, e = .returned (.tuple #[.agg (In.cells ⟨p, a, c, true⟩), .agg (Mg.cells (mM 16 spZ spZ c)), .bool b]) ∧ Kept No w w') := by
  refine hideC fun C HC => ?_
  have HF : Hid (Fq No w w []) := Fq.start _ _
  go_enter Try.func70, Try.ntmps70
  go_upto_region 0 with fail
  refine WL.start ?_
  refine uR (pV w.heap.size 0) (w.alloc (.cells (In.cells ⟨p, a, c, true⟩) 142)) (exec_box 142 _ rfl (In.cells ⟨p, a, c, true⟩) (by kernel_rfl)) ?_
  try simp only [pS]
  have HF : Hid (Fq No w (w.alloc (.cells (In.cells ⟨p, a, c, true⟩) 142)) [(w.heap.size, 142, In.cells ⟨p, a, c, true⟩)]) := HF.out.alloc _ _
  generalize w.alloc (.cells (In.cells ⟨p, a, c, true⟩) 142) = wk2 at HF ⊢
  generalize w.heap.size = gk1 at HF ⊢
  refine uR (pV wk2.heap.size 0) (wk2.alloc (.cells (Sp.cells s) 39)) (exec_box 39 _ rfl (Sp.cells s) (by kernel_rfl)) ?_
  try simp only [pS]
  have HF : Hid (Fq No w (wk2.alloc (.cells (Sp.cells s) 39)) [(gk1, 142, In.cells ⟨p, a, c, true⟩), (wk2.heap.size, 39, Sp.cells s)]) := HF.out.alloc _ _
  generalize wk2.alloc (.cells (Sp.cells s) 39) = wk4 at HF ⊢
  generalize wk2.heap.size = gk3 at HF ⊢
  refine uR (pV wk4.heap.size 0) (wk4.alloc (.cells (Cm.cells c0) 28)) (exec_box 28 _ rfl (Cm.cells c0) (by kernel_rfl)) ?_
  try simp only [pS]
  have HF : Hid (Fq No w (wk4.alloc (.cells (Cm.cells c0) 28)) [(gk1, 142, In.cells ⟨p, a, c, true⟩), (gk3, 39, Sp.cells s), (wk4.heap.size, 28, Cm.cells c0)]) := HF.out.alloc _ _
  generalize wk4.alloc (.cells (Cm.cells c0) 28) = wk6 at HF ⊢
  generalize wk4.heap.size = gk5 at HF ⊢
  refine uR (pV wk6.heap.size 0) (wk6.alloc (.cells (In.cells inZ) 142)) (exec_alloc 142 rfl (In.cells inZ) Z142) ?_
  try simp only [pS]
  have HF : Hid (Fq No w (wk6.alloc (.cells (In.cells inZ) 142)) [(gk1, 142, In.cells ⟨p, a, c, true⟩), (gk3, 39, Sp.cells s), (gk5, 28, Cm.cells c0), (wk6.heap.size, 142, In.cells inZ)]) := HF.out.alloc _ _
  generalize wk6.alloc (.cells (In.cells inZ) 142) = wk8 at HF ⊢
  generalize wk6.heap.size = gk7 at HF ⊢
  refine uR (pV wk8.heap.size 0) (wk8.alloc (.cells (Mg.cells mgZ) 47)) (exec_alloc 47 rfl (Mg.cells mgZ) Z47) ?_
  try simp only [pS]
  have HF : Hid (Fq No w (wk8.alloc (.cells (Mg.cells mgZ) 47)) [(gk1, 142, In.cells ⟨p, a, c, true⟩), (gk3, 39, Sp.cells s), (gk5, 28, Cm.cells c0), (gk7, 142, In.cells inZ), (wk8.heap.size, 47, Mg.cells mgZ)]) := HF.out.alloc _ _
  generalize wk8.alloc (.cells (Mg.cells mgZ) 47) = wk10 at HF ⊢
  generalize wk8.heap.size = gk9 at HF ⊢
  refine uK (.bool false) <| WL.nil <| ?_
  try simp only [pS]
  go_upto_region 1 with fail
  refine WL.start <| uL 142 ⟨gk1, 0, none⟩ (.agg (In.cells ⟨p, a, c, true⟩)) (run_load_part (cs := In.cs ⟨p, a, c, true⟩) (sub := In.cs ⟨p, a, c, true⟩) (HF.out.box 0 _ _ _ rfl) (Part.all _) U142 rfl S142) <| uL 39 ⟨gk3, 0, none⟩ (.agg (Sp.cells s)) (run_load_part (cs := Sp.cs s) (sub := Sp.cs s) (HF.out.box 1 _ _ _ rfl) (Part.all _) U39 rfl S39) <| ?_
  try simp only [pS]
  refine uC 87 #[.agg (In.cells ⟨p, a, c, true⟩), .agg (Sp.cells s)] (ref_d p a c s _) ?_
  rintro e wk11 ⟨rfl, hk⟩
  have HF : Hid (Fq No w (wk11) [(gk1, 142, In.cells ⟨p, a, c, true⟩), (gk3, 39, Sp.cells s), (gk5, 28, Cm.cells c0), (gk7, 142, In.cells inZ), (gk9, 47, Mg.cells mgZ)]) := HF.out.no hk
  clear hk
  refine ⟨.tuple #[.agg (Mg.cells (mM 16 spZ spZ c)), .bool true], rfl, ?_⟩
  try simp only [pS]
  refine uK (.tuple #[.agg (Mg.cells (mM 16 spZ spZ c)), .bool true]) <| uK (.agg (Mg.cells (mM 16 spZ spZ c))) <| uK (.bool true) <| ?_
  try simp only [pS]
  refine uR (pV wk11.heap.size 0) (wk11.alloc (.cells (Mg.cells mgZ) 47)) (exec_alloc 47 rfl (Mg.cells mgZ) Z47) ?_
  try simp only [pS]
  have HF : Hid (Fq No w (wk11.alloc (.cells (Mg.cells mgZ) 47)) [(gk1, 142, In.cells ⟨p, a, c, true⟩), (gk3, 39, Sp.cells s), (gk5, 28, Cm.cells c0), (gk7, 142, In.cells inZ), (gk9, 47, Mg.cells mgZ), (wk11.heap.size, 47, Mg.cells mgZ)]) := HF.out.alloc _ _
  generalize wk11.alloc (.cells (Mg.cells mgZ) 47) = wk13 at HF ⊢
  generalize wk11.heap.size = gk12 at HF ⊢
  refine uT 47 ⟨gk12, 0, none⟩ (.agg (Mg.cells (mM 16 spZ spZ c))) (wk13.setRow gk12 (Mg.cells (mM 16 spZ spZ c))) (rs (Mg.cs mgZ) (Mg.cs (mM 16 spZ spZ c)) (Mg.cs (mM 16 spZ spZ c)) (HF.out.box 5 _ _ _ rfl) S47 (Mg.oneL _)) ?_
  try simp only [pS]
  have HF : Hid (Fq No w (wk13.setRow gk12 (Mg.cells (mM 16 spZ spZ c))) [(gk1, 142, In.cells ⟨p, a, c, true⟩), (gk3, 39, Sp.cells s), (gk5, 28, Cm.cells c0), (gk7, 142, In.cells inZ), (gk9, 47, Mg.cells mgZ), (gk12, 47, Mg.cells (mM 16 spZ spZ c))]) := HF.out.set 5 rfl _
  generalize wk13.setRow gk12 (Mg.cells (mM 16 spZ spZ c)) = wk14 at HF ⊢
  refine uK (.bool true) <| WL.nil <| ?_
  try simp only [pS]
  go_upto_region 2 with fail
  refine WL.start <| uK (.bool true) <| WL.nil <| ?_
  try simp only [pS]
  go_upto_region 3 with fail
  refine wp_region_held_drew (S := fun w' => Box w' gk1 142 (In.cells ⟨p, a, c, true⟩) ∧ Box w' gk12 47 (Mg.cells (mM 16 spZ spZ c))) rfl ⟨HF.out.box 0 _ _ _ rfl, HF.out.box 5 _ _ _ rfl⟩ (fun hH => ?_)
  have HF : Hid (Fq No w (wk14.drew) [(gk1, 142, In.cells ⟨p, a, c, true⟩), (gk3, 39, Sp.cells s), (gk5, 28, Cm.cells c0), (gk7, 142, In.cells inZ), (gk9, 47, Mg.cells mgZ), (gk12, 47, Mg.cells (mM 16 spZ spZ c))]) := HF.out.drew
  generalize wk14.drew = wk15 at HF hH ⊢
  refine xL 0 19 142 ⟨gk1, 0, none⟩ (.agg (In.cells ⟨p, a, c, true⟩)) (fun _ hw => run_load_part (cs := In.cs ⟨p, a, c, true⟩) (sub := In.cs ⟨p, a, c, true⟩) (hw.1) (Part.all _) U142 rfl S142) hH <| xL 1 20 47 ⟨gk12, 0, none⟩ (.agg (Mg.cells (mM 16 spZ spZ c))) (fun _ hw => run_load_part (cs := Mg.cs (mM 16 spZ spZ c)) (sub := Mg.cs (mM 16 spZ spZ c)) (hw.2) (Part.all _) U47 rfl S47) hH <| ?_
  try simp only [pS]
  refine xS 2 142 ⟨gk7, 0, none⟩ (.agg (In.cells ⟨p, a, c, true⟩)) (w' := wk15.setRow gk7 (In.cells ⟨p, a, c, true⟩)) (rs (In.cs inZ) (In.cs ⟨p, a, c, true⟩) (In.cs ⟨p, a, c, true⟩) (HF.out.box 3 _ _ _ rfl) S142 (In.oneL _)) (⟨hH.1.rowNe (HF.out.ne 0 3 rfl rfl (by simp)) _, hH.2.rowNe (HF.out.ne 5 3 rfl rfl (by simp)) _⟩) (fun hH => ?_)
  try simp only [pS]
  have HF : Hid (Fq No w (wk15.setRow gk7 (In.cells ⟨p, a, c, true⟩)) [(gk1, 142, In.cells ⟨p, a, c, true⟩), (gk3, 39, Sp.cells s), (gk5, 28, Cm.cells c0), (gk7, 142, In.cells ⟨p, a, c, true⟩), (gk9, 47, Mg.cells mgZ), (gk12, 47, Mg.cells (mM 16 spZ spZ c))]) := HF.out.set 3 rfl _
  generalize wk15.setRow gk7 (In.cells ⟨p, a, c, true⟩) = wk16 at HF hH ⊢
  refine xS 3 47 ⟨gk9, 0, none⟩ (.agg (Mg.cells (mM 16 spZ spZ c))) (w' := wk16.setRow gk9 (Mg.cells (mM 16 spZ spZ c))) (rs (Mg.cs mgZ) (Mg.cs (mM 16 spZ spZ c)) (Mg.cs (mM 16 spZ spZ c)) (HF.out.box 4 _ _ _ rfl) S47 (Mg.oneL _)) (⟨hH.1.rowNe (HF.out.ne 0 4 rfl rfl (by simp)) _, hH.2.rowNe (HF.out.ne 5 4 rfl rfl (by simp)) _⟩) (fun hH => ?_)
  try simp only [pS]
  have HF : Hid (Fq No w (wk16.setRow gk9 (Mg.cells (mM 16 spZ spZ c))) [(gk1, 142, In.cells ⟨p, a, c, true⟩), (gk3, 39, Sp.cells s), (gk5, 28, Cm.cells c0), (gk7, 142, In.cells ⟨p, a, c, true⟩), (gk9, 47, Mg.cells (mM 16 spZ spZ c)), (gk12, 47, Mg.cells (mM 16 spZ spZ c))]) := HF.out.set 4 rfl _
  generalize wk16.setRow gk9 (Mg.cells (mM 16 spZ spZ c)) = wk17 at HF hH ⊢
  refine xV 4 8 (.bool false) hH ?_
  try simp only [pS]
  refine wpAnyH_done (by kernel_rfl) ?_ _
  try simp only [pS]
  clear hH
  go_wp2
  rw [HC.out]
  refine bodyPost_ret (results_row2_tmp (by rfl) _ _ gk7 gk9 (In.cells ⟨p, a, c, true⟩) (Mg.cells (mM 16 spZ spZ c)) (by rfl) (by rfl) (run_load_part (cs := In.cs ⟨p, a, c, true⟩) (sub := In.cs ⟨p, a, c, true⟩) (HF.out.box 3 _ _ _ rfl) (Part.all _) U142 rfl S142) (run_load_part (cs := Mg.cs (mM 16 spZ spZ c)) (sub := Mg.cs (mM 16 spZ spZ c)) (HF.out.box 4 _ _ _ rfl) (Part.all _) U47 rfl S47)) rfl ?_
  exact ⟨_, rfl, HF.out.kept⟩
set_option maxRecDepth 100000 in
set_option maxHeartbeats 4000000 in
theorem acc_l (p a : Sp) (c : Cm) (s : Sp) (c0 : Cm) (w : World) (hl : ltV s p = true) : Calls Try.prog 70 #[.agg (In.cells ⟨p, a, c, false⟩), .agg (Sp.cells s), .agg (Cm.cells c0)] w (fun e w' => ∃ b, e = .returned (.tuple #[.agg (In.cells ⟨p, a, c, false⟩), .agg (Mg.cells (mM 14 p spZ cZ)), .bool b]) ∧ Kept No w w') := by
  refine hideC fun C HC => ?_
  have HF : Hid (Fq No w w []) := Fq.start _ _
  go_enter Try.func70, Try.ntmps70
  go_upto_region 0 with fail
  refine WL.start ?_
  refine uR (pV w.heap.size 0) (w.alloc (.cells (In.cells ⟨p, a, c, false⟩) 142)) (exec_box 142 _ rfl (In.cells ⟨p, a, c, false⟩) (by kernel_rfl)) ?_
  try simp only [pS]
  have HF : Hid (Fq No w (w.alloc (.cells (In.cells ⟨p, a, c, false⟩) 142)) [(w.heap.size, 142, In.cells ⟨p, a, c, false⟩)]) := HF.out.alloc _ _
  generalize w.alloc (.cells (In.cells ⟨p, a, c, false⟩) 142) = wk2 at HF ⊢
  generalize w.heap.size = gk1 at HF ⊢
  refine uR (pV wk2.heap.size 0) (wk2.alloc (.cells (Sp.cells s) 39)) (exec_box 39 _ rfl (Sp.cells s) (by kernel_rfl)) ?_
  try simp only [pS]
  have HF : Hid (Fq No w (wk2.alloc (.cells (Sp.cells s) 39)) [(gk1, 142, In.cells ⟨p, a, c, false⟩), (wk2.heap.size, 39, Sp.cells s)]) := HF.out.alloc _ _
  generalize wk2.alloc (.cells (Sp.cells s) 39) = wk4 at HF ⊢
  generalize wk2.heap.size = gk3 at HF ⊢
  refine uR (pV wk4.heap.size 0) (wk4.alloc (.cells (Cm.cells c0) 28)) (exec_box 28 _ rfl (Cm.cells c0) (by kernel_rfl)) ?_
  try simp only [pS]
  have HF : Hid (Fq No w (wk4.alloc (.cells (Cm.cells c0) 28)) [(gk1, 142, In.cells ⟨p, a, c, false⟩), (gk3, 39, Sp.cells s), (wk4.heap.size, 28, Cm.cells c0)]) := HF.out.alloc _ _
  generalize wk4.alloc (.cells (Cm.cells c0) 28) = wk6 at HF ⊢
  generalize wk4.heap.size = gk5 at HF ⊢
  refine uR (pV wk6.heap.size 0) (wk6.alloc (.cells (In.cells inZ) 142)) (exec_alloc 142 rfl (In.cells inZ) Z142) ?_
  try simp only [pS]
  have HF : Hid (Fq No w (wk6.alloc (.cells (In.cells inZ) 142)) [(gk1, 142, In.cells ⟨p, a, c, false⟩), (gk3, 39, Sp.cells s), (gk5, 28, Cm.cells c0), (wk6.heap.size, 142, In.cells inZ)]) := HF.out.alloc _ _
  generalize wk6.alloc (.cells (In.cells inZ) 142) = wk8 at HF ⊢
  generalize wk6.heap.size = gk7 at HF ⊢
  refine uR (pV wk8.heap.size 0) (wk8.alloc (.cells (Mg.cells mgZ) 47)) (exec_alloc 47 rfl (Mg.cells mgZ) Z47) ?_
  try simp only [pS]
  have HF : Hid (Fq No w (wk8.alloc (.cells (Mg.cells mgZ) 47)) [(gk1, 142, In.cells ⟨p, a, c, false⟩), (gk3, 39, Sp.cells s), (gk5, 28, Cm.cells c0), (gk7, 142, In.cells inZ), (wk8.heap.size, 47, Mg.cells mgZ)]) := HF.out.alloc _ _
  generalize wk8.alloc (.cells (Mg.cells mgZ) 47) = wk10 at HF ⊢
  generalize wk8.heap.size = gk9 at HF ⊢
  refine uK (.bool false) <| WL.nil <| ?_
  try simp only [pS]
  go_upto_region 1 with fail
  refine WL.start <| uL 142 ⟨gk1, 0, none⟩ (.agg (In.cells ⟨p, a, c, false⟩)) (run_load_part (cs := In.cs ⟨p, a, c, false⟩) (sub := In.cs ⟨p, a, c, false⟩) (HF.out.box 0 _ _ _ rfl) (Part.all _) U142 rfl S142) <| uL 39 ⟨gk3, 0, none⟩ (.agg (Sp.cells s)) (run_load_part (cs := Sp.cs s) (sub := Sp.cs s) (HF.out.box 1 _ _ _ rfl) (Part.all _) U39 rfl S39) <| ?_
  try simp only [pS]
  refine uC 87 #[.agg (In.cells ⟨p, a, c, false⟩), .agg (Sp.cells s)] (ref_l p a c s _ hl) ?_
  rintro e wk11 ⟨rfl, hk⟩
  have HF : Hid (Fq No w (wk11) [(gk1, 142, In.cells ⟨p, a, c, false⟩), (gk3, 39, Sp.cells s), (gk5, 28, Cm.cells c0), (gk7, 142, In.cells inZ), (gk9, 47, Mg.cells mgZ)]) := HF.out.no hk
  clear hk
  refine ⟨.tuple #[.agg (Mg.cells (mM 14 p spZ cZ)), .bool true], rfl, ?_⟩
  try simp only [pS]
  refine uK (.tuple #[.agg (Mg.cells (mM 14 p spZ cZ)), .bool true]) <| uK (.agg (Mg.cells (mM 14 p spZ cZ))) <| uK (.bool true) <| ?_
  try simp only [pS]
  refine uR (pV wk11.heap.size 0) (wk11.alloc (.cells (Mg.cells mgZ) 47)) (exec_alloc 47 rfl (Mg.cells mgZ) Z47) ?_
  try simp only [pS]
  have HF : Hid (Fq No w (wk11.alloc (.cells (Mg.cells mgZ) 47)) [(gk1, 142, In.cells ⟨p, a, c, false⟩), (gk3, 39, Sp.cells s), (gk5, 28, Cm.cells c0), (gk7, 142, In.cells inZ), (gk9, 47, Mg.cells mgZ), (wk11.heap.size, 47, Mg.cells mgZ)]) := HF.out.alloc _ _
  generalize wk11.alloc (.cells (Mg.cells mgZ) 47) = wk13 at HF ⊢
  generalize wk11.heap.size = gk12 at HF ⊢
  refine uT 47 ⟨gk12, 0, none⟩ (.agg (Mg.cells (mM 14 p spZ cZ))) (wk13.setRow gk12 (Mg.cells (mM 14 p spZ cZ))) (rs (Mg.cs mgZ) (Mg.cs (mM 14 p spZ cZ)) (Mg.cs (mM 14 p spZ cZ)) (HF.out.box 5 _ _ _ rfl) S47 (Mg.oneL _)) ?_
  try simp only [pS]
  have HF : Hid (Fq No w (wk13.setRow gk12 (Mg.cells (mM 14 p spZ cZ))) [(gk1, 142, In.cells ⟨p, a, c, false⟩), (gk3, 39, Sp.cells s), (gk5, 28, Cm.cells c0), (gk7, 142, In.cells inZ), (gk9, 47, Mg.cells mgZ), (gk12, 47, Mg.cells (mM 14 p spZ cZ))]) := HF.out.set 5 rfl _
  generalize wk13.setRow gk12 (Mg.cells (mM 14 p spZ cZ)) = wk14 at HF ⊢
  refine uK (.bool true) <| WL.nil <| ?_
  try simp only [pS]
  go_upto_region 2 with fail
  refine WL.start <| uK (.bool true) <| WL.nil <| ?_
  try simp only [pS]
  go_upto_region 3 with fail
  refine wp_region_held_drew (S := fun w' => Box w' gk1 142 (In.cells ⟨p, a, c, false⟩) ∧ Box w' gk12 47 (Mg.cells (mM 14 p spZ cZ))) rfl ⟨HF.out.box 0 _ _ _ rfl, HF.out.box 5 _ _ _ rfl⟩ (fun hH => ?_)
  have HF : Hid (Fq No w (wk14.drew) [(gk1, 142, In.cells ⟨p, a, c, false⟩), (gk3, 39, Sp.cells s), (gk5, 28, Cm.cells c0), (gk7, 142, In.cells inZ), (gk9, 47, Mg.cells mgZ), (gk12, 47, Mg.cells (mM 14 p spZ cZ))]) := HF.out.drew
  generalize wk14.drew = wk15 at HF hH ⊢
  refine xL 0 19 142 ⟨gk1, 0, none⟩ (.agg (In.cells ⟨p, a, c, false⟩)) (fun _ hw => run_load_part (cs := In.cs ⟨p, a, c, false⟩) (sub := In.cs ⟨p, a, c, false⟩) (hw.1) (Part.all _) U142 rfl S142) hH <| xL 1 20 47 ⟨gk12, 0, none⟩ (.agg (Mg.cells (mM 14 p spZ cZ))) (fun _ hw => run_load_part (cs := Mg.cs (mM 14 p spZ cZ)) (sub := Mg.cs (mM 14 p spZ cZ)) (hw.2) (Part.all _) U47 rfl S47) hH <| ?_
  try simp only [pS]
  refine xS 2 142 ⟨gk7, 0, none⟩ (.agg (In.cells ⟨p, a, c, false⟩)) (w' := wk15.setRow gk7 (In.cells ⟨p, a, c, false⟩)) (rs (In.cs inZ) (In.cs ⟨p, a, c, false⟩) (In.cs ⟨p, a, c, false⟩) (HF.out.box 3 _ _ _ rfl) S142 (In.oneL _)) (⟨hH.1.rowNe (HF.out.ne 0 3 rfl rfl (by simp)) _, hH.2.rowNe (HF.out.ne 5 3 rfl rfl (by simp)) _⟩) (fun hH => ?_)
  try simp only [pS]
  have HF : Hid (Fq No w (wk15.setRow gk7 (In.cells ⟨p, a, c, false⟩)) [(gk1, 142, In.cells ⟨p, a, c, false⟩), (gk3, 39, Sp.cells s), (gk5, 28, Cm.cells c0), (gk7, 142, In.cells ⟨p, a, c, false⟩), (gk9, 47, Mg.cells mgZ), (gk12, 47, Mg.cells (mM 14 p spZ cZ))]) := HF.out.set 3 rfl _
  generalize wk15.setRow gk7 (In.cells ⟨p, a, c, false⟩) = wk16 at HF hH ⊢
  refine xS 3 47 ⟨gk9, 0, none⟩ (.agg (Mg.cells (mM 14 p spZ cZ))) (w' := wk16.setRow gk9 (Mg.cells (mM 14 p spZ cZ))) (rs (Mg.cs mgZ) (Mg.cs (mM 14 p spZ cZ)) (Mg.cs (mM 14 p spZ cZ)) (HF.out.box 4 _ _ _ rfl) S47 (Mg.oneL _)) (⟨hH.1.rowNe (HF.out.ne 0 4 rfl rfl (by simp)) _, hH.2.rowNe (HF.out.ne 5 4 rfl rfl (by simp)) _⟩) (fun hH => ?_)
  try simp only [pS]
  have HF : Hid (Fq No w (wk16.setRow gk9 (Mg.cells (mM 14 p spZ cZ))) [(gk1, 142, In.cells ⟨p, a, c, false⟩), (gk3, 39, Sp.cells s), (gk5, 28, Cm.cells c0), (gk7, 142, In.cells ⟨p, a, c, false⟩), (gk9, 47, Mg.cells (mM 14 p spZ cZ)), (gk12, 47, Mg.cells (mM 14 p spZ cZ))]) := HF.out.set 4 rfl _
  generalize wk16.setRow gk9 (Mg.cells (mM 14 p spZ cZ)) = wk17 at HF hH ⊢
  refine xV 4 8 (.bool false) hH ?_
  try simp only [pS]
  refine wpAnyH_done (by kernel_rfl) ?_ _
  try simp only [pS]
  clear hH
  go_wp2
  rw [HC.out]
  refine bodyPost_ret (results_row2_tmp (by rfl) _ _ gk7 gk9 (In.cells ⟨p, a, c, false⟩) (Mg.cells (mM 14 p spZ cZ)) (by rfl) (by rfl) (run_load_part (cs := In.cs ⟨p, a, c, false⟩) (sub := In.cs ⟨p, a, c, false⟩) (HF.out.box 3 _ _ _ rfl) (Part.all _) U142 rfl S142) (run_load_part (cs := Mg.cs (mM 14 p spZ cZ)) (sub := Mg.cs (mM 14 p spZ cZ)) (HF.out.box 4 _ _ _ rfl) (Part.all _) U47 rfl S47)) rfl ?_
  exact ⟨_, rfl, HF.out.kept⟩
set_option maxRecDepth 100000 in
set_option maxHeartbeats 4000000 in
theorem acc_n (p a : Sp) (c : Cm) (s : Sp) (c0 : Cm) (w : World) (hl : ltV s p = false) : Calls Try.prog 70 #[.agg (In.cells ⟨p, a, c, false⟩), .agg (Sp.cells s), .agg (Cm.cells c0)] w (fun e w' => ∃ b, e = .returned (.tuple #[.agg (In.cells ⟨s, s, c0, false⟩), .agg (Mg.cells (mM 15 s spZ cZ)), .bool b]) ∧ Kept No w w') := by
  refine hideC fun C HC => ?_
  have HF : Hid (Fq No w w []) := Fq.start _ _
  go_enter Try.func70, Try.ntmps70
  go_upto_region 0 with fail
  refine WL.start ?_
  refine uR (pV w.heap.size 0) (w.alloc (.cells (In.cells ⟨p, a, c, false⟩) 142)) (exec_box 142 _ rfl (In.cells ⟨p, a, c, false⟩) (by kernel_rfl)) ?_
  try simp only [pS]
  have HF : Hid (Fq No w (w.alloc (.cells (In.cells ⟨p, a, c, false⟩) 142)) [(w.heap.size, 142, In.cells ⟨p, a, c, false⟩)]) := HF.out.alloc _ _
  generalize w.alloc (.cells (In.cells ⟨p, a, c, false⟩) 142) = wk2 at HF ⊢
  generalize w.heap.size = gk1 at HF ⊢
  refine uR (pV wk2.heap.size 0) (wk2.alloc (.cells (Sp.cells s) 39)) (exec_box 39 _ rfl (Sp.cells s) (by kernel_rfl)) ?_
  try simp only [pS]
  have HF : Hid (Fq No w (wk2.alloc (.cells (Sp.cells s) 39)) [(gk1, 142, In.cells ⟨p, a, c, false⟩), (wk2.heap.size, 39, Sp.cells s)]) := HF.out.alloc _ _
  generalize wk2.alloc (.cells (Sp.cells s) 39) = wk4 at HF ⊢
  generalize wk2.heap.size = gk3 at HF ⊢
  refine uR (pV wk4.heap.size 0) (wk4.alloc (.cells (Cm.cells c0) 28)) (exec_box 28 _ rfl (Cm.cells c0) (by kernel_rfl)) ?_
  try simp only [pS]
  have HF : Hid (Fq No w (wk4.alloc (.cells (Cm.cells c0) 28)) [(gk1, 142, In.cells ⟨p, a, c, false⟩), (gk3, 39, Sp.cells s), (wk4.heap.size, 28, Cm.cells c0)]) := HF.out.alloc _ _
  generalize wk4.alloc (.cells (Cm.cells c0) 28) = wk6 at HF ⊢
  generalize wk4.heap.size = gk5 at HF ⊢
  refine uR (pV wk6.heap.size 0) (wk6.alloc (.cells (In.cells inZ) 142)) (exec_alloc 142 rfl (In.cells inZ) Z142) ?_
  try simp only [pS]
  have HF : Hid (Fq No w (wk6.alloc (.cells (In.cells inZ) 142)) [(gk1, 142, In.cells ⟨p, a, c, false⟩), (gk3, 39, Sp.cells s), (gk5, 28, Cm.cells c0), (wk6.heap.size, 142, In.cells inZ)]) := HF.out.alloc _ _
  generalize wk6.alloc (.cells (In.cells inZ) 142) = wk8 at HF ⊢
  generalize wk6.heap.size = gk7 at HF ⊢
  refine uR (pV wk8.heap.size 0) (wk8.alloc (.cells (Mg.cells mgZ) 47)) (exec_alloc 47 rfl (Mg.cells mgZ) Z47) ?_
  try simp only [pS]
  have HF : Hid (Fq No w (wk8.alloc (.cells (Mg.cells mgZ) 47)) [(gk1, 142, In.cells ⟨p, a, c, false⟩), (gk3, 39, Sp.cells s), (gk5, 28, Cm.cells c0), (gk7, 142, In.cells inZ), (wk8.heap.size, 47, Mg.cells mgZ)]) := HF.out.alloc _ _
  generalize wk8.alloc (.cells (Mg.cells mgZ) 47) = wk10 at HF ⊢
  generalize wk8.heap.size = gk9 at HF ⊢
  refine uK (.bool false) <| WL.nil <| ?_
  try simp only [pS]
  go_upto_region 1 with fail
  refine WL.start <| uL 142 ⟨gk1, 0, none⟩ (.agg (In.cells ⟨p, a, c, false⟩)) (run_load_part (cs := In.cs ⟨p, a, c, false⟩) (sub := In.cs ⟨p, a, c, false⟩) (HF.out.box 0 _ _ _ rfl) (Part.all _) U142 rfl S142) <| uL 39 ⟨gk3, 0, none⟩ (.agg (Sp.cells s)) (run_load_part (cs := Sp.cs s) (sub := Sp.cs s) (HF.out.box 1 _ _ _ rfl) (Part.all _) U39 rfl S39) <| ?_
  try simp only [pS]
  refine uC 87 #[.agg (In.cells ⟨p, a, c, false⟩), .agg (Sp.cells s)] (ref_n p a c s _ hl) ?_
  rintro e wk11 ⟨rfl, hk⟩
  have HF : Hid (Fq No w (wk11) [(gk1, 142, In.cells ⟨p, a, c, false⟩), (gk3, 39, Sp.cells s), (gk5, 28, Cm.cells c0), (gk7, 142, In.cells inZ), (gk9, 47, Mg.cells mgZ)]) := HF.out.no hk
  clear hk
  refine ⟨.tuple #[.agg (Mg.cells mgZ), .bool false], rfl, ?_⟩
  try simp only [pS]
  refine uK (.tuple #[.agg (Mg.cells mgZ), .bool false]) <| uK (.agg (Mg.cells mgZ)) <| uK (.bool false) <| ?_
  try simp only [pS]
  refine uR (pV wk11.heap.size 0) (wk11.alloc (.cells (Mg.cells mgZ) 47)) (exec_alloc 47 rfl (Mg.cells mgZ) Z47) ?_
  try simp only [pS]
  have HF : Hid (Fq No w (wk11.alloc (.cells (Mg.cells mgZ) 47)) [(gk1, 142, In.cells ⟨p, a, c, false⟩), (gk3, 39, Sp.cells s), (gk5, 28, Cm.cells c0), (gk7, 142, In.cells inZ), (gk9, 47, Mg.cells mgZ), (wk11.heap.size, 47, Mg.cells mgZ)]) := HF.out.alloc _ _
  generalize wk11.alloc (.cells (Mg.cells mgZ) 47) = wk13 at HF ⊢
  generalize wk11.heap.size = gk12 at HF ⊢
  refine uT 47 ⟨gk12, 0, none⟩ (.agg (Mg.cells mgZ)) (wk13.setRow gk12 (Mg.cells mgZ)) (rs (Mg.cs mgZ) (Mg.cs mgZ) (Mg.cs mgZ) (HF.out.box 5 _ _ _ rfl) S47 (Mg.oneL _)) ?_
  try simp only [pS]
  have HF : Hid (Fq No w (wk13.setRow gk12 (Mg.cells mgZ)) [(gk1, 142, In.cells ⟨p, a, c, false⟩), (gk3, 39, Sp.cells s), (gk5, 28, Cm.cells c0), (gk7, 142, In.cells inZ), (gk9, 47, Mg.cells mgZ), (gk12, 47, Mg.cells mgZ)]) := HF.out.set 5 rfl _
  generalize wk13.setRow gk12 (Mg.cells mgZ) = wk14 at HF ⊢
  refine uK (.bool false) <| WL.nil <| ?_
  try simp only [pS]
  go_upto_region 2 with fail
  refine WL.start <| uK (.bool false) <| WL.nil <| ?_
  try simp only [pS]
  go_upto_region 4 with fail
  refine WL.start <| uL 39 ⟨gk3, 0, none⟩ (.agg (Sp.cells s)) (run_load_part (cs := Sp.cs s) (sub := Sp.cs s) (HF.out.box 1 _ _ _ rfl) (Part.all _) U39 rfl S39) <| uL 39 ⟨gk3, 0, none⟩ (.agg (Sp.cells s)) (run_load_part (cs := Sp.cs s) (sub := Sp.cs s) (HF.out.box 1 _ _ _ rfl) (Part.all _) U39 rfl S39) <| uL 28 ⟨gk5, 0, none⟩ (.agg (Cm.cells c0)) (run_load_part (cs := Cm.cs c0) (sub := Cm.cs c0) (HF.out.box 2 _ _ _ rfl) (Part.all _) U28 rfl S28) <| uW (.agg (In.cells ⟨s, s, c0, false⟩)) (exec_build 142 _ rfl (In.cells ⟨s, s, c0, false⟩) (by kernel_rfl)) <| ?_
  try simp only [pS]
  refine uR (pV wk14.heap.size 0) (wk14.alloc (.cells (In.cells inZ) 142)) (exec_alloc 142 rfl (In.cells inZ) Z142) ?_
  try simp only [pS]
  have HF : Hid (Fq No w (wk14.alloc (.cells (In.cells inZ) 142)) [(gk1, 142, In.cells ⟨p, a, c, false⟩), (gk3, 39, Sp.cells s), (gk5, 28, Cm.cells c0), (gk7, 142, In.cells inZ), (gk9, 47, Mg.cells mgZ), (gk12, 47, Mg.cells mgZ), (wk14.heap.size, 142, In.cells inZ)]) := HF.out.alloc _ _
  generalize wk14.alloc (.cells (In.cells inZ) 142) = wk16 at HF ⊢
  generalize wk14.heap.size = gk15 at HF ⊢
  refine uT 142 ⟨gk15, 0, none⟩ (.agg (In.cells ⟨s, s, c0, false⟩)) (wk16.setRow gk15 (In.cells ⟨s, s, c0, false⟩)) (rs (In.cs inZ) (In.cs ⟨s, s, c0, false⟩) (In.cs ⟨s, s, c0, false⟩) (HF.out.box 6 _ _ _ rfl) S142 (In.oneL _)) ?_
  try simp only [pS]
  have HF : Hid (Fq No w (wk16.setRow gk15 (In.cells ⟨s, s, c0, false⟩)) [(gk1, 142, In.cells ⟨p, a, c, false⟩), (gk3, 39, Sp.cells s), (gk5, 28, Cm.cells c0), (gk7, 142, In.cells inZ), (gk9, 47, Mg.cells mgZ), (gk12, 47, Mg.cells mgZ), (gk15, 142, In.cells ⟨s, s, c0, false⟩)]) := HF.out.set 6 rfl _
  generalize wk16.setRow gk15 (In.cells ⟨s, s, c0, false⟩) = wk17 at HF ⊢
  refine WL.nil ?_
  try simp only [pS]
  go_upto_region 5 with fail
  refine wp_region_held_drew (S := fun w' => Box w' gk1 142 (In.cells ⟨p, a, c, false⟩) ∧ Box w' gk3 39 (Sp.cells s) ∧ Box w' gk15 142 (In.cells ⟨s, s, c0, false⟩)) rfl ⟨HF.out.box 0 _ _ _ rfl, HF.out.box 1 _ _ _ rfl, HF.out.box 6 _ _ _ rfl⟩ (fun hH => ?_)
  have HF : Hid (Fq No w (wk17.drew) [(gk1, 142, In.cells ⟨p, a, c, false⟩), (gk3, 39, Sp.cells s), (gk5, 28, Cm.cells c0), (gk7, 142, In.cells inZ), (gk9, 47, Mg.cells mgZ), (gk12, 47, Mg.cells mgZ), (gk15, 142, In.cells ⟨s, s, c0, false⟩)]) := HF.out.drew
  generalize wk17.drew = wk18 at HF hH ⊢
  refine xL 0 25 142 ⟨gk15, 0, none⟩ (.agg (In.cells ⟨s, s, c0, false⟩)) (fun _ hw => run_load_part (cs := In.cs ⟨s, s, c0, false⟩) (sub := In.cs ⟨s, s, c0, false⟩) (hw.2.2) (Part.all _) U142 rfl S142) hH <| xL 1 26 39 ⟨gk3, 0, none⟩ (.agg (Sp.cells s)) (fun _ hw => run_load_part (cs := Sp.cs s) (sub := Sp.cs s) (hw.2.1) (Part.all _) U39 rfl S39) hH <| xU 2 27 (.agg (Mg.cells ⟨15, adZ, adZ, 0, 0, kyZ, s, spZ, slZ, cZ, bvZ, slZ, false⟩)) (fun w' hw => exec_build 47 _ rfl (Mg.cells ⟨15, adZ, adZ, 0, 0, kyZ, s, spZ, slZ, cZ, bvZ, slZ, false⟩) (by kernel_rfl)) hH <| xL 3 28 142 ⟨gk15, 0, none⟩ (.agg (In.cells ⟨s, s, c0, false⟩)) (fun _ hw => run_load_part (cs := In.cs ⟨s, s, c0, false⟩) (sub := In.cs ⟨s, s, c0, false⟩) (hw.2.2) (Part.all _) U142 rfl S142) hH <| xL 4 29 142 ⟨gk1, 0, none⟩ (.agg (In.cells ⟨p, a, c, false⟩)) (fun _ hw => run_load_part (cs := In.cs ⟨p, a, c, false⟩) (sub := In.cs ⟨p, a, c, false⟩) (hw.1) (Part.all _) U142 rfl S142) hH <| xB 5 30 .neq 142 (.agg (In.cells ⟨s, s, c0, false⟩)) (.agg (In.cells ⟨p, a, c, false⟩)) (.bool (!Ytpabpeppgpeaoaa.eqI (uI ⟨s, s, c0, false⟩) (uI ⟨p, a, c, false⟩))) (fun _ _ => neqI (uI ⟨s, s, c0, false⟩) (uI ⟨p, a, c, false⟩) _) hH <| ?_
  try simp only [pS]
  refine xS 6 142 ⟨gk7, 0, none⟩ (.agg (In.cells ⟨s, s, c0, false⟩)) (w' := wk18.setRow gk7 (In.cells ⟨s, s, c0, false⟩)) (rs (In.cs inZ) (In.cs ⟨s, s, c0, false⟩) (In.cs ⟨s, s, c0, false⟩) (HF.out.box 3 _ _ _ rfl) S142 (In.oneL _)) (⟨hH.1.rowNe (HF.out.ne 0 3 rfl rfl (by simp)) _, hH.2.1.rowNe (HF.out.ne 1 3 rfl rfl (by simp)) _, hH.2.2.rowNe (HF.out.ne 6 3 rfl rfl (by simp)) _⟩) (fun hH => ?_)
  try simp only [pS]
  have HF : Hid (Fq No w (wk18.setRow gk7 (In.cells ⟨s, s, c0, false⟩)) [(gk1, 142, In.cells ⟨p, a, c, false⟩), (gk3, 39, Sp.cells s), (gk5, 28, Cm.cells c0), (gk7, 142, In.cells ⟨s, s, c0, false⟩), (gk9, 47, Mg.cells mgZ), (gk12, 47, Mg.cells mgZ), (gk15, 142, In.cells ⟨s, s, c0, false⟩)]) := HF.out.set 3 rfl _
  generalize wk18.setRow gk7 (In.cells ⟨s, s, c0, false⟩) = wk19 at HF hH ⊢
  refine xS 7 47 ⟨gk9, 0, none⟩ (.agg (Mg.cells ⟨15, adZ, adZ, 0, 0, kyZ, s, spZ, slZ, cZ, bvZ, slZ, false⟩)) (w' := wk19.setRow gk9 (Mg.cells ⟨15, adZ, adZ, 0, 0, kyZ, s, spZ, slZ, cZ, bvZ, slZ, false⟩)) (rs (Mg.cs mgZ) (Mg.cs ⟨15, adZ, adZ, 0, 0, kyZ, s, spZ, slZ, cZ, bvZ, slZ, false⟩) (Mg.cs ⟨15, adZ, adZ, 0, 0, kyZ, s, spZ, slZ, cZ, bvZ, slZ, false⟩) (HF.out.box 4 _ _ _ rfl) S47 (Mg.oneL _)) (⟨hH.1.rowNe (HF.out.ne 0 4 rfl rfl (by simp)) _, hH.2.1.rowNe (HF.out.ne 1 4 rfl rfl (by simp)) _, hH.2.2.rowNe (HF.out.ne 6 4 rfl rfl (by simp)) _⟩) (fun hH => ?_)
  try simp only [pS]
  have HF : Hid (Fq No w (wk19.setRow gk9 (Mg.cells ⟨15, adZ, adZ, 0, 0, kyZ, s, spZ, slZ, cZ, bvZ, slZ, false⟩)) [(gk1, 142, In.cells ⟨p, a, c, false⟩), (gk3, 39, Sp.cells s), (gk5, 28, Cm.cells c0), (gk7, 142, In.cells ⟨s, s, c0, false⟩), (gk9, 47, Mg.cells ⟨15, adZ, adZ, 0, 0, kyZ, s, spZ, slZ, cZ, bvZ, slZ, false⟩), (gk12, 47, Mg.cells mgZ), (gk15, 142, In.cells ⟨s, s, c0, false⟩)]) := HF.out.set 4 rfl _
  generalize wk19.setRow gk9 (Mg.cells ⟨15, adZ, adZ, 0, 0, kyZ, s, spZ, slZ, cZ, bvZ, slZ, false⟩) = wk20 at HF hH ⊢
  refine xV 8 8 (.bool (!Ytpabpeppgpeaoaa.eqI (uI ⟨s, s, c0, false⟩) (uI ⟨p, a, c, false⟩))) hH ?_
  try simp only [pS]
  refine wpAnyH_done (by kernel_rfl) ?_ _
  try simp only [pS]
  clear hH
  go_wp2
  rw [HC.out]
  refine bodyPost_ret (results_row2_tmp (by rfl) _ _ gk7 gk9 (In.cells ⟨s, s, c0, false⟩) (Mg.cells ⟨15, adZ, adZ, 0, 0, kyZ, s, spZ, slZ, cZ, bvZ, slZ, false⟩) (by rfl) (by rfl) (run_load_part (cs := In.cs ⟨s, s, c0, false⟩) (sub := In.cs ⟨s, s, c0, false⟩) (HF.out.box 3 _ _ _ rfl) (Part.all _) U142 rfl S142) (run_load_part (cs := Mg.cs ⟨15, adZ, adZ, 0, 0, kyZ, s, spZ, slZ, cZ, bvZ, slZ, false⟩) (sub := Mg.cs ⟨15, adZ, adZ, 0, 0, kyZ, s, spZ, slZ, cZ, bvZ, slZ, false⟩) (HF.out.box 4 _ _ _ rfl) (Part.all _) U47 rfl S47)) rfl ?_
  exact ⟨_, rfl, HF.out.kept⟩
set_option maxRecDepth 100000 in
set_option maxHeartbeats 4000000 in
theorem lrn_d (p a : Sp) (c c0 : Cm) (w : World) : Calls Try.prog 71 #[.agg (In.cells ⟨p, a, c, true⟩), .agg (Cm.cells c0)] w (fun e w' => ∃ b, e = .returned (.tuple #[.agg (In.cells ⟨p, a, c, true⟩), .bool b]) ∧ Kept No w w') := by
  refine hideC fun C HC => ?_
  have HF : Hid (Fq No w w []) := Fq.start _ _
  go_enter Try.func71, Try.ntmps71
  go_upto_region 0 with fail
  refine WL.start ?_
  refine uR (pV w.heap.size 0) (w.alloc (.cells (In.cells ⟨p, a, c, true⟩) 142)) (exec_box 142 _ rfl (In.cells ⟨p, a, c, true⟩) (by kernel_rfl)) ?_
  try simp only [pS]
  have HF : Hid (Fq No w (w.alloc (.cells (In.cells ⟨p, a, c, true⟩) 142)) [(w.heap.size, 142, In.cells ⟨p, a, c, true⟩)]) := HF.out.alloc _ _
  generalize w.alloc (.cells (In.cells ⟨p, a, c, true⟩) 142) = wk2 at HF ⊢
  generalize w.heap.size = gk1 at HF ⊢
  refine uR (pV wk2.heap.size 0) (wk2.alloc (.cells (Cm.cells c0) 28)) (exec_box 28 _ rfl (Cm.cells c0) (by kernel_rfl)) ?_
  try simp only [pS]
  have HF : Hid (Fq No w (wk2.alloc (.cells (Cm.cells c0) 28)) [(gk1, 142, In.cells ⟨p, a, c, true⟩), (wk2.heap.size, 28, Cm.cells c0)]) := HF.out.alloc _ _
  generalize wk2.alloc (.cells (Cm.cells c0) 28) = wk4 at HF ⊢
  generalize wk2.heap.size = gk3 at HF ⊢
  refine uR (pV wk4.heap.size 0) (wk4.alloc (.cells (In.cells inZ) 142)) (exec_alloc 142 rfl (In.cells inZ) Z142) ?_
  try simp only [pS]
  have HF : Hid (Fq No w (wk4.alloc (.cells (In.cells inZ) 142)) [(gk1, 142, In.cells ⟨p, a, c, true⟩), (gk3, 28, Cm.cells c0), (wk4.heap.size, 142, In.cells inZ)]) := HF.out.alloc _ _
  generalize wk4.alloc (.cells (In.cells inZ) 142) = wk6 at HF ⊢
  generalize wk4.heap.size = gk5 at HF ⊢
  refine uK (.bool false) <| WL.nil <| ?_
  try simp only [pS]
  go_upto_region 1 with fail
  refine WL.start <| uK (pV gk1 13) <| uL 4 ⟨gk1, 13, none⟩ (.bool true) (load_one ((HF.out.box 0 _ _ _ rfl).cell 13 |>.trans (by kernel_rfl)) U4 rfl) <| WL.nil <| ?_
  try simp only [pS]
  go_upto_region 2 with fail
  refine WL.start <| uL 142 ⟨gk1, 0, none⟩ (.agg (In.cells ⟨p, a, c, true⟩)) (run_load_part (cs := In.cs ⟨p, a, c, true⟩) (sub := In.cs ⟨p, a, c, true⟩) (HF.out.box 0 _ _ _ rfl) (Part.all _) U142 rfl S142) <| ?_
  try simp only [pS]
  refine uT 142 ⟨gk5, 0, none⟩ (.agg (In.cells ⟨p, a, c, true⟩)) (wk6.setRow gk5 (In.cells ⟨p, a, c, true⟩)) (rs (In.cs inZ) (In.cs ⟨p, a, c, true⟩) (In.cs ⟨p, a, c, true⟩) (HF.out.box 2 _ _ _ rfl) S142 (In.oneL _)) ?_
  try simp only [pS]
  have HF : Hid (Fq No w (wk6.setRow gk5 (In.cells ⟨p, a, c, true⟩)) [(gk1, 142, In.cells ⟨p, a, c, true⟩), (gk3, 28, Cm.cells c0), (gk5, 142, In.cells ⟨p, a, c, true⟩)]) := HF.out.set 2 rfl _
  generalize wk6.setRow gk5 (In.cells ⟨p, a, c, true⟩) = wk7 at HF ⊢
  refine uK (.bool false) <| WL.nil <| ?_
  try simp only [pS]
  go_wp2
  rw [HC.out]
  refine bodyPost_ret (results_row_tmp (by rfl) _ _ gk5 (In.cells ⟨p, a, c, true⟩) (by rfl) (run_load_part (cs := In.cs ⟨p, a, c, true⟩) (sub := In.cs ⟨p, a, c, true⟩) (HF.out.box 2 _ _ _ rfl) (Part.all _) U142 rfl S142)) rfl ?_
  exact ⟨_, rfl, HF.out.kept⟩
set_option maxRecDepth 100000 in
set_option maxHeartbeats 4000000 in
theorem lrn_n (p a : Sp) (c c0 : Cm) (w : World) : Calls Try.prog 71 #[.agg (In.cells ⟨p, a, c, false⟩), .agg (Cm.cells c0)] w (fun e w' => ∃ b, e = .returned (.tuple #[.agg (In.cells ⟨spZ, spZ, c0, true⟩), .bool b]) ∧ Kept No w w') := by
  refine hideC fun C HC => ?_
  have HF : Hid (Fq No w w []) := Fq.start _ _
  go_enter Try.func71, Try.ntmps71
  go_upto_region 0 with fail
  refine WL.start ?_
  refine uR (pV w.heap.size 0) (w.alloc (.cells (In.cells ⟨p, a, c, false⟩) 142)) (exec_box 142 _ rfl (In.cells ⟨p, a, c, false⟩) (by kernel_rfl)) ?_
  try simp only [pS]
  have HF : Hid (Fq No w (w.alloc (.cells (In.cells ⟨p, a, c, false⟩) 142)) [(w.heap.size, 142, In.cells ⟨p, a, c, false⟩)]) := HF.out.alloc _ _
  generalize w.alloc (.cells (In.cells ⟨p, a, c, false⟩) 142) = wk2 at HF ⊢
  generalize w.heap.size = gk1 at HF ⊢
  refine uR (pV wk2.heap.size 0) (wk2.alloc (.cells (Cm.cells c0) 28)) (exec_box 28 _ rfl (Cm.cells c0) (by kernel_rfl)) ?_
  try simp only [pS]
  have HF : Hid (Fq No w (wk2.alloc (.cells (Cm.cells c0) 28)) [(gk1, 142, In.cells ⟨p, a, c, false⟩), (wk2.heap.size, 28, Cm.cells c0)]) := HF.out.alloc _ _
  generalize wk2.alloc (.cells (Cm.cells c0) 28) = wk4 at HF ⊢
  generalize wk2.heap.size = gk3 at HF ⊢
  refine uR (pV wk4.heap.size 0) (wk4.alloc (.cells (In.cells inZ) 142)) (exec_alloc 142 rfl (In.cells inZ) Z142) ?_
  try simp only [pS]
  have HF : Hid (Fq No w (wk4.alloc (.cells (In.cells inZ) 142)) [(gk1, 142, In.cells ⟨p, a, c, false⟩), (gk3, 28, Cm.cells c0), (wk4.heap.size, 142, In.cells inZ)]) := HF.out.alloc _ _
  generalize wk4.alloc (.cells (In.cells inZ) 142) = wk6 at HF ⊢
  generalize wk4.heap.size = gk5 at HF ⊢
  refine uK (.bool false) <| WL.nil <| ?_
  try simp only [pS]
  go_upto_region 1 with fail
  refine WL.start <| uK (pV gk1 13) <| uL 4 ⟨gk1, 13, none⟩ (.bool false) (load_one ((HF.out.box 0 _ _ _ rfl).cell 13 |>.trans (by kernel_rfl)) U4 rfl) <| WL.nil <| ?_
  try simp only [pS]
  go_upto_region 3 with fail
  refine WL.start <| uL 28 ⟨gk3, 0, none⟩ (.agg (Cm.cells c0)) (run_load_part (cs := Cm.cs c0) (sub := Cm.cs c0) (HF.out.box 1 _ _ _ rfl) (Part.all _) U28 rfl S28) <| uW (.agg (In.cells ⟨spZ, spZ, c0, true⟩)) (exec_build 142 _ rfl (In.cells ⟨spZ, spZ, c0, true⟩) (by kernel_rfl)) <| ?_
  try simp only [pS]
  refine uR (pV wk6.heap.size 0) (wk6.alloc (.cells (In.cells inZ) 142)) (exec_alloc 142 rfl (In.cells inZ) Z142) ?_
  try simp only [pS]
  have HF : Hid (Fq No w (wk6.alloc (.cells (In.cells inZ) 142)) [(gk1, 142, In.cells ⟨p, a, c, false⟩), (gk3, 28, Cm.cells c0), (gk5, 142, In.cells inZ), (wk6.heap.size, 142, In.cells inZ)]) := HF.out.alloc _ _
  generalize wk6.alloc (.cells (In.cells inZ) 142) = wk8 at HF ⊢
  generalize wk6.heap.size = gk7 at HF ⊢
  refine uT 142 ⟨gk7, 0, none⟩ (.agg (In.cells ⟨spZ, spZ, c0, true⟩)) (wk8.setRow gk7 (In.cells ⟨spZ, spZ, c0, true⟩)) (rs (In.cs inZ) (In.cs ⟨spZ, spZ, c0, true⟩) (In.cs ⟨spZ, spZ, c0, true⟩) (HF.out.box 3 _ _ _ rfl) S142 (In.oneL _)) ?_
  try simp only [pS]
  have HF : Hid (Fq No w (wk8.setRow gk7 (In.cells ⟨spZ, spZ, c0, true⟩)) [(gk1, 142, In.cells ⟨p, a, c, false⟩), (gk3, 28, Cm.cells c0), (gk5, 142, In.cells inZ), (gk7, 142, In.cells ⟨spZ, spZ, c0, true⟩)]) := HF.out.set 3 rfl _
  generalize wk8.setRow gk7 (In.cells ⟨spZ, spZ, c0, true⟩) = wk9 at HF ⊢
  refine WL.nil ?_
  try simp only [pS]
  go_upto_region 4 with fail
  refine wp_region_held_drew (S := fun w' => Box w' gk1 142 (In.cells ⟨p, a, c, false⟩) ∧ Box w' gk7 142 (In.cells ⟨spZ, spZ, c0, true⟩)) rfl ⟨HF.out.box 0 _ _ _ rfl, HF.out.box 3 _ _ _ rfl⟩ (fun hH => ?_)
  have HF : Hid (Fq No w (wk9.drew) [(gk1, 142, In.cells ⟨p, a, c, false⟩), (gk3, 28, Cm.cells c0), (gk5, 142, In.cells inZ), (gk7, 142, In.cells ⟨spZ, spZ, c0, true⟩)]) := HF.out.drew
  generalize wk9.drew = wk10 at HF hH ⊢
  refine xL 0 12 142 ⟨gk7, 0, none⟩ (.agg (In.cells ⟨spZ, spZ, c0, true⟩)) (fun _ hw => run_load_part (cs := In.cs ⟨spZ, spZ, c0, true⟩) (sub := In.cs ⟨spZ, spZ, c0, true⟩) (hw.2) (Part.all _) U142 rfl S142) hH <| xL 1 13 142 ⟨gk7, 0, none⟩ (.agg (In.cells ⟨spZ, spZ, c0, true⟩)) (fun _ hw => run_load_part (cs := In.cs ⟨spZ, spZ, c0, true⟩) (sub := In.cs ⟨spZ, spZ, c0, true⟩) (hw.2) (Part.all _) U142 rfl S142) hH <| xL 2 14 142 ⟨gk1, 0, none⟩ (.agg (In.cells ⟨p, a, c, false⟩)) (fun _ hw => run_load_part (cs := In.cs ⟨p, a, c, false⟩) (sub := In.cs ⟨p, a, c, false⟩) (hw.1) (Part.all _) U142 rfl S142) hH <| xB 3 15 .neq 142 (.agg (In.cells ⟨spZ, spZ, c0, true⟩)) (.agg (In.cells ⟨p, a, c, false⟩)) (.bool (!Ytpabpeppgpeaoaa.eqI (uI ⟨spZ, spZ, c0, true⟩) (uI ⟨p, a, c, false⟩))) (fun _ _ => neqI (uI ⟨spZ, spZ, c0, true⟩) (uI ⟨p, a, c, false⟩) _) hH <| ?_
  try simp only [pS]
  refine xS 4 142 ⟨gk5, 0, none⟩ (.agg (In.cells ⟨spZ, spZ, c0, true⟩)) (w' := wk10.setRow gk5 (In.cells ⟨spZ, spZ, c0, true⟩)) (rs (In.cs inZ) (In.cs ⟨spZ, spZ, c0, true⟩) (In.cs ⟨spZ, spZ, c0, true⟩) (HF.out.box 2 _ _ _ rfl) S142 (In.oneL _)) (⟨hH.1.rowNe (HF.out.ne 0 2 rfl rfl (by simp)) _, hH.2.rowNe (HF.out.ne 3 2 rfl rfl (by simp)) _⟩) (fun hH => ?_)
  try simp only [pS]
  have HF : Hid (Fq No w (wk10.setRow gk5 (In.cells ⟨spZ, spZ, c0, true⟩)) [(gk1, 142, In.cells ⟨p, a, c, false⟩), (gk3, 28, Cm.cells c0), (gk5, 142, In.cells ⟨spZ, spZ, c0, true⟩), (gk7, 142, In.cells ⟨spZ, spZ, c0, true⟩)]) := HF.out.set 2 rfl _
  generalize wk10.setRow gk5 (In.cells ⟨spZ, spZ, c0, true⟩) = wk11 at HF hH ⊢
  refine xV 5 5 (.bool (!Ytpabpeppgpeaoaa.eqI (uI ⟨spZ, spZ, c0, true⟩) (uI ⟨p, a, c, false⟩))) hH ?_
  try simp only [pS]
  refine wpAnyH_done (by kernel_rfl) ?_ _
  try simp only [pS]
  clear hH
  go_wp2
  rw [HC.out]
  refine bodyPost_ret (results_row_tmp (by rfl) _ _ gk5 (In.cells ⟨spZ, spZ, c0, true⟩) (by rfl) (run_load_part (cs := In.cs ⟨spZ, spZ, c0, true⟩) (sub := In.cs ⟨spZ, spZ, c0, true⟩) (HF.out.box 2 _ _ _ rfl) (Part.all _) U142 rfl S142)) rfl ?_
  exact ⟨_, rfl, HF.out.kept⟩

end Go.Proofs.Ytpabpeppgpeaoaa.Md
