import Derived.Test.YthnecaejhnojfaaRe
namespace Go.Proofs.Ythnecaejhnojfaa.Md
open Go.RowKit
set_option linter.unusedVariables false
set_option linter.unusedSimpArgs false

set_option maxRecDepth 100000 in
set_option maxHeartbeats 4000000 in
theorem rPlace0 (r : Nat) (x : Rx) (g an vv : Sl) (m : Mg) (w : World) (hB : RfG w r x g an vv) (h1 : (x.ph == 1) = false) (h2 : (x.ph == 2) = false) : Calls Try.prog 28 #[.pointer (some ⟨r, 0, none⟩), .agg (Mg.cells m)] w (fun e w' => e = .returned (.int .i64 (-1)) ∧ Kept No w w') := by
  obtain ⟨C, hC⟩ : ∃ C : Ending → World → Prop, C = (fun e w' => e = .returned (.int .i64 (-1)) ∧ Kept No w w') := ⟨_, rfl⟩
  have HC : Hid (C = (fun e w' => e = .returned (.int .i64 (-1)) ∧ Kept No w w')) := hC
  rw [← hC]
  clear hC
  have HBr : Hid (Box w r 62 (rvG x g an vv).cells) := hB.box
  have HG : Hid (OwI w 0 g x.zs) := hB.gr
  have hzl := hB.gr.len
  have hnn := hB.hn
  clear hB
  have HF : Hid (Fq No w w []) := Fq.start _ _
  go_enter Try.func28, Try.ntmps28
  go_upto_region 0 with fail
  refine WL.start ?_
  refine uR (.pointer (some ⟨w.heap.size, 0, none⟩)) (w.alloc (.cells (Mg.cells m) 52)) (exec_box 52 _ rfl (Mg.cells m) (by kernel_rfl)) ?_
  try simp only [pS]
  have HF : Hid (Fq No w (w.alloc (.cells (Mg.cells m) 52)) [(w.heap.size, 52, Mg.cells m)]) := HF.out.alloc _ _
  generalize w.alloc (.cells (Mg.cells m) 52) = wk2 at HF ⊢
  generalize w.heap.size = gk1 at HF ⊢
  refine uK (.int .i64 0) <| WL.nil <| ?_
  try simp only [pS]
  go_upto_region 1 with fail
  refine WL.start <| uK (.int .i64 11) <| WL.nil <| ?_
  try simp only [pS]
  go_upto_region 2 with fail
  refine WL.start <| uK (.pointer (some ⟨r, 0, none⟩)) <| uK (.pointer (some ⟨r, 0, none⟩)) <| uK (.pointer (some ⟨r, 11, none⟩)) <| uL 3 ⟨r, 11, none⟩ (.int .i64 x.ph) (load_one ((HBr.out.kept HF.out.kept (fun e => e)).cell 11 |>.trans (by kernel_rfl)) U3 rfl) <| uB .eql 3 (.int .i64 x.ph) (.int .i64 2) (.bool false) (by rw [b_eql, h2]; try rfl) <| WL.nil <| ?_
  try simp only [pS]
  go_upto_region 4 with fail
  refine wp_region_held_drew (S := fun w' => Fq No w w' [(gk1, 52, Mg.cells m)]) rfl (HF.out.drew) (fun hH => ?_)
  have HF : Hid (Fq No w (wk2.drew) [(gk1, 52, Mg.cells m)]) := HF.out.drew
  generalize wk2.drew = wk3 at HF hH ⊢
  refine xV 0 12 (.pointer (some ⟨r, 0, none⟩)) hH <| xV 1 13 (.pointer (some ⟨r, 0, none⟩)) hH <| xV 2 14 (.pointer (some ⟨r, 11, none⟩)) hH <| xL 3 15 3 ⟨r, 11, none⟩ (.int .i64 x.ph) (fun _ hw => load_one ((HBr.out.kept hw.kept (fun e => e)).cell 11 |>.trans (by kernel_rfl)) U3 rfl) hH <| xB 4 16 .neq 3 (.int .i64 x.ph) (.int .i64 1) (.bool true) (fun _ _ => by rw [b_neq, h1]; try rfl) hH <| xV 5 17 (.bool true) hH <| ?_
  try simp only [pS]
  refine xV 6 18 (.pointer (some ⟨r, 0, none⟩)) hH <| xV 7 19 (.pointer (some ⟨r, 0, none⟩)) hH <| xV 8 20 (.pointer (some ⟨r, 11, none⟩)) hH <| xL 9 21 3 ⟨r, 11, none⟩ (.int .i64 x.ph) (fun _ hw => load_one ((HBr.out.kept hw.kept (fun e => e)).cell 11 |>.trans (by kernel_rfl)) U3 rfl) hH <| xB 10 22 .neq 3 (.int .i64 x.ph) (.int .i64 2) (.bool true) (fun _ _ => by rw [b_neq, h2]; try rfl) hH <| xV 11 23 (.bool true) hH <| ?_
  try simp only [pS]
  refine xV 12 24 (.bool true) hH <| xZ 13 25 hH <| xZ 14 26 hH <| xZ 15 27 hH <| xZ 16 28 hH <| xV 17 29 (.bool true) hH <| ?_
  try simp only [pS]
  refine xV 18 30 (.bool true) hH <| xZ 19 31 hH <| xZ 20 32 hH <| xZ 21 33 hH <| xV 22 34 (.bool true) hH <| xV 23 35 (.bool true) hH <| ?_
  try simp only [pS]
  refine xZ 24 36 hH <| xZ 25 37 hH <| xZ 26 38 hH <| xZ 27 39 hH <| xZ 28 40 hH <| xZ 29 41 hH <| ?_
  try simp only [pS]
  refine xZ 30 42 hH <| xZ 31 43 hH <| xV 32 44 (.bool true) hH <| xV 33 45 (.bool true) hH <| xZ 34 46 hH <| xZ 35 47 hH <| ?_
  try simp only [pS]
  refine xZ 36 48 hH <| xZ 37 49 hH <| xZ 38 50 hH <| xZ 39 51 hH <| xZ 40 52 hH <| xV 41 53 (.bool true) hH <| ?_
  try simp only [pS]
  refine xV 42 54 (.bool true) hH <| xZ 43 55 hH <| xZ 44 56 hH <| xZ 45 57 hH <| xZ 46 58 hH <| xZ 47 59 hH <| ?_
  try simp only [pS]
  refine xZ 48 60 hH <| xZ 49 61 hH <| xV 50 62 (.bool true) hH <| xV 51 63 (.bool true) hH <| xZ 52 64 hH <| xZ 53 65 hH <| ?_
  try simp only [pS]
  refine xZ 54 66 hH <| xZ 55 67 hH <| xZ 56 68 hH <| xZ 57 69 hH <| xZ 58 70 hH <| xV 59 71 (.bool true) hH <| ?_
  try simp only [pS]
  refine wpAnyH_done (by kernel_rfl) ?_ _
  try simp only [pS]
  clear hH
  go_upto_region 5 with fail
  refine WL.start <| uK (.int .i64 (-1)) <| WL.nil <| ?_
  try simp only [pS]
  go_wp2
  rw [HC.out]
  exact ⟨rfl, HF.out.kept⟩
set_option maxRecDepth 100000 in
set_option maxHeartbeats 4000000 in
theorem rTake0 (r : Nat) (x : Rx) (g an vv : Sl) (m : Mg) (w : World) (hB : RfG w r x g an vv) (h1 : (x.ph == 1) = false) (h2 : (x.ph == 2) = false) : Calls Try.prog 13 #[.pointer (some ⟨r, 0, none⟩), .agg (Mg.cells m)] w (fun e w' => e = .returned (.slice none 0 0) ∧ Kept No w w') := by
  obtain ⟨C, hC⟩ : ∃ C : Ending → World → Prop, C = (fun e w' => e = .returned (.slice none 0 0) ∧ Kept No w w') := ⟨_, rfl⟩
  have HC : Hid (C = (fun e w' => e = .returned (.slice none 0 0) ∧ Kept No w w')) := hC
  rw [← hC]
  clear hC
  have HB : Hid (RfG w r x g an vv) := hB
  clear hB
  have HF : Hid (Fq No w w []) := Fq.start _ _
  go_enter Try.func13, Try.ntmps13
  go_upto_region 0 with fail
  refine WL.start ?_
  refine uR (.pointer (some ⟨w.heap.size, 0, none⟩)) (w.alloc (.cells (Mg.cells m) 52)) (exec_box 52 _ rfl (Mg.cells m) (by kernel_rfl)) ?_
  try simp only [pS]
  have HF : Hid (Fq No w (w.alloc (.cells (Mg.cells m) 52)) [(w.heap.size, 52, Mg.cells m)]) := HF.out.alloc _ _
  generalize w.alloc (.cells (Mg.cells m) 52) = wk2 at HF ⊢
  generalize w.heap.size = gk1 at HF ⊢
  refine uK (.slice none 0 0) <| WL.nil <| ?_
  try simp only [pS]
  go_upto_region 1 with fail
  refine WL.start <| uK (.pointer (some ⟨r, 0, none⟩)) <| uL 52 ⟨gk1, 0, none⟩ (.agg (Mg.cells m)) (run_load_part (cs := Mg.cs m) (sub := Mg.cs m) (HF.out.box 0 _ _ _ rfl) (Part.all _) U52 rfl S52) <| ?_
  try simp only [pS]
  refine uC 28 #[.pointer (some ⟨r, 0, none⟩), .agg (Mg.cells m)] (rPlace0 r x g an vv m _ (HB.out.no HF.out.kept) h1 h2) ?_
  rintro e wk3 ⟨rfl, hk⟩
  have HF : Hid (Fq No w (wk3) [(gk1, 52, Mg.cells m)]) := HF.out.no hk
  clear hk
  refine ⟨.int .i64 (-1), rfl, ?_⟩
  try simp only [pS]
  refine uK (.int .i64 (-1)) <| WL.nil <| ?_
  try simp only [pS]
  go_upto_region 2 with fail
  refine WL.start <| uK (.int .i64 (-1)) <| uB .lss 3 (.int .i64 (-1)) (.int .i64 0) (.bool true) (by rw [b_lss, decide_eq_true (by omega)]) <| WL.nil <| ?_
  try simp only [pS]
  go_upto_region 3 with fail
  refine WL.start <| uK (.slice none 0 0) <| WL.nil <| ?_
  try simp only [pS]
  go_wp2
  rw [HC.out]
  exact ⟨rfl, HF.out.kept⟩
set_option maxRecDepth 100000 in
set_option maxHeartbeats 4000000 in
theorem rTick0 (r : Nat) (x : Rx) (g an vv : Sl) (w : World) (hB : RfG w r x g an vv) (h1 : (x.ph == 1) = false) (h2 : (x.ph == 2) = false) : Calls Try.prog 11 #[.pointer (some ⟨r, 0, none⟩)] w (fun e w' => e = .returned (.slice none 0 0) ∧ Kept No w w') := by
  obtain ⟨C, hC⟩ : ∃ C : Ending → World → Prop, C = (fun e w' => e = .returned (.slice none 0 0) ∧ Kept No w w') := ⟨_, rfl⟩
  have HC : Hid (C = (fun e w' => e = .returned (.slice none 0 0) ∧ Kept No w w')) := hC
  rw [← hC]
  clear hC
  have HBr : Hid (Box w r 62 (rvG x g an vv).cells) := hB.box
  have HG : Hid (OwI w 0 g x.zs) := hB.gr
  have hzl := hB.gr.len
  have hnn := hB.hn
  clear hB
  have HF : Hid (Fq No w w []) := Fq.start _ _
  go_enter Try.func11, Try.ntmps11
  go_upto_region 0 with fail
  refine WL.start <| uK (.slice none 0 0) <| WL.nil <| ?_
  try simp only [pS]
  go_upto_region 1 with fail
  refine WL.start <| uK (.pointer (some ⟨r, 0, none⟩)) <| uK (.pointer (some ⟨r, 0, none⟩)) <| uK (.pointer (some ⟨r, 11, none⟩)) <| uL 3 ⟨r, 11, none⟩ (.int .i64 x.ph) (load_one ((HBr.out.kept HF.out.kept (fun e => e)).cell 11 |>.trans (by kernel_rfl)) U3 rfl) <| uB .neq 3 (.int .i64 x.ph) (.int .i64 1) (.bool true) (by rw [b_neq, h1]; try rfl) <| uK (.bool true) <| uK (.pointer (some ⟨r, 0, none⟩)) <| ?_
  try simp only [pS]
  refine uK (.pointer (some ⟨r, 0, none⟩)) <| uK (.pointer (some ⟨r, 11, none⟩)) <| uL 3 ⟨r, 11, none⟩ (.int .i64 x.ph) (load_one ((HBr.out.kept HF.out.kept (fun e => e)).cell 11 |>.trans (by kernel_rfl)) U3 rfl) <| uB .neq 3 (.int .i64 x.ph) (.int .i64 2) (.bool true) (by rw [b_neq, h2]; try rfl) <| uK (.bool true) <| WL.nil <| ?_
  try simp only [pS]
  go_upto_region 2 with fail
  refine WL.start <| uK (.slice none 0 0) <| WL.nil <| ?_
  try simp only [pS]
  go_wp2
  rw [HC.out]
  exact ⟨rfl, HF.out.kept⟩
set_option maxRecDepth 100000 in
set_option maxHeartbeats 4000000 in
theorem rTick1 (r : Nat) (x : Rx) (g : Sl) (ba bv : Nat) (w : World) (hB : RfL w r x g ba bv) (h1 : x.ph = 1 ∨ x.ph = 2) : Calls Try.prog 11 #[.pointer (some ⟨r, 0, none⟩)] w (TolOut w (tolR x)) := by
  obtain ⟨C, hC⟩ : ∃ C : Ending → World → Prop, C = (TolOut w (tolR x)) := ⟨_, rfl⟩
  have HC : Hid (C = (TolOut w (tolR x))) := hC
  rw [← hC]
  clear hC
  have HBr : Hid (Box w r 62 (rvL x g ba bv).cells) := hB.box
  have HG : Hid (OwI w 0 g x.zs) := hB.gr
  have hzl := hB.gr.len
  have hnn := hB.hn
  have HB : Hid (RfL w r x g ba bv) := hB
  clear hB
  have HF : Hid (Fq No w w []) := Fq.start _ _
  go_enter Try.func11, Try.ntmps11
  go_upto_region 0 with fail
  refine WL.start <| uK (.slice none 0 0) <| WL.nil <| ?_
  try simp only [pS]
  go_upto_region 1 with fail
  refine WL.start <| uK (.pointer (some ⟨r, 0, none⟩)) <| uK (.pointer (some ⟨r, 0, none⟩)) <| uK (.pointer (some ⟨r, 11, none⟩)) <| uL 3 ⟨r, 11, none⟩ (.int .i64 x.ph) (load_one ((HBr.out.kept HF.out.kept (fun e => e)).cell 11 |>.trans (by kernel_rfl)) U3 rfl) <| ?_
  try simp only [pS]
  cases q1 : (x.ph == 1)
  ·skip
   refine uB .neq 3 (.int .i64 x.ph) (.int .i64 1) (.bool true) (by rw [b_neq, q1]; try rfl) <| uK (.bool true) <| uK (.pointer (some ⟨r, 0, none⟩)) <| uK (.pointer (some ⟨r, 0, none⟩)) <| uK (.pointer (some ⟨r, 11, none⟩)) <| uL 3 ⟨r, 11, none⟩ (.int .i64 x.ph) (load_one ((HBr.out.kept HF.out.kept (fun e => e)).cell 11 |>.trans (by kernel_rfl)) U3 rfl) <| ?_
   try simp only [pS]
   cases q2 : (x.ph == 2)
   · rw [beq_eq_false_iff_ne] at q2 q1; exact absurd h1 (by omega)
   ·skip
    refine uB .neq 3 (.int .i64 x.ph) (.int .i64 2) (.bool false) (by rw [b_neq, q2]; try rfl) <| uK (.bool false) <| WL.nil <| ?_
    try simp only [pS]
    go_upto_region 3 with fail
    refine WL.start <| uK (.pointer (some ⟨r, 0, none⟩)) <| ?_
    try simp only [pS]
    refine uC 26 #[.pointer (some ⟨r, 0, none⟩)] (rTold r x g ba bv _ (HB.out.no HF.out.kept)) ?_
    rintro e wk1 ⟨t, rfl, hO, hk⟩
    have HO : Hid (OwM wk1 w.heap.size t (tolR x)) := ⟨hO.own.lower HF.out.kept.size, hO.len⟩
    have HF : Hid (Fq No w (wk1) []) := HF.out.no hk
    clear hk hO
    refine ⟨t.v, rfl, ?_⟩
    try simp only [pS]
    refine uK (t.v) <| WL.nil <| ?_
    try simp only [pS]
    go_wp2
    rw [HC.out]
    exact ⟨t, rfl, HO.out, HF.out.kept⟩
  ·skip
   refine uB .neq 3 (.int .i64 x.ph) (.int .i64 1) (.bool false) (by rw [b_neq, q1]; try rfl) <| uK (.bool false) <| uZ <| uZ <| uZ <| uZ <| uZ <| uK (.bool false) <| WL.nil <| ?_
   try simp only [pS]
   go_upto_region 3 with fail
   refine WL.start <| uK (.pointer (some ⟨r, 0, none⟩)) <| ?_
   try simp only [pS]
   refine uC 26 #[.pointer (some ⟨r, 0, none⟩)] (rTold r x g ba bv _ (HB.out.no HF.out.kept)) ?_
   rintro e wk2 ⟨t, rfl, hO, hk⟩
   have HO : Hid (OwM wk2 w.heap.size t (tolR x)) := ⟨hO.own.lower HF.out.kept.size, hO.len⟩
   have HF : Hid (Fq No w (wk2) []) := HF.out.no hk
   clear hk hO
   refine ⟨t.v, rfl, ?_⟩
   try simp only [pS]
   refine uK (t.v) <| WL.nil <| ?_
   try simp only [pS]
   go_wp2
   rw [HC.out]
   exact ⟨t, rfl, HO.out, HF.out.kept⟩
set_option maxRecDepth 100000 in
set_option maxHeartbeats 4000000 in
theorem rBegin0 (r : Nat) (x : Rx) (g an vv : Sl) (w : World) (hB : RfG w r x g an vv) (h1 : (x.ph == 0) = false) : Calls Try.prog 9 #[.pointer (some ⟨r, 0, none⟩)] w (fun e w' => e = .returned (.slice none 0 0) ∧ Kept No w w') := by
  obtain ⟨C, hC⟩ : ∃ C : Ending → World → Prop, C = (fun e w' => e = .returned (.slice none 0 0) ∧ Kept No w w') := ⟨_, rfl⟩
  have HC : Hid (C = (fun e w' => e = .returned (.slice none 0 0) ∧ Kept No w w')) := hC
  rw [← hC]
  clear hC
  have HBr : Hid (Box w r 62 (rvG x g an vv).cells) := hB.box
  have HG : Hid (OwI w 0 g x.zs) := hB.gr
  have hzl := hB.gr.len
  have hnn := hB.hn
  clear hB
  have HF : Hid (Fq No w w []) := Fq.start _ _
  go_enter Try.func9, Try.ntmps9
  go_upto_region 0 with fail
  refine WL.start <| uK (.slice none 0 0) <| WL.nil <| ?_
  try simp only [pS]
  go_upto_region 1 with fail
  refine WL.start <| uK (.pointer (some ⟨r, 0, none⟩)) <| uK (.pointer (some ⟨r, 0, none⟩)) <| uK (.pointer (some ⟨r, 11, none⟩)) <| uL 3 ⟨r, 11, none⟩ (.int .i64 x.ph) (load_one ((HBr.out.kept HF.out.kept (fun e => e)).cell 11 |>.trans (by kernel_rfl)) U3 rfl) <| uB .neq 3 (.int .i64 x.ph) (.int .i64 0) (.bool true) (by rw [b_neq, h1]; try rfl) <| WL.nil <| ?_
  try simp only [pS]
  go_upto_region 2 with fail
  refine WL.start <| uK (.slice none 0 0) <| WL.nil <| ?_
  try simp only [pS]
  go_wp2
  rw [HC.out]
  exact ⟨rfl, HF.out.kept⟩
def BegO (w : World) (r : Nat) (g an vv : Sl) (x : Rx) (e : Ending) (w' : World) : Prop :=
  Kept (Only r) w w' ∧ ((¬ (1 ≤ x.rd ∧ x.rd ≤ 1099511627776) ∧ e = .returned (.slice none 0 0) ∧ RfG w' r (endR x 4) g an vv) ∨
    ((1 ≤ x.rd ∧ x.rd ≤ 1099511627776) ∧ ∃ (t : Sl) (ba bv : Nat), e = .returned t.v ∧ OwM w' w.heap.size t (tolR (freR { x with ph := 1 })) ∧ RfL w' r (freR { x with ph := 1 }) g ba bv ∧ w.heap.size ≤ ba ∧ w.heap.size ≤ bv))
set_option maxRecDepth 100000 in
set_option maxHeartbeats 4000000 in
theorem rBegin1 (r : Nat) (x : Rx) (g an vv : Sl) (w : World) (hB : RfG w r x g an vv) (h1 : (x.ph == 0) = true) : Calls Try.prog 9 #[.pointer (some ⟨r, 0, none⟩)] w (BegO w r g an vv x) := by
  obtain ⟨C, hC⟩ : ∃ C : Ending → World → Prop, C = (BegO w r g an vv x) := ⟨_, rfl⟩
  have HC : Hid (C = (BegO w r g an vv x)) := hC
  rw [← hC]
  clear hC
  have HBr : Hid (Box w r 62 (rvG x g an vv).cells) := hB.box
  have HG : Hid (OwI w 0 g x.zs) := hB.gr
  have hzl := hB.gr.len
  have hnn := hB.hn
  have HF : Hid (Fq (Only r) w w [(r, 62, (rvG x g an vv).cells)]) := ⟨Kept.refl _ _, fun i g' T cs hi => by
    match i, hi with
    | 0, hi => cases hi; exact HBr.out, fun i g' T cs hi => by
    match i, hi with
    | 0, hi => cases hi; exact .inr rfl, fun i j g' T cs T' cs' hi hj => by
    match i, j, hi, hj with
    | 0, 0, _, _ => rfl⟩
  have hR := HBr.out
  have hrg : ∀ k, At g.a k → ¬ Only r k := fun k h e => HG.out.own.notBox hR (by decide) ((show k = r from e) ▸ h)
  clear hB HBr
  go_enter Try.func9, Try.ntmps9
  go_upto_region 0 with fail
  refine WL.start <| uK (.slice none 0 0) <| WL.nil <| ?_
  try simp only [pS]
  go_upto_region 1 with fail
  refine WL.start <| uK (.pointer (some ⟨r, 0, none⟩)) <| uK (.pointer (some ⟨r, 0, none⟩)) <| uK (.pointer (some ⟨r, 11, none⟩)) <| uL 3 ⟨r, 11, none⟩ (.int .i64 x.ph) (load_one ((HF.out.box 0 _ _ _ rfl).cell 11 |>.trans (by kernel_rfl)) U3 rfl) <| uB .neq 3 (.int .i64 x.ph) (.int .i64 0) (.bool false) (by rw [b_neq, h1]; try rfl) <| WL.nil <| ?_
  try simp only [pS]
  go_upto_region 3 with fail
  refine WL.start <| uK (.pointer (some ⟨r, 0, none⟩)) <| uK (.pointer (some ⟨r, 0, none⟩)) <| uK (.pointer (some ⟨r, 8, none⟩)) <| uL 3 ⟨r, 8, none⟩ (.int .i64 x.rd) (load_one ((HF.out.box 0 _ _ _ rfl).cell 8 |>.trans (by kernel_rfl)) U3 rfl) <| ?_
  try simp only [pS]
  cases q1 : (decide (x.rd < 1))
  ·skip
   refine uB .lss 3 (.int .i64 x.rd) (.int .i64 1) (.bool false) (by rw [b_lss, q1]; try rfl) <| uK (.bool false) <| uK (.pointer (some ⟨r, 0, none⟩)) <| uK (.pointer (some ⟨r, 0, none⟩)) <| uK (.pointer (some ⟨r, 8, none⟩)) <| uL 3 ⟨r, 8, none⟩ (.int .i64 x.rd) (load_one ((HF.out.box 0 _ _ _ rfl).cell 8 |>.trans (by kernel_rfl)) U3 rfl) <| ?_
   try simp only [pS]
   cases q2 : (decide (1099511627776 < x.rd))
   ·skip
    refine uB .gtr 3 (.int .i64 x.rd) (.int .i64 1099511627776) (.bool false) (by rw [b_gtr, q2]; try rfl) <| uK (.bool false) <| WL.nil <| ?_
    try simp only [pS]
    go_upto_region 5 with fail
    refine WL.start <| uK (.pointer (some ⟨r, 0, none⟩)) <| uK (.pointer (some ⟨r, 0, none⟩)) <| uK (.pointer (some ⟨r, 11, none⟩)) <| ?_
    try simp only [pS]
    refine uT 3 ⟨r, 11, none⟩ (.int .i64 1) (w.setRow r (Rv.cells ⟨x.wr, x.cl, x.op, x.ky, g, x.rd, x.sz, x.bl, 1, an, vv, x.tag, x.er⟩)) (rs (Rv.cs (rvG x g an vv)) ([.int .i64 1]) (Rv.cs ⟨x.wr, x.cl, x.op, x.ky, g, x.rd, x.sz, x.bl, 1, an, vv, x.tag, x.er⟩) (HF.out.box 0 _ _ _ rfl) S3 (by simp [Value.oneCell', Sl.v])) ?_
    try simp only [pS]
    have HF : Hid (Fq (Only r) w (w.setRow r (Rv.cells ⟨x.wr, x.cl, x.op, x.ky, g, x.rd, x.sz, x.bl, 1, an, vv, x.tag, x.er⟩)) [(r, 62, Rv.cells ⟨x.wr, x.cl, x.op, x.ky, g, x.rd, x.sz, x.bl, 1, an, vv, x.tag, x.er⟩)]) := HF.out.set 0 rfl _
    generalize w.setRow r (Rv.cells ⟨x.wr, x.cl, x.op, x.ky, g, x.rd, x.sz, x.bl, 1, an, vv, x.tag, x.er⟩) = wk1 at HF ⊢
    refine WL.nil ?_
    try simp only [pS]
    go_upto_region 6 with fail
    refine WL.start <| uK (.pointer (some ⟨r, 0, none⟩)) <| ?_
    try simp only [pS]
    refine uC 25 #[.pointer (some ⟨r, 0, none⟩)] (rFresh r { x with ph := 1 } g an vv wk1 ⟨HF.out.box 0 _ _ _ rfl, HG.out.kept HF.out.kept hrg, hnn⟩) ?_
    rintro e wk2 ⟨ba, bv, rfl, hL2, h1', h2', hk⟩
    have hba : w.heap.size ≤ ba := Nat.le_trans HF.out.kept.size h1'
    have hbv : w.heap.size ≤ bv := Nat.le_trans HF.out.kept.size h2'
    have HLf : Hid (RfL wk2 r (freR { x with ph := 1 }) g ba bv) := hL2
    have HF : Hid (Fq (Only r) w wk2 []) := ⟨HF.out.kept.trans hk (fun _ e => e) (fun _ _ e => e), by simp, by simp, by simp⟩
    clear hk hL2 h1' h2'
    refine ⟨.tuple #[], rfl, ?_⟩
    try simp only [pS]
    refine WL.nil ?_
    try simp only [pS]
    go_upto_region 7 with fail
    refine WL.start <| uK (.pointer (some ⟨r, 0, none⟩)) <| ?_
    try simp only [pS]
    refine uC 26 #[.pointer (some ⟨r, 0, none⟩)] (rTold r (freR { x with ph := 1 }) g ba bv wk2 HLf.out) ?_
    rintro e wk3 ⟨t, rfl, hO, hk⟩
    have HLf : Hid (RfL wk3 r (freR { x with ph := 1 }) g ba bv) := HLf.out.no hk
    have HOt : Hid (OwM wk3 w.heap.size t (tolR (freR { x with ph := 1 }))) := ⟨hO.own.lower HF.out.kept.size, hO.len⟩
    have HKf : Hid (Kept (Only r) w wk3) := HF.out.kept.then hk.of_no
    clear hk hO
    refine ⟨t.v, rfl, ?_⟩
    try simp only [pS]
    refine uK (t.v) <| WL.nil <| ?_
    try simp only [pS]
    go_wp2
    rw [HC.out]
    exact ⟨HKf.out, .inr ⟨by have := of_decide_eq_false q1; have := of_decide_eq_false q2; omega, t, ba, bv, rfl, HOt.out, HLf.out, hba, hbv⟩⟩
   ·skip
    refine uB .gtr 3 (.int .i64 x.rd) (.int .i64 1099511627776) (.bool true) (by rw [b_gtr, q2]; try rfl) <| uK (.bool true) <| WL.nil <| ?_
    try simp only [pS]
    go_upto_region 4 with fail
    refine WL.start <| uK (.pointer (some ⟨r, 0, none⟩)) <| ?_
    try simp only [pS]
    refine uC 24 #[.pointer (some ⟨r, 0, none⟩), .int .i64 4] (rEnd r x g an vv 4 w ⟨HF.out.box 0 _ _ _ rfl, HG.out.kept HF.out.kept hrg, hnn⟩) ?_
    rintro e wk4 ⟨rfl, hR2, hk⟩
    have HKf : Hid (Kept (Only r) w wk4) := HF.out.kept.trans hk (fun _ e => e) (fun _ _ e => e)
    have HGf : Hid (RfG wk4 r (endR x 4) g an vv) := hR2
    clear hk hR2
    refine ⟨.slice none 0 0, rfl, ?_⟩
    try simp only [pS]
    refine uK (.slice none 0 0) <| WL.nil <| ?_
    try simp only [pS]
    go_wp2
    rw [HC.out]
    exact ⟨HKf.out, .inl ⟨by have := of_decide_eq_true q2; omega, rfl, HGf.out⟩⟩
  ·skip
   refine uB .lss 3 (.int .i64 x.rd) (.int .i64 1) (.bool true) (by rw [b_lss, q1]; try rfl) <| uK (.bool true) <| uZ <| uZ <| uZ <| uZ <| uZ <| uK (.bool true) <| WL.nil <| ?_
   try simp only [pS]
   go_upto_region 4 with fail
   refine WL.start <| uK (.pointer (some ⟨r, 0, none⟩)) <| ?_
   try simp only [pS]
   refine uC 24 #[.pointer (some ⟨r, 0, none⟩), .int .i64 4] (rEnd r x g an vv 4 w ⟨HF.out.box 0 _ _ _ rfl, HG.out.kept HF.out.kept hrg, hnn⟩) ?_
   rintro e wk5 ⟨rfl, hR2, hk⟩
   have HKf : Hid (Kept (Only r) w wk5) := HF.out.kept.trans hk (fun _ e => e) (fun _ _ e => e)
   have HGf : Hid (RfG wk5 r (endR x 4) g an vv) := hR2
   clear hk hR2
   refine ⟨.slice none 0 0, rfl, ?_⟩
   try simp only [pS]
   refine uK (.slice none 0 0) <| WL.nil <| ?_
   try simp only [pS]
   go_wp2
   rw [HC.out]
   exact ⟨HKf.out, .inl ⟨by have := of_decide_eq_true q1; omega, rfl, HGf.out⟩⟩
def donR (x : Rx) : Rz × Bool := if x.ph == 3 then (if x.er == 0 then { rzZ with st := x.tag, da := if x.wr then slZ else x.bl } else { rzZ with er := x.er }, true) else (rzZ, false)
set_option maxRecDepth 100000 in
set_option maxHeartbeats 4000000 in
theorem rDone (r : Nat) (x : Rx) (g an vv : Sl) (w : World) (hB : RfG w r x g an vv) : Calls Try.prog 20 #[.pointer (some ⟨r, 0, none⟩)] w (fun e w' => e = .returned (.tuple #[.agg (Rz.cells (donR x).1), .bool (donR x).2]) ∧ Kept No w w') := by
  obtain ⟨C, hC⟩ : ∃ C : Ending → World → Prop, C = (fun e w' => e = .returned (.tuple #[.agg (Rz.cells (donR x).1), .bool (donR x).2]) ∧ Kept No w w') := ⟨_, rfl⟩
  have HC : Hid (C = (fun e w' => e = .returned (.tuple #[.agg (Rz.cells (donR x).1), .bool (donR x).2]) ∧ Kept No w w')) := hC
  rw [← hC]
  clear hC
  have HBr : Hid (Box w r 62 (rvG x g an vv).cells) := hB.box
  have HG : Hid (OwI w 0 g x.zs) := hB.gr
  have hzl := hB.gr.len
  have hnn := hB.hn
  clear hB
  have HF : Hid (Fq No w w []) := Fq.start _ _
  go_enter Try.func20, Try.ntmps20
  go_upto_region 0 with fail
  refine WL.start ?_
  refine uR (.pointer (some ⟨w.heap.size, 0, none⟩)) (w.alloc (.cells (Rz.cells rzZ) 72)) (exec_alloc 72 rfl (Rz.cells rzZ) Z90) ?_
  try simp only [pS]
  have HF : Hid (Fq No w (w.alloc (.cells (Rz.cells rzZ) 72)) [(w.heap.size, 72, Rz.cells rzZ)]) := HF.out.alloc _ _
  generalize w.alloc (.cells (Rz.cells rzZ) 72) = wk2 at HF ⊢
  generalize w.heap.size = gk1 at HF ⊢
  refine uK (.bool false) <| WL.nil <| ?_
  try simp only [pS]
  go_upto_region 1 with fail
  refine WL.start <| uK (.pointer (some ⟨r, 0, none⟩)) <| uK (.pointer (some ⟨r, 0, none⟩)) <| uK (.pointer (some ⟨r, 11, none⟩)) <| uL 3 ⟨r, 11, none⟩ (.int .i64 x.ph) (load_one ((HBr.out.kept HF.out.kept (fun e => e)).cell 11 |>.trans (by kernel_rfl)) U3 rfl) <| ?_
  try simp only [pS]
  cases q1 : (x.ph == 3)
  ·skip
   refine uB .neq 3 (.int .i64 x.ph) (.int .i64 3) (.bool true) (by rw [b_neq, q1]; try rfl) <| WL.nil <| ?_
   try simp only [pS]
   go_upto_region 2 with fail
   refine WL.start <| uW (.agg (Rz.cells rzZ)) (exec_build 72 _ rfl (Rz.cells rzZ) (by kernel_rfl)) <| ?_
   try simp only [pS]
   refine uT 72 ⟨gk1, 0, none⟩ (.agg (Rz.cells rzZ)) (wk2.setRow gk1 (Rz.cells rzZ)) (rs (Rz.cs rzZ) (Rz.cs rzZ) (Rz.cs rzZ) (HF.out.box 0 _ _ _ rfl) S90 (Rz.oneL _)) ?_
   try simp only [pS]
   have HF : Hid (Fq No w (wk2.setRow gk1 (Rz.cells rzZ)) [(gk1, 72, Rz.cells rzZ)]) := HF.out.set 0 rfl _
   generalize wk2.setRow gk1 (Rz.cells rzZ) = wk3 at HF ⊢
   refine uK (.bool false) <| WL.nil <| ?_
   try simp only [pS]
   go_wp2
   rw [HC.out]
   have hd : donR x = (rzZ, false) := by simp [donR, rzZ, q1]
   rw [hd]
   refine bodyPost_ret (results_row_tmp (by rfl) _ _ gk1 (Rz.cells rzZ) (by rfl) (run_load_part (cs := Rz.cs rzZ) (sub := Rz.cs rzZ) (HF.out.box 0 _ _ _ rfl) (Part.all _) U90 rfl S90)) rfl ?_
   exact ⟨rfl, HF.out.kept⟩
  ·skip
   refine uB .neq 3 (.int .i64 x.ph) (.int .i64 3) (.bool false) (by rw [b_neq, q1]; try rfl) <| WL.nil <| ?_
   try simp only [pS]
   go_upto_region 3 with fail
   refine WL.start <| uK (.pointer (some ⟨r, 0, none⟩)) <| uK (.pointer (some ⟨r, 0, none⟩)) <| uK (.pointer (some ⟨r, 16, none⟩)) <| uL 3 ⟨r, 16, none⟩ (.int .i64 x.er) (load_one ((HBr.out.kept HF.out.kept (fun e => e)).cell 16 |>.trans (by kernel_rfl)) U3 rfl) <| ?_
   try simp only [pS]
   cases q2 : (x.er == 0)
   ·skip
    refine uB .neq 3 (.int .i64 x.er) (.int .i64 0) (.bool true) (by rw [b_neq, q2]; try rfl) <| WL.nil <| ?_
    try simp only [pS]
    go_upto_region 4 with fail
    refine WL.start <| uK (.pointer (some ⟨r, 0, none⟩)) <| uK (.pointer (some ⟨r, 0, none⟩)) <| uK (.pointer (some ⟨r, 16, none⟩)) <| uL 3 ⟨r, 16, none⟩ (.int .i64 x.er) (load_one ((HBr.out.kept HF.out.kept (fun e => e)).cell 16 |>.trans (by kernel_rfl)) U3 rfl) <| uW (.agg (Rz.cells ⟨x.er, enZ, slZ, slZ, 0, spZ, 0⟩)) (exec_build 72 _ rfl (Rz.cells ⟨x.er, enZ, slZ, slZ, 0, spZ, 0⟩) (by kernel_rfl)) <| ?_
    try simp only [pS]
    refine uT 72 ⟨gk1, 0, none⟩ (.agg (Rz.cells ⟨x.er, enZ, slZ, slZ, 0, spZ, 0⟩)) (wk2.setRow gk1 (Rz.cells ⟨x.er, enZ, slZ, slZ, 0, spZ, 0⟩)) (rs (Rz.cs rzZ) (Rz.cs ⟨x.er, enZ, slZ, slZ, 0, spZ, 0⟩) (Rz.cs ⟨x.er, enZ, slZ, slZ, 0, spZ, 0⟩) (HF.out.box 0 _ _ _ rfl) S90 (Rz.oneL _)) ?_
    try simp only [pS]
    have HF : Hid (Fq No w (wk2.setRow gk1 (Rz.cells ⟨x.er, enZ, slZ, slZ, 0, spZ, 0⟩)) [(gk1, 72, Rz.cells ⟨x.er, enZ, slZ, slZ, 0, spZ, 0⟩)]) := HF.out.set 0 rfl _
    generalize wk2.setRow gk1 (Rz.cells ⟨x.er, enZ, slZ, slZ, 0, spZ, 0⟩) = wk4 at HF ⊢
    refine uK (.bool true) <| WL.nil <| ?_
    try simp only [pS]
    go_wp2
    rw [HC.out]
    have hd : donR x = (⟨x.er, enZ, slZ, slZ, 0, spZ, 0⟩, true) := by simp [donR, rzZ, q1, q2]
    rw [hd]
    refine bodyPost_ret (results_row_tmp (by rfl) _ _ gk1 (Rz.cells ⟨x.er, enZ, slZ, slZ, 0, spZ, 0⟩) (by rfl) (run_load_part (cs := Rz.cs ⟨x.er, enZ, slZ, slZ, 0, spZ, 0⟩) (sub := Rz.cs ⟨x.er, enZ, slZ, slZ, 0, spZ, 0⟩) (HF.out.box 0 _ _ _ rfl) (Part.all _) U90 rfl S90)) rfl ?_
    exact ⟨rfl, HF.out.kept⟩
   ·skip
    refine uB .neq 3 (.int .i64 x.er) (.int .i64 0) (.bool false) (by rw [b_neq, q2]; try rfl) <| WL.nil <| ?_
    try simp only [pS]
    go_upto_region 5 with fail
    refine WL.start <| uK (.pointer (some ⟨r, 0, none⟩)) <| uK (.pointer (some ⟨r, 0, none⟩)) <| uK (.pointer (some ⟨r, 14, none⟩)) <| uL 41 ⟨r, 14, none⟩ (.agg (Sp.cells x.tag)) (run_load_part (cs := Rv.cs (rvG x g an vv)) (sub := Sp.cs x.tag) (HBr.out.kept HF.out.kept (fun e => e)) (part_of (by kernel_rfl)) U41 rfl S41) <| uW (.agg (Rz.cells ⟨0, enZ, slZ, slZ, 0, x.tag, 0⟩)) (exec_build 72 _ rfl (Rz.cells ⟨0, enZ, slZ, slZ, 0, x.tag, 0⟩) (by kernel_rfl)) <| ?_
    try simp only [pS]
    refine uR (.pointer (some ⟨wk2.heap.size, 0, none⟩)) (wk2.alloc (.cells (Rz.cells rzZ) 72)) (exec_alloc 72 rfl (Rz.cells rzZ) Z90) ?_
    try simp only [pS]
    have HF : Hid (Fq No w (wk2.alloc (.cells (Rz.cells rzZ) 72)) [(gk1, 72, Rz.cells rzZ), (wk2.heap.size, 72, Rz.cells rzZ)]) := HF.out.alloc _ _
    generalize wk2.alloc (.cells (Rz.cells rzZ) 72) = wk6 at HF ⊢
    generalize wk2.heap.size = gk5 at HF ⊢
    refine uT 72 ⟨gk5, 0, none⟩ (.agg (Rz.cells ⟨0, enZ, slZ, slZ, 0, x.tag, 0⟩)) (wk6.setRow gk5 (Rz.cells ⟨0, enZ, slZ, slZ, 0, x.tag, 0⟩)) (rs (Rz.cs rzZ) (Rz.cs ⟨0, enZ, slZ, slZ, 0, x.tag, 0⟩) (Rz.cs ⟨0, enZ, slZ, slZ, 0, x.tag, 0⟩) (HF.out.box 1 _ _ _ rfl) S90 (Rz.oneL _)) ?_
    try simp only [pS]
    have HF : Hid (Fq No w (wk6.setRow gk5 (Rz.cells ⟨0, enZ, slZ, slZ, 0, x.tag, 0⟩)) [(gk1, 72, Rz.cells rzZ), (gk5, 72, Rz.cells ⟨0, enZ, slZ, slZ, 0, x.tag, 0⟩)]) := HF.out.set 1 rfl _
    generalize wk6.setRow gk5 (Rz.cells ⟨0, enZ, slZ, slZ, 0, x.tag, 0⟩) = wk7 at HF ⊢
    refine WL.nil ?_
    try simp only [pS]
    go_upto_region 6 with fail
    refine WL.start <| uK (.pointer (some ⟨r, 0, none⟩)) <| uK (.pointer (some ⟨r, 0, none⟩)) <| uK (.pointer (some ⟨r, 0, none⟩)) <| uL 4 ⟨r, 0, none⟩ (.bool x.wr) (load_one ((HBr.out.kept HF.out.kept (fun e => e)).cell 0 |>.trans (by kernel_rfl)) U4 rfl) <| ?_
    try simp only [pS]
    cases q3 : (x.wr)
    ·skip
     try simp only [q3]
     refine uK (.bool true) <| WL.nil <| ?_
     try simp only [pS]
     go_upto_region 7 with fail
     refine WL.start <| uK (.pointer (some ⟨r, 0, none⟩)) <| uK (.pointer (some ⟨r, 0, none⟩)) <| uK (.pointer (some ⟨r, 10, none⟩)) <| uL 25 ⟨r, 10, none⟩ (x.bl.v) (load_one ((HBr.out.kept HF.out.kept (fun e => e)).cell 10 |>.trans (by kernel_rfl)) U25 rfl) <| uK (.pointer (some ⟨gk5, 6, none⟩)) <| ?_
     try simp only [pS]
     refine uT 25 ⟨gk5, 6, none⟩ (x.bl.v) (wk7.setRow gk5 (Rz.cells ⟨0, enZ, slZ, x.bl, 0, x.tag, 0⟩)) (rs (Rz.cs ⟨0, enZ, slZ, slZ, 0, x.tag, 0⟩) ([x.bl.v]) (Rz.cs ⟨0, enZ, slZ, x.bl, 0, x.tag, 0⟩) (HF.out.box 1 _ _ _ rfl) S25 (by simp [Value.oneCell', Sl.v])) ?_
     try simp only [pS]
     have HF : Hid (Fq No w (wk7.setRow gk5 (Rz.cells ⟨0, enZ, slZ, x.bl, 0, x.tag, 0⟩)) [(gk1, 72, Rz.cells rzZ), (gk5, 72, Rz.cells ⟨0, enZ, slZ, x.bl, 0, x.tag, 0⟩)]) := HF.out.set 1 rfl _
     generalize wk7.setRow gk5 (Rz.cells ⟨0, enZ, slZ, x.bl, 0, x.tag, 0⟩) = wk8 at HF ⊢
     refine WL.nil ?_
     try simp only [pS]
     go_upto_region 8 with fail
     refine WL.start <| uL 72 ⟨gk5, 0, none⟩ (.agg (Rz.cells ⟨0, enZ, slZ, x.bl, 0, x.tag, 0⟩)) (run_load_part (cs := Rz.cs ⟨0, enZ, slZ, x.bl, 0, x.tag, 0⟩) (sub := Rz.cs ⟨0, enZ, slZ, x.bl, 0, x.tag, 0⟩) (HF.out.box 1 _ _ _ rfl) (Part.all _) U90 rfl S90) <| ?_
     try simp only [pS]
     refine uT 72 ⟨gk1, 0, none⟩ (.agg (Rz.cells ⟨0, enZ, slZ, x.bl, 0, x.tag, 0⟩)) (wk8.setRow gk1 (Rz.cells ⟨0, enZ, slZ, x.bl, 0, x.tag, 0⟩)) (rs (Rz.cs rzZ) (Rz.cs ⟨0, enZ, slZ, x.bl, 0, x.tag, 0⟩) (Rz.cs ⟨0, enZ, slZ, x.bl, 0, x.tag, 0⟩) (HF.out.box 0 _ _ _ rfl) S90 (Rz.oneL _)) ?_
     try simp only [pS]
     have HF : Hid (Fq No w (wk8.setRow gk1 (Rz.cells ⟨0, enZ, slZ, x.bl, 0, x.tag, 0⟩)) [(gk1, 72, Rz.cells ⟨0, enZ, slZ, x.bl, 0, x.tag, 0⟩), (gk5, 72, Rz.cells ⟨0, enZ, slZ, x.bl, 0, x.tag, 0⟩)]) := HF.out.set 0 rfl _
     generalize wk8.setRow gk1 (Rz.cells ⟨0, enZ, slZ, x.bl, 0, x.tag, 0⟩) = wk9 at HF ⊢
     refine uK (.bool true) <| WL.nil <| ?_
     try simp only [pS]
     go_wp2
     rw [HC.out]
     have hd : donR x = (⟨0, enZ, slZ, x.bl, 0, x.tag, 0⟩, true) := by simp [donR, rzZ, q1, q2, q3]
     rw [hd]
     refine bodyPost_ret (results_row_tmp (by rfl) _ _ gk1 (Rz.cells ⟨0, enZ, slZ, x.bl, 0, x.tag, 0⟩) (by rfl) (run_load_part (cs := Rz.cs ⟨0, enZ, slZ, x.bl, 0, x.tag, 0⟩) (sub := Rz.cs ⟨0, enZ, slZ, x.bl, 0, x.tag, 0⟩) (HF.out.box 0 _ _ _ rfl) (Part.all _) U90 rfl S90)) rfl ?_
     exact ⟨rfl, HF.out.kept⟩
    ·skip
     try simp only [q3]
     refine uK (.bool false) <| WL.nil <| ?_
     try simp only [pS]
     go_upto_region 8 with fail
     refine WL.start <| uL 72 ⟨gk5, 0, none⟩ (.agg (Rz.cells ⟨0, enZ, slZ, slZ, 0, x.tag, 0⟩)) (run_load_part (cs := Rz.cs ⟨0, enZ, slZ, slZ, 0, x.tag, 0⟩) (sub := Rz.cs ⟨0, enZ, slZ, slZ, 0, x.tag, 0⟩) (HF.out.box 1 _ _ _ rfl) (Part.all _) U90 rfl S90) <| ?_
     try simp only [pS]
     refine uT 72 ⟨gk1, 0, none⟩ (.agg (Rz.cells ⟨0, enZ, slZ, slZ, 0, x.tag, 0⟩)) (wk7.setRow gk1 (Rz.cells ⟨0, enZ, slZ, slZ, 0, x.tag, 0⟩)) (rs (Rz.cs rzZ) (Rz.cs ⟨0, enZ, slZ, slZ, 0, x.tag, 0⟩) (Rz.cs ⟨0, enZ, slZ, slZ, 0, x.tag, 0⟩) (HF.out.box 0 _ _ _ rfl) S90 (Rz.oneL _)) ?_
     try simp only [pS]
     have HF : Hid (Fq No w (wk7.setRow gk1 (Rz.cells ⟨0, enZ, slZ, slZ, 0, x.tag, 0⟩)) [(gk1, 72, Rz.cells ⟨0, enZ, slZ, slZ, 0, x.tag, 0⟩), (gk5, 72, Rz.cells ⟨0, enZ, slZ, slZ, 0, x.tag, 0⟩)]) := HF.out.set 0 rfl _
     generalize wk7.setRow gk1 (Rz.cells ⟨0, enZ, slZ, slZ, 0, x.tag, 0⟩) = wk10 at HF ⊢
     refine uK (.bool true) <| WL.nil <| ?_
     try simp only [pS]
     go_wp2
     rw [HC.out]
     have hd : donR x = (⟨0, enZ, slZ, slZ, 0, x.tag, 0⟩, true) := by simp [donR, rzZ, q1, q2, q3]
     rw [hd]
     refine bodyPost_ret (results_row_tmp (by rfl) _ _ gk1 (Rz.cells ⟨0, enZ, slZ, slZ, 0, x.tag, 0⟩) (by rfl) (run_load_part (cs := Rz.cs ⟨0, enZ, slZ, slZ, 0, x.tag, 0⟩) (sub := Rz.cs ⟨0, enZ, slZ, slZ, 0, x.tag, 0⟩) (HF.out.box 0 _ _ _ rfl) (Part.all _) U90 rfl S90)) rfl ?_
     exact ⟨rfl, HF.out.kept⟩

end Go.Proofs.Ythnecaejhnojfaa.Md
