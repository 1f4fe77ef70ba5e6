import Derived.Test.YthnecaejhnojfaaRa
namespace Go.Proofs.Ythnecaejhnojfaa.Md
open Go.RowKit
set_option linter.unusedVariables false
set_option linter.unusedSimpArgs false

theorem addr_add (b o j : Nat) : (⟨b, o, none⟩ : Addr).add j = ⟨b, o + j, none⟩ := by simp [Addr.add]
/-- Messages told: new memory. -/
structure OwM (w : World) (base : Nat) (s : Sl) (l : List Mg) : Prop where
  own : Own 52 30 w base s.a s.k s.l (mgL l)
  len : l.length = s.l
theorem OwM.kept {S : Nat → Prop} {w w' : World} {base : Nat} {s : Sl} {es : List Mg} (h : OwM w base s es) (hk : Kept S w w') (hS : ∀ k, At s.a k → ¬ S k) : OwM w' base s es := ⟨h.own.kept hk hS, h.len⟩
theorem OwM.no {w w' : World} {base : Nat} {s : Sl} {es : List Mg} (h : OwM w base s es) (hk : Kept No w w') : OwM w' base s es := h.kept hk (fun _ _ e => e)
theorem OwM.nil (w : World) (base : Nat) : OwM w base slZ [] := ⟨Own.nil _ _ _ _, rfl⟩
theorem OwM.rd {w : World} {base : Nat} {s : Sl} {es : List Mg} (h : OwM w base s es) : RdM w s es := ⟨Own.rows h.own (mgL_c es) (by omega), h.len⟩
def TolOut (w : World) (l : List Mg) (e : Ending) (w' : World) : Prop := ∃ s : Sl, e = .returned s.v ∧ OwM w' w.heap.size s l ∧ Kept No w w'
theorem at_b {l : List Bool} {i n : Nat} (hl : l.length = n) (h : i < n) : ∃ b, l[i]? = some b := ⟨l[i], List.getElem?_eq_getElem _⟩
set_option maxRecDepth 100000 in
set_option maxHeartbeats 4000000 in
theorem rTold (r : Nat) (x : Rx) (g : Sl) (ba bv : Nat) (w : World) (hB : RfL w r x g ba bv) : Calls Try.prog 26 #[.pointer (some ⟨r, 0, none⟩)] w (TolOut w (tolR x)) := by
  obtain ⟨C, hC⟩ : ∃ C : Ending → World → Prop, C = (TolOut w (tolR x)) := ⟨_, rfl⟩
  have HC : Hid (C = (TolOut w (tolR x))) := hC
  rw [← hC]
  clear hC
  have HBr : Hid (Box w r 62 (rvL x g ba bv).cells) := hB.box
  have HG : Hid (OwI w 0 g x.zs) := hB.gr
  have hzl := hB.gr.len
  have hnn := hB.hn
  have HBa : Hid (Box w ba 4 (boL x.qa).toArray) := hB.ba
  have HBv : Hid (Box w bv 52 (mgL x.vs).toArray) := hB.bv
  have hla := hB.la
  have hlv := hB.lv
  clear hB
  have HF : Hid (Fq No w w []) := Fq.start _ _
  go_enter Try.func26, Try.ntmps26
  go_upto_region 0 with fail
  refine WL.start <| uK (.slice none 0 0) <| WL.nil <| ?_
  try simp only [pS]
  go_upto_region 1 with fail
  refine WL.start <| uK (.slice none 0 0) <| WL.nil <| ?_
  try simp only [pS]
  go_upto_region 2 with fail
  refine WL.start <| uK (.int .i64 0) <| WL.nil <| ?_
  try simp only [pS]
  go_wp2
  go_loopw [3, 4] (fun v3 v4 wr => ∃ (i : Nat) (sa : Option Addr) (sn sc : Nat), v3 = .slice sa sn sc ∧ v4 = .int .i64 ((i : Nat) : Int) ∧ i ≤ g.l ∧ sn ≤ i ∧ Hid (OwM wr w.heap.size ⟨sa, sn, sc⟩ (tolK x i)) ∧ Hid (Fq No w wr [])) (fun _ i _ => g.l - (intOf i).toNat)
  case atStart => exact ⟨0, none, 0, 0, rfl, by go_num, by omega, by omega, OwM.nil _ _, HF⟩
  case round =>
    clear HF
    obtain ⟨i, sa, sn, sc, rfl, rfl, hi, hsn, HO, HF⟩ := hrel
    by_cases hlt : i < g.l
    · skip
      obtain ⟨bb, hbb⟩ := at_b hla hlt
      obtain ⟨gb, hga, hgc⟩ := HG.out.at (i := i) (by omega)
      have hsl : g.v = .slice (some ⟨gb, 0, none⟩) g.l g.k := by unfold Sl.v; rw [hga]
      have HGc : Hid (w.cell? ⟨gb, 0 + i * 1, none⟩ = some (.int .i64 (x.zs[i]?.getD 0))) := hgc
      clear hga hgc
      obtain ⟨z, hzz⟩ : ∃ z, z = x.zs[i]?.getD 0 := ⟨_, rfl⟩
      rw [← hzz] at HGc
      cases bb
      ·skip
       go_upto_region 3 with fail
       refine WL.start <| uK (.int .i64 ((i : Nat) : Int)) <| uK (.pointer (some ⟨r, 0, none⟩)) <| uK (.pointer (some ⟨r, 0, none⟩)) <| uK (.pointer (some ⟨r, 7, none⟩)) <| uL 24 ⟨r, 7, none⟩ (g.v) (load_one ((HBr.out.kept HF.out.kept (fun e => e)).cell 7 |>.trans (by kernel_rfl)) U24 rfl) <| uK (.int .i64 ((g.l : Nat) : Int)) <| uB .lss 3 (.int .i64 ((i : Nat) : Int)) (.int .i64 ((g.l : Nat) : Int)) (.bool true) (by rw [b_lss, decide_eq_true (by omega)]) <| WL.nil <| ?_
       try simp only [pS]
       go_upto_region 5 with fail
       refine WL.start <| uK (.pointer (some ⟨r, 0, none⟩)) <| uK (.pointer (some ⟨r, 0, none⟩)) <| uK (.pointer (some ⟨r, 12, none⟩)) <| uL 60 ⟨r, 12, none⟩ (.slice (some ⟨ba, 0, none⟩) g.l g.l) (load_one ((HBr.out.kept HF.out.kept (fun e => e)).cell 12 |>.trans (by kernel_rfl)) U70 rfl) <| uK (.int .i64 ((i : Nat) : Int)) <| uW (.pointer (some ⟨ba, 0 + i * 1, none⟩)) (exec_ixA 60 1 E70 F70 _ _ rfl ba 0 g.l g.l i (by kernel_rfl) (by kernel_rfl) (by omega)) <| uL 4 ⟨ba, 0 + i * 1, none⟩ (.bool false) (ld_bo (HBa.out.kept HF.out.kept (fun e => e)) (by rw [hbb])) <| WL.nil <| ?_
       try simp only [pS]
       go_upto_region 6 with fail
       refine wp_region_held_drew (S := fun w' => Fq No w w' []) rfl (HF.out.drew) (fun hH => ?_)
       have HO : Hid (OwM (wr.drew) w.heap.size ⟨sa, sn, sc⟩ (tolK x i)) := HO.out.no (Kept.refl No _).drew
       have HF : Hid (Fq No w (wr.drew) []) := HF.out.drew
       generalize wr.drew = wk1 at HF HO hH ⊢
       refine xV 0 22 (.pointer (some ⟨r, 0, none⟩)) hH <| xV 1 23 (.pointer (some ⟨r, 0, none⟩)) hH <| xV 2 24 (.pointer (some ⟨r, 1, none⟩)) hH <| xL 3 25 3 ⟨r, 1, none⟩ (.int .i64 x.cl) (fun _ hw => load_one ((HBr.out.kept hw.kept (fun e => e)).cell 1 |>.trans (by kernel_rfl)) U3 rfl) hH <| xU 4 26 (.agg (Ad.cells ⟨true, x.cl⟩)) (fun w' hw => exec_build 39 _ rfl (Ad.cells ⟨true, x.cl⟩) (by kernel_rfl)) hH <| xV 5 27 (.pointer (some ⟨r, 0, none⟩)) hH <| ?_
       try simp only [pS]
       refine xV 6 28 (.pointer (some ⟨r, 0, none⟩)) hH <| xV 7 29 (.pointer (some ⟨r, 7, none⟩)) hH <| xL 8 30 24 ⟨r, 7, none⟩ g.v (fun _ hw => load_one ((HBr.out.kept hw.kept (fun e => e)).cell 7 |>.trans (by kernel_rfl)) U24 rfl) hH <| xV 9 31 (.int .i64 ((i : Nat) : Int)) hH <| xU 10 32 (.pointer (some ⟨gb, 0 + i * 1, none⟩)) (fun w' hw => exec_ixA 24 1 E24 F24 _ _ rfl gb 0 g.l g.k i (Eq.trans (b := g.v) (by kernel_rfl) hsl) (by kernel_rfl) (by omega)) hH <| xL 11 33 3 ⟨gb, 0 + i * 1, none⟩ (.int .i64 z) (fun _ hw => load_one (hw.kept.cell HGc.out (fun e => e)) U3 rfl) hH <| ?_
       try simp only [pS]
       refine xU 12 34 (.agg (Ad.cells ⟨false, z⟩)) (fun w' hw => exec_build 39 _ rfl (Ad.cells ⟨false, z⟩) (by kernel_rfl)) hH <| xV 13 35 (.pointer (some ⟨r, 0, none⟩)) hH <| xV 14 36 (.pointer (some ⟨r, 0, none⟩)) hH <| xV 15 37 (.pointer (some ⟨r, 2, none⟩)) hH <| xL 16 38 3 ⟨r, 2, none⟩ (.int .i64 x.op) (fun _ hw => load_one ((HBr.out.kept hw.kept (fun e => e)).cell 2 |>.trans (by kernel_rfl)) U3 rfl) hH <| xV 17 39 (.pointer (some ⟨r, 0, none⟩)) hH <| ?_
       try simp only [pS]
       refine xV 18 40 (.pointer (some ⟨r, 0, none⟩)) hH <| xV 19 41 (.pointer (some ⟨r, 8, none⟩)) hH <| xL 20 42 3 ⟨r, 8, none⟩ (.int .i64 x.rd) (fun _ hw => load_one ((HBr.out.kept hw.kept (fun e => e)).cell 8 |>.trans (by kernel_rfl)) U3 rfl) hH <| xV 21 43 (.pointer (some ⟨r, 0, none⟩)) hH <| xV 22 44 (.pointer (some ⟨r, 0, none⟩)) hH <| xV 23 45 (.pointer (some ⟨r, 3, none⟩)) hH <| ?_
       try simp only [pS]
       refine xL 24 46 23 ⟨r, 3, none⟩ (.agg (Ky.cells x.ky)) (fun _ hw => run_load_part (cs := Rv.cs (rvL x g ba bv)) (sub := Ky.cs x.ky) (HBr.out.kept hw.kept (fun e => e)) (part_of (by kernel_rfl)) U23 rfl S23) hH <| xU 25 47 (.agg (Mg.cells ⟨1, ⟨true, x.cl⟩, ⟨false, z⟩, x.op, x.rd, x.ky, spZ, spZ, slZ, cZ, bvZ, slZ, false⟩)) (fun w' hw => exec_build 52 _ rfl (Mg.cells ⟨1, ⟨true, x.cl⟩, ⟨false, z⟩, x.op, x.rd, x.ky, spZ, spZ, slZ, cZ, bvZ, slZ, false⟩) (by kernel_rfl)) hH <| ?_
       try simp only [pS]
       have HN : Hid (∀ k, At sa k → k < wk1.heap.size) := fun k h => HO.out.own.lt h
       refine any_step (i := 26) (o := { dst := some 5, op := Op.alloc 52, type := 0, pos := "ref.go:91", after := #[], guard := none }) rfl (by kernel_rfl) (by kernel_rfl) (exec_alloc 52 rfl (Mg.cells mgZ) Z52) (Fq.front (l := []) (m := [_]) (hH.alloc _ _)) (fun hH => ?_)
       try simp only [pS]
       have HO : Hid (OwM (wk1.alloc (.cells (Mg.cells mgZ) 52)) w.heap.size ⟨sa, sn, sc⟩ (tolK x i)) := HO.out.no ((Kept.refl No _).alloc _)
       have HF : Hid (Fq No w (wk1.alloc (.cells (Mg.cells mgZ) 52)) [(wk1.heap.size, 52, Mg.cells mgZ)]) := HF.out.alloc _ _
       generalize wk1.alloc (.cells (Mg.cells mgZ) 52) = wk3 at HF HO hH ⊢
       generalize wk1.heap.size = gk2 at HF HN ⊢
       refine xS 27 52 ⟨gk2, 0, none⟩ (.agg (Mg.cells ⟨1, ⟨true, x.cl⟩, ⟨false, z⟩, x.op, x.rd, x.ky, spZ, spZ, slZ, cZ, bvZ, slZ, false⟩)) (w' := wk3.setRow gk2 (Mg.cells ⟨1, ⟨true, x.cl⟩, ⟨false, z⟩, x.op, x.rd, x.ky, spZ, spZ, slZ, cZ, bvZ, slZ, false⟩)) (rs (Mg.cs mgZ) (Mg.cs ⟨1, ⟨true, x.cl⟩, ⟨false, z⟩, x.op, x.rd, x.ky, spZ, spZ, slZ, cZ, bvZ, slZ, false⟩) (Mg.cs ⟨1, ⟨true, x.cl⟩, ⟨false, z⟩, x.op, x.rd, x.ky, spZ, spZ, slZ, cZ, bvZ, slZ, false⟩) (HF.out.box 0 _ _ _ rfl) S52 (Mg.oneL _)) (Fq.front (l := []) (m := [(gk2, 52, Mg.cells ⟨1, ⟨true, x.cl⟩, ⟨false, z⟩, x.op, x.rd, x.ky, spZ, spZ, slZ, cZ, bvZ, slZ, false⟩)]) (HF.out.set 0 rfl _)) (fun hH => ?_)
       try simp only [pS]
       have HO : Hid (OwM (wk3.setRow gk2 (Mg.cells ⟨1, ⟨true, x.cl⟩, ⟨false, z⟩, x.op, x.rd, x.ky, spZ, spZ, slZ, cZ, bvZ, slZ, false⟩)) w.heap.size ⟨sa, sn, sc⟩ (tolK x i)) := HO.out.kept (Kept.setRow _ _ _) (fun k h e => by have h1 := HN.out k h; have e : k = gk2 := e; omega)
       have HF : Hid (Fq No w (wk3.setRow gk2 (Mg.cells ⟨1, ⟨true, x.cl⟩, ⟨false, z⟩, x.op, x.rd, x.ky, spZ, spZ, slZ, cZ, bvZ, slZ, false⟩)) [(gk2, 52, Mg.cells ⟨1, ⟨true, x.cl⟩, ⟨false, z⟩, x.op, x.rd, x.ky, spZ, spZ, slZ, cZ, bvZ, slZ, false⟩)]) := HF.out.set 0 rfl _
       generalize wk3.setRow gk2 (Mg.cells ⟨1, ⟨true, x.cl⟩, ⟨false, z⟩, x.op, x.rd, x.ky, spZ, spZ, slZ, cZ, bvZ, slZ, false⟩) = wk4 at HF HO hH ⊢
       refine wpAnyH_done (by kernel_rfl) ?_ _
       try simp only [pS]
       clear hH
       go_upto_region 7 with fail
       refine WL.start <| uK (.pointer (some ⟨r, 0, none⟩)) <| uK (.pointer (some ⟨r, 0, none⟩)) <| uK (.pointer (some ⟨r, 11, none⟩)) <| uL 3 ⟨r, 11, none⟩ (.int .i64 x.ph) (load_one ((HBr.out.kept HF.out.kept (fun e => e)).cell 11 |>.trans (by kernel_rfl)) U3 rfl) <| ?_
       try simp only [pS]
       cases q1 : (x.ph == 2)
       ·skip
        refine uB .eql 3 (.int .i64 x.ph) (.int .i64 2) (.bool false) (by rw [b_eql, q1]; try rfl) <| WL.nil <| ?_
        try simp only [pS]
        go_upto_region 11 with fail
        refine WL.start <| uK (.slice sa sn sc) <| uL 52 ⟨gk2, 0, none⟩ (.agg (Mg.cells ⟨1, ⟨true, x.cl⟩, ⟨false, z⟩, x.op, x.rd, x.ky, spZ, spZ, slZ, cZ, bvZ, slZ, false⟩)) (run_load_part (cs := Mg.cs ⟨1, ⟨true, x.cl⟩, ⟨false, z⟩, x.op, x.rd, x.ky, spZ, spZ, slZ, cZ, bvZ, slZ, false⟩) (sub := Mg.cs ⟨1, ⟨true, x.cl⟩, ⟨false, z⟩, x.op, x.rd, x.ky, spZ, spZ, slZ, cZ, bvZ, slZ, false⟩) (HF.out.box 0 _ _ _ rfl) (Part.all _) U52 rfl S52) <| ?_
        try simp only [pS]
        refine uR (.slice (some ⟨wk4.heap.size, 0, none⟩) 1 1) (wk4.alloc (.cells (Mg.cells ⟨1, ⟨true, x.cl⟩, ⟨false, z⟩, x.op, x.rd, x.ky, spZ, spZ, slZ, cZ, bvZ, slZ, false⟩) 52)) (exec_slice2 57 52 _ rfl (Mg.cells ⟨1, ⟨true, x.cl⟩, ⟨false, z⟩, x.op, x.rd, x.ky, spZ, spZ, slZ, cZ, bvZ, slZ, false⟩) (.agg (Mg.cells ⟨1, ⟨true, x.cl⟩, ⟨false, z⟩, x.op, x.rd, x.ky, spZ, spZ, slZ, cZ, bvZ, slZ, false⟩)) (by kernel_rfl) (by kernel_rfl)) ?_
        try simp only [pS]
        have HO : Hid (OwM (wk4.alloc (.cells (Mg.cells ⟨1, ⟨true, x.cl⟩, ⟨false, z⟩, x.op, x.rd, x.ky, spZ, spZ, slZ, cZ, bvZ, slZ, false⟩) 52)) w.heap.size ⟨sa, sn, sc⟩ (tolK x i)) := HO.out.no ((Kept.refl No _).alloc _)
        have HF : Hid (Fq No w (wk4.alloc (.cells (Mg.cells ⟨1, ⟨true, x.cl⟩, ⟨false, z⟩, x.op, x.rd, x.ky, spZ, spZ, slZ, cZ, bvZ, slZ, false⟩) 52)) [(gk2, 52, Mg.cells ⟨1, ⟨true, x.cl⟩, ⟨false, z⟩, x.op, x.rd, x.ky, spZ, spZ, slZ, cZ, bvZ, slZ, false⟩), (wk4.heap.size, 52, Mg.cells ⟨1, ⟨true, x.cl⟩, ⟨false, z⟩, x.op, x.rd, x.ky, spZ, spZ, slZ, cZ, bvZ, slZ, false⟩)]) := HF.out.alloc _ _
        generalize wk4.alloc (.cells (Mg.cells ⟨1, ⟨true, x.cl⟩, ⟨false, z⟩, x.op, x.rd, x.ky, spZ, spZ, slZ, cZ, bvZ, slZ, false⟩) 52) = wk6 at HF HO ⊢
        generalize wk4.heap.size = gk5 at HF ⊢
        obtain ⟨sa2, cap2, w2, hrun, hown, hk2, hat2⟩ := run_appN (w := wk6) 57 57 52 30 312 (.agg mgZ.cells) U71 I52 rfl (by omega) w.heap.size sn sc sa (mgL (tolK x i)) HO.out.own (some ⟨gk5, 0, none⟩) 1 1 (Mg.cs ⟨1, ⟨true, x.cl⟩, ⟨false, z⟩, x.op, x.rd, x.ky, spZ, spZ, slZ, cZ, bvZ, slZ, false⟩) rfl (fun e => by cases e) (fun j u hj => ⟨_, rfl, by rw [addr_add, Nat.zero_add, (HF.out.box 1 _ _ _ rfl).cell]; simpa [Mg.cells] using hj⟩) (Mg.oneL _) (by omega) (by omega) (by have := HF.out.kept.size; omega)
        refine uR (.slice sa2 (sn + 1) cap2) w2 (exec_appN _ _ 57 57 rfl _ _ (by kernel_rfl) (by kernel_rfl) hrun) ?_
        try simp only [pS]
        have HNf : Hid (tolK x (i + 1) = tolK x i ++ [⟨1, ⟨true, x.cl⟩, ⟨false, z⟩, x.op, x.rd, x.ky, spZ, spZ, slZ, cZ, bvZ, slZ, false⟩]) := by show tolK x i ++ _ = _; rw [hbb, ← hzz]; simp [msgR, q1]
        have HO2 : Hid (OwM w2 w.heap.size ⟨sa2, sn + 1, cap2⟩ (tolK x (i + 1))) := ⟨by rw [HNf.out, mgL_app, mgL_1]; exact hown, by rw [HNf.out]; simpa using HO.out.len⟩
        have HF0 : Hid (Fq No w w2 []) := (show Fq No w wk6 ([] ++ [(gk2, 52, Mg.cells ⟨1, ⟨true, x.cl⟩, ⟨false, z⟩, x.op, x.rd, x.ky, spZ, spZ, slZ, cZ, bvZ, slZ, false⟩), (gk5, 52, Mg.cells ⟨1, ⟨true, x.cl⟩, ⟨false, z⟩, x.op, x.rd, x.ky, spZ, spZ, slZ, cZ, bvZ, slZ, false⟩)]) from HF.out).front.app HO.out.own hk2 (by simp)
        clear hown hk2 hat2 hrun
        refine uK (.slice sa2 (sn + 1) cap2) <| WL.nil <| ?_
        try simp only [pS]
        have HF := HF0
        go_upto_region 4 with fail
        refine WL.start <| uK (.int .i64 ((i : Nat) : Int)) <| uB .add 3 (.int .i64 ((i : Nat) : Int)) (.int .i64 1) (.int .i64 (((i + 1) : Nat) : Int)) (b_addw _ _ _ (by rw [IntKind.wrap_i64]; omega) _) <| uK (.int .i64 (((i + 1) : Nat) : Int)) <| WL.nil <| ?_
        try simp only [pS]
        go_wp2
        go_roundw
        case rel => exact ⟨i + 1, sa2, sn + 1, cap2, rfl, by go_num, by omega, by omega, HO2, HF0⟩
        case measure => simp [intOf]; omega
       ·skip
        refine uB .eql 3 (.int .i64 x.ph) (.int .i64 2) (.bool true) (by rw [b_eql, q1]; try rfl) <| WL.nil <| ?_
        try simp only [pS]
        go_upto_region 8 with fail
        refine WL.start <| uK (.pointer (some ⟨gk2, 0, none⟩)) <| ?_
        try simp only [pS]
        refine uT 3 ⟨gk2, 0, none⟩ (.int .i64 2) (wk4.setRow gk2 (Mg.cells ⟨2, ⟨true, x.cl⟩, ⟨false, z⟩, x.op, x.rd, x.ky, spZ, spZ, slZ, cZ, bvZ, slZ, false⟩)) (rs (Mg.cs ⟨1, ⟨true, x.cl⟩, ⟨false, z⟩, x.op, x.rd, x.ky, spZ, spZ, slZ, cZ, bvZ, slZ, false⟩) ([.int .i64 2]) (Mg.cs ⟨2, ⟨true, x.cl⟩, ⟨false, z⟩, x.op, x.rd, x.ky, spZ, spZ, slZ, cZ, bvZ, slZ, false⟩) (HF.out.box 0 _ _ _ rfl) S3 (by simp [Value.oneCell', Sl.v])) ?_
        try simp only [pS]
        have HO : Hid (OwM (wk4.setRow gk2 (Mg.cells ⟨2, ⟨true, x.cl⟩, ⟨false, z⟩, x.op, x.rd, x.ky, spZ, spZ, slZ, cZ, bvZ, slZ, false⟩)) w.heap.size ⟨sa, sn, sc⟩ (tolK x i)) := HO.out.kept (Kept.setRow _ _ _) (fun k h e => by have h1 := HN.out k h; have e : k = gk2 := e; omega)
        have HF : Hid (Fq No w (wk4.setRow gk2 (Mg.cells ⟨2, ⟨true, x.cl⟩, ⟨false, z⟩, x.op, x.rd, x.ky, spZ, spZ, slZ, cZ, bvZ, slZ, false⟩)) [(gk2, 52, Mg.cells ⟨2, ⟨true, x.cl⟩, ⟨false, z⟩, x.op, x.rd, x.ky, spZ, spZ, slZ, cZ, bvZ, slZ, false⟩)]) := HF.out.set 0 rfl _
        generalize wk4.setRow gk2 (Mg.cells ⟨2, ⟨true, x.cl⟩, ⟨false, z⟩, x.op, x.rd, x.ky, spZ, spZ, slZ, cZ, bvZ, slZ, false⟩) = wk7 at HF HO ⊢
        refine WL.nil ?_
        try simp only [pS]
        go_upto_region 9 with fail
        refine WL.start <| uK (.pointer (some ⟨r, 0, none⟩)) <| uK (.pointer (some ⟨r, 0, none⟩)) <| uK (.pointer (some ⟨r, 14, none⟩)) <| uL 41 ⟨r, 14, none⟩ (.agg (Sp.cells x.tag)) (run_load_part (cs := Rv.cs (rvL x g ba bv)) (sub := Sp.cs x.tag) (HBr.out.kept HF.out.kept (fun e => e)) (part_of (by kernel_rfl)) U41 rfl S41) <| uK (.pointer (some ⟨gk2, 11, none⟩)) <| ?_
        try simp only [pS]
        refine uT 41 ⟨gk2, 11, none⟩ (.agg (Sp.cells x.tag)) (wk7.setRow gk2 (Mg.cells ⟨2, ⟨true, x.cl⟩, ⟨false, z⟩, x.op, x.rd, x.ky, x.tag, spZ, slZ, cZ, bvZ, slZ, false⟩)) (rs (Mg.cs ⟨2, ⟨true, x.cl⟩, ⟨false, z⟩, x.op, x.rd, x.ky, spZ, spZ, slZ, cZ, bvZ, slZ, false⟩) (Sp.cs x.tag) (Mg.cs ⟨2, ⟨true, x.cl⟩, ⟨false, z⟩, x.op, x.rd, x.ky, x.tag, spZ, slZ, cZ, bvZ, slZ, false⟩) (HF.out.box 0 _ _ _ rfl) S41 (Sp.oneL _)) ?_
        try simp only [pS]
        have HO : Hid (OwM (wk7.setRow gk2 (Mg.cells ⟨2, ⟨true, x.cl⟩, ⟨false, z⟩, x.op, x.rd, x.ky, x.tag, spZ, slZ, cZ, bvZ, slZ, false⟩)) w.heap.size ⟨sa, sn, sc⟩ (tolK x i)) := HO.out.kept (Kept.setRow _ _ _) (fun k h e => by have h1 := HN.out k h; have e : k = gk2 := e; omega)
        have HF : Hid (Fq No w (wk7.setRow gk2 (Mg.cells ⟨2, ⟨true, x.cl⟩, ⟨false, z⟩, x.op, x.rd, x.ky, x.tag, spZ, slZ, cZ, bvZ, slZ, false⟩)) [(gk2, 52, Mg.cells ⟨2, ⟨true, x.cl⟩, ⟨false, z⟩, x.op, x.rd, x.ky, x.tag, spZ, slZ, cZ, bvZ, slZ, false⟩)]) := HF.out.set 0 rfl _
        generalize wk7.setRow gk2 (Mg.cells ⟨2, ⟨true, x.cl⟩, ⟨false, z⟩, x.op, x.rd, x.ky, x.tag, spZ, slZ, cZ, bvZ, slZ, false⟩) = wk8 at HF HO ⊢
        refine WL.nil ?_
        try simp only [pS]
        go_upto_region 10 with fail
        refine WL.start <| uK (.pointer (some ⟨r, 0, none⟩)) <| uK (.pointer (some ⟨r, 0, none⟩)) <| uK (.pointer (some ⟨r, 10, none⟩)) <| uL 25 ⟨r, 10, none⟩ (x.bl.v) (load_one ((HBr.out.kept HF.out.kept (fun e => e)).cell 10 |>.trans (by kernel_rfl)) U25 rfl) <| uK (.pointer (some ⟨gk2, 15, none⟩)) <| ?_
        try simp only [pS]
        refine uT 25 ⟨gk2, 15, none⟩ (x.bl.v) (wk8.setRow gk2 (Mg.cells ⟨2, ⟨true, x.cl⟩, ⟨false, z⟩, x.op, x.rd, x.ky, x.tag, spZ, x.bl, cZ, bvZ, slZ, false⟩)) (rs (Mg.cs ⟨2, ⟨true, x.cl⟩, ⟨false, z⟩, x.op, x.rd, x.ky, x.tag, spZ, slZ, cZ, bvZ, slZ, false⟩) ([x.bl.v]) (Mg.cs ⟨2, ⟨true, x.cl⟩, ⟨false, z⟩, x.op, x.rd, x.ky, x.tag, spZ, x.bl, cZ, bvZ, slZ, false⟩) (HF.out.box 0 _ _ _ rfl) S25 (by simp [Value.oneCell', Sl.v])) ?_
        try simp only [pS]
        have HO : Hid (OwM (wk8.setRow gk2 (Mg.cells ⟨2, ⟨true, x.cl⟩, ⟨false, z⟩, x.op, x.rd, x.ky, x.tag, spZ, x.bl, cZ, bvZ, slZ, false⟩)) w.heap.size ⟨sa, sn, sc⟩ (tolK x i)) := HO.out.kept (Kept.setRow _ _ _) (fun k h e => by have h1 := HN.out k h; have e : k = gk2 := e; omega)
        have HF : Hid (Fq No w (wk8.setRow gk2 (Mg.cells ⟨2, ⟨true, x.cl⟩, ⟨false, z⟩, x.op, x.rd, x.ky, x.tag, spZ, x.bl, cZ, bvZ, slZ, false⟩)) [(gk2, 52, Mg.cells ⟨2, ⟨true, x.cl⟩, ⟨false, z⟩, x.op, x.rd, x.ky, x.tag, spZ, x.bl, cZ, bvZ, slZ, false⟩)]) := HF.out.set 0 rfl _
        generalize wk8.setRow gk2 (Mg.cells ⟨2, ⟨true, x.cl⟩, ⟨false, z⟩, x.op, x.rd, x.ky, x.tag, spZ, x.bl, cZ, bvZ, slZ, false⟩) = wk9 at HF HO ⊢
        refine WL.nil ?_
        try simp only [pS]
        go_upto_region 11 with fail
        refine WL.start <| uK (.slice sa sn sc) <| uL 52 ⟨gk2, 0, none⟩ (.agg (Mg.cells ⟨2, ⟨true, x.cl⟩, ⟨false, z⟩, x.op, x.rd, x.ky, x.tag, spZ, x.bl, cZ, bvZ, slZ, false⟩)) (run_load_part (cs := Mg.cs ⟨2, ⟨true, x.cl⟩, ⟨false, z⟩, x.op, x.rd, x.ky, x.tag, spZ, x.bl, cZ, bvZ, slZ, false⟩) (sub := Mg.cs ⟨2, ⟨true, x.cl⟩, ⟨false, z⟩, x.op, x.rd, x.ky, x.tag, spZ, x.bl, cZ, bvZ, slZ, false⟩) (HF.out.box 0 _ _ _ rfl) (Part.all _) U52 rfl S52) <| ?_
        try simp only [pS]
        refine uR (.slice (some ⟨wk9.heap.size, 0, none⟩) 1 1) (wk9.alloc (.cells (Mg.cells ⟨2, ⟨true, x.cl⟩, ⟨false, z⟩, x.op, x.rd, x.ky, x.tag, spZ, x.bl, cZ, bvZ, slZ, false⟩) 52)) (exec_slice2 57 52 _ rfl (Mg.cells ⟨2, ⟨true, x.cl⟩, ⟨false, z⟩, x.op, x.rd, x.ky, x.tag, spZ, x.bl, cZ, bvZ, slZ, false⟩) (.agg (Mg.cells ⟨2, ⟨true, x.cl⟩, ⟨false, z⟩, x.op, x.rd, x.ky, x.tag, spZ, x.bl, cZ, bvZ, slZ, false⟩)) (by kernel_rfl) (by kernel_rfl)) ?_
        try simp only [pS]
        have HO : Hid (OwM (wk9.alloc (.cells (Mg.cells ⟨2, ⟨true, x.cl⟩, ⟨false, z⟩, x.op, x.rd, x.ky, x.tag, spZ, x.bl, cZ, bvZ, slZ, false⟩) 52)) w.heap.size ⟨sa, sn, sc⟩ (tolK x i)) := HO.out.no ((Kept.refl No _).alloc _)
        have HF : Hid (Fq No w (wk9.alloc (.cells (Mg.cells ⟨2, ⟨true, x.cl⟩, ⟨false, z⟩, x.op, x.rd, x.ky, x.tag, spZ, x.bl, cZ, bvZ, slZ, false⟩) 52)) [(gk2, 52, Mg.cells ⟨2, ⟨true, x.cl⟩, ⟨false, z⟩, x.op, x.rd, x.ky, x.tag, spZ, x.bl, cZ, bvZ, slZ, false⟩), (wk9.heap.size, 52, Mg.cells ⟨2, ⟨true, x.cl⟩, ⟨false, z⟩, x.op, x.rd, x.ky, x.tag, spZ, x.bl, cZ, bvZ, slZ, false⟩)]) := HF.out.alloc _ _
        generalize wk9.alloc (.cells (Mg.cells ⟨2, ⟨true, x.cl⟩, ⟨false, z⟩, x.op, x.rd, x.ky, x.tag, spZ, x.bl, cZ, bvZ, slZ, false⟩) 52) = wk11 at HF HO ⊢
        generalize wk9.heap.size = gk10 at HF ⊢
        obtain ⟨sa2, cap2, w2, hrun, hown, hk2, hat2⟩ := run_appN (w := wk11) 57 57 52 30 312 (.agg mgZ.cells) U71 I52 rfl (by omega) w.heap.size sn sc sa (mgL (tolK x i)) HO.out.own (some ⟨gk10, 0, none⟩) 1 1 (Mg.cs ⟨2, ⟨true, x.cl⟩, ⟨false, z⟩, x.op, x.rd, x.ky, x.tag, spZ, x.bl, cZ, bvZ, slZ, false⟩) rfl (fun e => by cases e) (fun j u hj => ⟨_, rfl, by rw [addr_add, Nat.zero_add, (HF.out.box 1 _ _ _ rfl).cell]; simpa [Mg.cells] using hj⟩) (Mg.oneL _) (by omega) (by omega) (by have := HF.out.kept.size; omega)
        refine uR (.slice sa2 (sn + 1) cap2) w2 (exec_appN _ _ 57 57 rfl _ _ (by kernel_rfl) (by kernel_rfl) hrun) ?_
        try simp only [pS]
        have HNf : Hid (tolK x (i + 1) = tolK x i ++ [⟨2, ⟨true, x.cl⟩, ⟨false, z⟩, x.op, x.rd, x.ky, x.tag, spZ, x.bl, cZ, bvZ, slZ, false⟩]) := by show tolK x i ++ _ = _; rw [hbb, ← hzz]; simp [msgR, q1]
        have HO2 : Hid (OwM w2 w.heap.size ⟨sa2, sn + 1, cap2⟩ (tolK x (i + 1))) := ⟨by rw [HNf.out, mgL_app, mgL_1]; exact hown, by rw [HNf.out]; simpa using HO.out.len⟩
        have HF0 : Hid (Fq No w w2 []) := (show Fq No w wk11 ([] ++ [(gk2, 52, Mg.cells ⟨2, ⟨true, x.cl⟩, ⟨false, z⟩, x.op, x.rd, x.ky, x.tag, spZ, x.bl, cZ, bvZ, slZ, false⟩), (gk10, 52, Mg.cells ⟨2, ⟨true, x.cl⟩, ⟨false, z⟩, x.op, x.rd, x.ky, x.tag, spZ, x.bl, cZ, bvZ, slZ, false⟩)]) from HF.out).front.app HO.out.own hk2 (by simp)
        clear hown hk2 hat2 hrun
        refine uK (.slice sa2 (sn + 1) cap2) <| WL.nil <| ?_
        try simp only [pS]
        have HF := HF0
        go_upto_region 4 with fail
        refine WL.start <| uK (.int .i64 ((i : Nat) : Int)) <| uB .add 3 (.int .i64 ((i : Nat) : Int)) (.int .i64 1) (.int .i64 (((i + 1) : Nat) : Int)) (b_addw _ _ _ (by rw [IntKind.wrap_i64]; omega) _) <| uK (.int .i64 (((i + 1) : Nat) : Int)) <| WL.nil <| ?_
        try simp only [pS]
        go_wp2
        go_roundw
        case rel => exact ⟨i + 1, sa2, sn + 1, cap2, rfl, by go_num, by omega, by omega, HO2, HF0⟩
        case measure => simp [intOf]; omega
      ·skip
       have HO2 : Hid (OwM wr w.heap.size ⟨sa, sn, sc⟩ (tolK x (i + 1))) := by unfold tolK; rw [hbb]; simpa using HO
       go_upto_region 3 with fail
       refine WL.start <| uK (.int .i64 ((i : Nat) : Int)) <| uK (.pointer (some ⟨r, 0, none⟩)) <| uK (.pointer (some ⟨r, 0, none⟩)) <| uK (.pointer (some ⟨r, 7, none⟩)) <| uL 24 ⟨r, 7, none⟩ (g.v) (load_one ((HBr.out.kept HF.out.kept (fun e => e)).cell 7 |>.trans (by kernel_rfl)) U24 rfl) <| uK (.int .i64 ((g.l : Nat) : Int)) <| uB .lss 3 (.int .i64 ((i : Nat) : Int)) (.int .i64 ((g.l : Nat) : Int)) (.bool true) (by rw [b_lss, decide_eq_true (by omega)]) <| WL.nil <| ?_
       try simp only [pS]
       go_upto_region 5 with fail
       refine WL.start <| uK (.pointer (some ⟨r, 0, none⟩)) <| uK (.pointer (some ⟨r, 0, none⟩)) <| uK (.pointer (some ⟨r, 12, none⟩)) <| uL 60 ⟨r, 12, none⟩ (.slice (some ⟨ba, 0, none⟩) g.l g.l) (load_one ((HBr.out.kept HF.out.kept (fun e => e)).cell 12 |>.trans (by kernel_rfl)) U70 rfl) <| uK (.int .i64 ((i : Nat) : Int)) <| uW (.pointer (some ⟨ba, 0 + i * 1, none⟩)) (exec_ixA 60 1 E70 F70 _ _ rfl ba 0 g.l g.l i (by kernel_rfl) (by kernel_rfl) (by omega)) <| uL 4 ⟨ba, 0 + i * 1, none⟩ (.bool true) (ld_bo (HBa.out.kept HF.out.kept (fun e => e)) (by rw [hbb])) <| WL.nil <| ?_
       try simp only [pS]
       go_upto_region 4 with fail
       refine WL.start <| uK (.int .i64 ((i : Nat) : Int)) <| uB .add 3 (.int .i64 ((i : Nat) : Int)) (.int .i64 1) (.int .i64 (((i + 1) : Nat) : Int)) (b_addw _ _ _ (by rw [IntKind.wrap_i64]; omega) _) <| uK (.int .i64 (((i + 1) : Nat) : Int)) <| WL.nil <| ?_
       try simp only [pS]
       go_wp2
       go_roundw
       case rel => exact ⟨i + 1, sa, sn, sc, rfl, by go_num, by omega, by omega, HO2, HF⟩
       case measure => simp [intOf]; omega
    · skip
      go_upto_region 3 with fail
      refine WL.start <| uK (.int .i64 ((i : Nat) : Int)) <| uK (.pointer (some ⟨r, 0, none⟩)) <| uK (.pointer (some ⟨r, 0, none⟩)) <| uK (.pointer (some ⟨r, 7, none⟩)) <| uL 24 ⟨r, 7, none⟩ (g.v) (load_one ((HBr.out.kept HF.out.kept (fun e => e)).cell 7 |>.trans (by kernel_rfl)) U24 rfl) <| uK (.int .i64 ((g.l : Nat) : Int)) <| uB .lss 3 (.int .i64 ((i : Nat) : Int)) (.int .i64 ((g.l : Nat) : Int)) (.bool false) (by rw [b_lss, decide_eq_false (by omega)]) <| WL.nil <| ?_
      try simp only [pS]
      go_upto_region 12 with fail
      refine WL.start <| uK (.slice sa sn sc) <| uK (.slice sa sn sc) <| WL.nil <| ?_
      try simp only [pS]
      go_wp2
      rw [HC.out]
      exact ⟨⟨sa, sn, sc⟩, rfl, by unfold tolR; rw [hzl, show g.l = i by omega]; exact HO.out, HF.out.kept⟩

end Go.Proofs.Ythnecaejhnojfaa.Md
