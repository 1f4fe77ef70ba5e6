import Derived.Test.YthnecaejhnojfaaRc
namespace Go.Proofs.Ythnecaejhnojfaa.Md
open Go.RowKit
set_option linter.unusedVariables false
set_option linter.unusedSimpArgs false

theorem rless_sp (a b : Sp) (w : World) : Calls Try.prog 38 #[.agg (Sp.cells a), .agg (Sp.cells b)] w (fun e w' => e = .returned (.bool (lessB a.n a.c b.n b.c)) ∧ Kept No w w') := rless_any _ _ _ _ _
/-- The greatest of what has been answered, and whether all are alike. -/
def secK (x : Rx) : Nat → Option Nat × Bool
  | 0 => (none, true)
  | i + 1 => if x.qa[i]?.getD false then
      match (secK x i).1 with
      | none => (some i, (secK x i).2)
      | some j => (if lessB (gAt x.vs j).st.n (gAt x.vs j).st.c (gAt x.vs i).st.n (gAt x.vs i).st.c then some i else some j, (secK x i).2 && eqS (gAt x.vs i).st (gAt x.vs j).st)
    else secK x i
def layR (x : Rx) : Rx × List Mg := if 1099511627776 ≤ x.rd then (endR x 4, []) else (freR { x with rd := x.rd + 1, ph := 2 }, tolR (freR { x with rd := x.rd + 1, ph := 2 }))
def secR (x : Rx) (m : Mg) (al : Bool) (nb : Nat) : Rx × List Mg :=
  if x.wr then
    if 1099511627776 ≤ m.st.n then (endR { x with tag := m.st } 4, []) else layR { x with tag := ⟨m.st.n + 1, x.cl⟩ }
  else
    if al then (endR { x with tag := m.st, bl := if eqS m.st spZ then ⟨some ⟨nb, 0, none⟩, x.sz.toNat, x.sz.toNat⟩ else m.bl } 0, []) else layR { x with tag := m.st, bl := if eqS m.st spZ then ⟨some ⟨nb, 0, none⟩, x.sz.toNat, x.sz.toNat⟩ else m.bl }
def RfO (w : World) (r : Nat) (g : Sl) (ba bv : Nat) (x : Rx) (l : List Mg) (e : Ending) (w' : World) : Prop :=
  ∃ (t : Sl) (ba' bv' : Nat), e = .returned t.v ∧ OwM w' w.heap.size t l ∧ RfL w' r x g ba' bv' ∧ (ba' = ba ∨ w.heap.size ≤ ba') ∧ (bv' = bv ∨ w.heap.size ≤ bv')
def SecOut (w : World) (r : Nat) (g : Sl) (ba bv : Nat) (x : Rx) (m : Mg) (al : Bool) (e : Ending) (w' : World) : Prop :=
  ∃ nb, RfO w r g ba bv (secR x m al nb).1 (secR x m al nb).2 e w' ∧ (x.wr = false → eqS m.st spZ = true → Box w' nb 5 (u8L (List.replicate x.sz.toNat 0)).toArray ∧ w.heap.size ≤ nb) ∧ Kept (Only r) w w'
theorem make_by' (w : World) (n : Int) (h0 : 0 ≤ n) (hb : n ≤ 4096) : (Instr.makeSlice 25 (.int .i64 n) (.int .i64 n)).run Try.prog w = .ok (.slice (some ⟨w.heap.size, 0, none⟩) n.toNat n.toNat) (w.alloc (.cells (u8L (List.replicate n.toNat 0)).toArray 5)) := by
  have h := make_by w n.toNat (by omega)
  rw [show ((n.toNat : Nat) : Int) = n by omega] at h
  exact h
set_option maxRecDepth 100000 in
set_option maxHeartbeats 4000000 in
theorem rSecond (r : Nat) (x : Rx) (g : Sl) (ba bv f : Nat) (al : Bool) (w : World) (hB : RfL w r x g ba bv) (hs : secK x x.zs.length = (some f, al)) (hf : f < x.zs.length) (h63 : -9223372036854775808 ≤ (gAt x.vs f).st.n) (hrd : 0 ≤ x.rd) (hz0 : 0 ≤ x.sz) (hz1 : x.sz ≤ 4096) : Calls Try.prog 30 #[.pointer (some ⟨r, 0, none⟩)] w (SecOut w r g ba bv x (gAt x.vs f) al) := by
  obtain ⟨C, hC⟩ : ∃ C : Ending → World → Prop, C = (SecOut w r g ba bv x (gAt x.vs f) al) := ⟨_, rfl⟩
  have HC : Hid (C = (SecOut w r g ba bv x (gAt x.vs f) al)) := hC
  rw [← hC]
  clear hC
  have HBr : Hid (Box w r 62 (rvL x g ba bv).cells) := hB.box
  have HG : Hid (OwI w 0 g x.zs) := hB.gr
  have hzl := hB.gr.len
  have hnn := hB.hn
  have HBa : Hid (Box w ba 4 (boL x.qa).toArray) := hB.ba
  have HBv : Hid (Box w bv 52 (mgL x.vs).toArray) := hB.bv
  have hla := hB.la
  have hlv := hB.lv
  have HRL := rvL x g ba bv
  have hR := HBr.out
  have hra : ba ≠ r := box_ne HBa.out hR (by decide)
  have hrv : bv ≠ r := box_ne HBv.out hR (by decide)
  have hrg : ∀ k, At g.a k → k ≠ r := fun k h e => HG.out.own.notBox hR (by decide) (e ▸ h)
  obtain ⟨M, hM⟩ : ∃ M, M = gAt x.vs f := ⟨_, rfl⟩
  have hMv : x.vs[f]? = some M := by rw [hM]; exact gAt_some (by omega)
  rw [← hM] at h63 HC
  have HM : Hid (M = gAt x.vs f) := hM
  have HS : Hid (secK x x.zs.length = (some f, al)) := hs
  clear hM hs HRL
  have HF : Hid (Fq (Only r) w w [(r, 62, (rvL x g ba bv).cells)]) := ⟨Kept.refl _ _, fun i g' T cs hi => by
    match i, hi with
    | 0, hi => cases hi; exact hR, fun i g' T cs hi => by
    match i, hi with
    | 0, hi => cases hi; exact .inr rfl, fun i j g' T cs T' cs' hi hj => by
    match i, j, hi, hj with
    | 0, 0, _, _ => rfl⟩
  clear hB HBr
  go_enter Try.func30, Try.ntmps30
  go_upto_region 0 with fail
  refine WL.start <| uK (.slice none 0 0) <| WL.nil <| ?_
  try simp only [pS]
  go_upto_region 1 with fail
  refine WL.start <| uK (.int .i64 (-1)) <| WL.nil <| ?_
  try simp only [pS]
  go_upto_region 2 with fail
  refine WL.start <| uK (.bool true) <| WL.nil <| ?_
  try simp only [pS]
  go_upto_region 3 with fail
  refine WL.start <| uK (.int .i64 0) <| WL.nil <| ?_
  try simp only [pS]
  go_wp2
  go_loopw [3, 4, 5] (fun v3 v4 v5 wr => ∃ (i : Nat) (o : Option Nat) (b : Bool), v3 = .int .i64 (match o with | none => -1 | some j => (j : Int)) ∧ v4 = .bool b ∧ v5 = .int .i64 ((i : Nat) : Int) ∧ i ≤ g.l ∧ (∀ j, o = some j → j < i) ∧ Hid (secK x i = (o, b)) ∧ Hid (Fq (Only r) w (wr) [(r, 62, Rv.cells (rvL x g ba bv))])) (fun _ _ i _ => g.l - (intOf i).toNat)
  case atStart => exact ⟨0, none, true, rfl, rfl, by go_num, by omega, by simp, show secK x 0 = (none, true) from rfl, HF⟩
  case round =>
    clear HF
    obtain ⟨i, o, b, rfl, rfl, rfl, hi, ho, HP, HF⟩ := hrel
    by_cases hlt : i < g.l
    · skip
      obtain ⟨bb, hbb⟩ := at_b hla hlt
      cases bb
      ·skip
       have HP2 : Hid (secK x (i + 1) = (o, b)) := by show secK x (i + 1) = _; unfold secK; rw [hbb]; exact HP.out
       go_upto_region 4 with fail
       refine WL.start <| uK (.int .i64 ((i : Nat) : Int)) <| uK (.pointer (some ⟨r, 0, none⟩)) <| uK (.pointer (some ⟨r, 0, none⟩)) <| uK (.pointer (some ⟨r, 7, none⟩)) <| uL 24 ⟨r, 7, none⟩ (g.v) (load_one ((HF.out.box 0 _ _ _ rfl).cell 7 |>.trans (by kernel_rfl)) U24 rfl) <| uK (.int .i64 ((g.l : Nat) : Int)) <| uB .lss 3 (.int .i64 ((i : Nat) : Int)) (.int .i64 ((g.l : Nat) : Int)) (.bool true) (by rw [b_lss, decide_eq_true (by omega)]) <| WL.nil <| ?_
       try simp only [pS]
       go_upto_region 6 with fail
       refine WL.start <| uK (.pointer (some ⟨r, 0, none⟩)) <| uK (.pointer (some ⟨r, 0, none⟩)) <| uK (.pointer (some ⟨r, 12, none⟩)) <| uL 60 ⟨r, 12, none⟩ (.slice (some ⟨ba, 0, none⟩) g.l g.l) (load_one ((HF.out.box 0 _ _ _ rfl).cell 12 |>.trans (by kernel_rfl)) U70 rfl) <| uK (.int .i64 ((i : Nat) : Int)) <| uW (.pointer (some ⟨ba, 0 + i * 1, none⟩)) (exec_ixA 60 1 E70 F70 _ _ rfl ba 0 g.l g.l i (by kernel_rfl) (by kernel_rfl) (by omega)) <| uL 4 ⟨ba, 0 + i * 1, none⟩ (.bool false) (ld_bo (HBa.out.kept HF.out.kept (fun e => hra e)) (by rw [hbb])) <| ?_
       try simp only [pS]
       refine uK (.bool true) <| WL.nil <| ?_
       try simp only [pS]
       go_upto_region 5 with fail
       refine WL.start <| uK (.int .i64 ((i : Nat) : Int)) <| uB .add 3 (.int .i64 ((i : Nat) : Int)) (.int .i64 1) (.int .i64 (((i + 1) : Nat) : Int)) (b_addw _ _ _ (by rw [IntKind.wrap_i64]; omega) _) <| uK (.int .i64 (((i + 1) : Nat) : Int)) <| WL.nil <| ?_
       try simp only [pS]
       go_wp2
       go_roundw
       case rel => exact ⟨i + 1, o, b, rfl, rfl, by go_num, by omega, fun j e => by have := ho j e; omega, HP2, HF⟩
       case measure => simp [intOf]; omega
      ·skip
       cases o with
       | none =>
         have HP2 : Hid (secK x (i + 1) = (some i, b)) := by show secK x (i + 1) = _; unfold secK; rw [hbb, HP.out]; rfl
         dsimp only
         go_upto_region 4 with fail
         refine WL.start <| uK (.int .i64 ((i : Nat) : Int)) <| uK (.pointer (some ⟨r, 0, none⟩)) <| uK (.pointer (some ⟨r, 0, none⟩)) <| uK (.pointer (some ⟨r, 7, none⟩)) <| uL 24 ⟨r, 7, none⟩ (g.v) (load_one ((HF.out.box 0 _ _ _ rfl).cell 7 |>.trans (by kernel_rfl)) U24 rfl) <| uK (.int .i64 ((g.l : Nat) : Int)) <| uB .lss 3 (.int .i64 ((i : Nat) : Int)) (.int .i64 ((g.l : Nat) : Int)) (.bool true) (by rw [b_lss, decide_eq_true (by omega)]) <| WL.nil <| ?_
         try simp only [pS]
         go_upto_region 6 with fail
         refine WL.start <| uK (.pointer (some ⟨r, 0, none⟩)) <| uK (.pointer (some ⟨r, 0, none⟩)) <| uK (.pointer (some ⟨r, 12, none⟩)) <| uL 60 ⟨r, 12, none⟩ (.slice (some ⟨ba, 0, none⟩) g.l g.l) (load_one ((HF.out.box 0 _ _ _ rfl).cell 12 |>.trans (by kernel_rfl)) U70 rfl) <| uK (.int .i64 ((i : Nat) : Int)) <| uW (.pointer (some ⟨ba, 0 + i * 1, none⟩)) (exec_ixA 60 1 E70 F70 _ _ rfl ba 0 g.l g.l i (by kernel_rfl) (by kernel_rfl) (by omega)) <| uL 4 ⟨ba, 0 + i * 1, none⟩ (.bool true) (ld_bo (HBa.out.kept HF.out.kept (fun e => hra e)) (by rw [hbb])) <| ?_
         try simp only [pS]
         refine uK (.bool false) <| WL.nil <| ?_
         try simp only [pS]
         go_upto_region 7 with fail
         refine wp_region_held_drew (S := fun w' => Fq (Only r) w w' [(r, 62, Rv.cells (rvL x g ba bv))]) rfl (HF.out.drew) (fun hH => ?_)
         have HF : Hid (Fq (Only r) w (wr.drew) [(r, 62, Rv.cells (rvL x g ba bv))]) := HF.out.drew
         generalize wr.drew = wk1 at HF hH ⊢
         refine xV 0 23 (.int .i64 (-1)) hH <| xB 1 24 .geq 3 (.int .i64 (-1)) (.int .i64 0) (.bool false) (fun _ _ => by rw [b_geq, decide_eq_false (by omega)]) hH <| xV 2 25 (.bool false) hH <| xZ 3 26 hH <| xZ 4 27 hH <| xZ 5 28 hH <| ?_
         try simp only [pS]
         refine xZ 6 29 hH <| xZ 7 30 hH <| xZ 8 31 hH <| xZ 9 32 hH <| xZ 10 33 hH <| xZ 11 34 hH <| ?_
         try simp only [pS]
         refine xZ 12 35 hH <| xZ 13 36 hH <| xZ 14 37 hH <| xZ 15 38 hH <| xZ 16 39 hH <| xZ 17 40 hH <| ?_
         try simp only [pS]
         refine xZ 18 41 hH <| xZ 19 42 hH <| xV 20 43 (.bool false) hH <| ?_
         try simp only [pS]
         refine wpAnyH_done (by kernel_rfl) ?_ _
         try simp only [pS]
         clear hH
         go_upto_region 9 with fail
         refine wp_region_held_drew (S := fun w' => Fq (Only r) w w' [(r, 62, Rv.cells (rvL x g ba bv))]) rfl (HF.out.drew) (fun hH => ?_)
         have HF : Hid (Fq (Only r) w (wk1.drew) [(r, 62, Rv.cells (rvL x g ba bv))]) := HF.out.drew
         generalize wk1.drew = wk2 at HF hH ⊢
         refine xV 0 44 (.int .i64 (-1)) hH <| xB 1 45 .lss 3 (.int .i64 (-1)) (.int .i64 0) (.bool true) (fun _ _ => by rw [b_lss, decide_eq_true (by omega)]) hH <| xV 2 46 (.bool true) hH <| xZ 3 47 hH <| xZ 4 48 hH <| xZ 5 49 hH <| ?_
         try simp only [pS]
         refine xZ 6 50 hH <| xZ 7 51 hH <| xZ 8 52 hH <| xZ 9 53 hH <| xZ 10 54 hH <| xZ 11 55 hH <| ?_
         try simp only [pS]
         refine xZ 12 56 hH <| xZ 13 57 hH <| xZ 14 58 hH <| xZ 15 59 hH <| xZ 16 60 hH <| xZ 17 61 hH <| ?_
         try simp only [pS]
         refine xZ 18 62 hH <| xZ 19 63 hH <| xV 20 64 (.bool true) hH <| ?_
         try simp only [pS]
         refine wpAnyH_done (by kernel_rfl) ?_ _
         try simp only [pS]
         clear hH
         go_upto_region 10 with fail
         refine WL.start <| uK (.int .i64 ((i : Nat) : Int)) <| uK (.int .i64 ((i : Nat) : Int)) <| WL.nil <| ?_
         try simp only [pS]
         go_upto_region 5 with fail
         refine WL.start <| uK (.int .i64 ((i : Nat) : Int)) <| uB .add 3 (.int .i64 ((i : Nat) : Int)) (.int .i64 1) (.int .i64 (((i + 1) : Nat) : Int)) (b_addw _ _ _ (by rw [IntKind.wrap_i64]; omega) _) <| uK (.int .i64 (((i + 1) : Nat) : Int)) <| WL.nil <| ?_
         try simp only [pS]
         go_wp2
         go_roundw
         case rel => exact ⟨i + 1, some i, b, rfl, rfl, by go_num, by omega, fun j e => by cases e; omega, HP2, HF⟩
         case measure => simp [intOf]; omega
       | some j =>
         have hj : j < i := ho j rfl
         have hq : secK x (i + 1) = (if lessB (gAt x.vs j).st.n (gAt x.vs j).st.c (gAt x.vs i).st.n (gAt x.vs i).st.c then some i else some j, b && eqS (gAt x.vs i).st (gAt x.vs j).st) := by
           show (if x.qa[i]?.getD false then _ else _) = _
           rw [hbb, HP.out]; rfl
         dsimp only
         go_upto_region 4 with fail
         refine WL.start <| uK (.int .i64 ((i : Nat) : Int)) <| uK (.pointer (some ⟨r, 0, none⟩)) <| uK (.pointer (some ⟨r, 0, none⟩)) <| uK (.pointer (some ⟨r, 7, none⟩)) <| uL 24 ⟨r, 7, none⟩ (g.v) (load_one ((HF.out.box 0 _ _ _ rfl).cell 7 |>.trans (by kernel_rfl)) U24 rfl) <| uK (.int .i64 ((g.l : Nat) : Int)) <| uB .lss 3 (.int .i64 ((i : Nat) : Int)) (.int .i64 ((g.l : Nat) : Int)) (.bool true) (by rw [b_lss, decide_eq_true (by omega)]) <| WL.nil <| ?_
         try simp only [pS]
         go_upto_region 6 with fail
         refine WL.start <| uK (.pointer (some ⟨r, 0, none⟩)) <| uK (.pointer (some ⟨r, 0, none⟩)) <| uK (.pointer (some ⟨r, 12, none⟩)) <| uL 60 ⟨r, 12, none⟩ (.slice (some ⟨ba, 0, none⟩) g.l g.l) (load_one ((HF.out.box 0 _ _ _ rfl).cell 12 |>.trans (by kernel_rfl)) U70 rfl) <| uK (.int .i64 ((i : Nat) : Int)) <| uW (.pointer (some ⟨ba, 0 + i * 1, none⟩)) (exec_ixA 60 1 E70 F70 _ _ rfl ba 0 g.l g.l i (by kernel_rfl) (by kernel_rfl) (by omega)) <| uL 4 ⟨ba, 0 + i * 1, none⟩ (.bool true) (ld_bo (HBa.out.kept HF.out.kept (fun e => hra e)) (by rw [hbb])) <| ?_
         try simp only [pS]
         refine uK (.bool false) <| WL.nil <| ?_
         try simp only [pS]
         go_upto_region 7 with fail
         refine wp_region_held_drew (S := fun w' => Fq (Only r) w w' [(r, 62, Rv.cells (rvL x g ba bv))]) rfl (HF.out.drew) (fun hH => ?_)
         have HF : Hid (Fq (Only r) w (wr.drew) [(r, 62, Rv.cells (rvL x g ba bv))]) := HF.out.drew
         generalize wr.drew = wk3 at HF hH ⊢
         refine xV 0 23 (.int .i64 ((j : Nat) : Int)) hH <| xB 1 24 .geq 3 (.int .i64 ((j : Nat) : Int)) (.int .i64 0) (.bool true) (fun _ _ => by rw [b_geq, decide_eq_true (by omega)]) hH <| xV 2 25 (.bool true) hH <| xV 3 26 (.pointer (some ⟨r, 0, none⟩)) hH <| xV 4 27 (.pointer (some ⟨r, 0, none⟩)) hH <| xV 5 28 (.pointer (some ⟨r, 13, none⟩)) hH <| ?_
         try simp only [pS]
         refine xL 6 29 57 ⟨r, 13, none⟩ (.slice (some ⟨bv, 0, none⟩) g.l g.l) (fun _ hw => load_one ((hw.box 0 _ _ _ rfl).cell 13 |>.trans (by kernel_rfl)) U71 rfl) hH <| xV 7 30 (.int .i64 ((i : Nat) : Int)) hH <| xU 8 31 (.pointer (some ⟨bv, 0 + i * 30, none⟩)) (fun w' hw => exec_ixA 57 30 E71 F71 _ _ rfl bv 0 g.l g.l i (by kernel_rfl) (by kernel_rfl) (by omega)) hH <| xV 9 32 (.pointer (some ⟨bv, 0 + i * 30 + 11, none⟩)) hH <| xL 10 33 41 ⟨bv, 0 + i * 30 + 11, none⟩ (.agg (Sp.cells ((gAt x.vs i).st))) (fun _ hw => load_Mp (row_M (HBv.out.kept hw.kept (fun e => hrv e)) (gAt_some (by omega))) (part_of (off := 11) (sub := Sp.cs ((gAt x.vs i).st)) (by kernel_rfl)) U41 rfl S41) hH <| xV 11 34 (.pointer (some ⟨r, 0, none⟩)) hH <| ?_
         try simp only [pS]
         refine xV 12 35 (.pointer (some ⟨r, 0, none⟩)) hH <| xV 13 36 (.pointer (some ⟨r, 13, none⟩)) hH <| xL 14 37 57 ⟨r, 13, none⟩ (.slice (some ⟨bv, 0, none⟩) g.l g.l) (fun _ hw => load_one ((hw.box 0 _ _ _ rfl).cell 13 |>.trans (by kernel_rfl)) U71 rfl) hH <| xV 15 38 (.int .i64 ((j : Nat) : Int)) hH <| xU 16 39 (.pointer (some ⟨bv, 0 + j * 30, none⟩)) (fun w' hw => exec_ixA 57 30 E71 F71 _ _ rfl bv 0 g.l g.l j (by kernel_rfl) (by kernel_rfl) (by omega)) hH <| xV 17 40 (.pointer (some ⟨bv, 0 + j * 30 + 11, none⟩)) hH <| ?_
         try simp only [pS]
         refine xL 18 41 41 ⟨bv, 0 + j * 30 + 11, none⟩ (.agg (Sp.cells ((gAt x.vs j).st))) (fun _ hw => load_Mp (row_M (HBv.out.kept hw.kept (fun e => hrv e)) (gAt_some (by omega))) (part_of (off := 11) (sub := Sp.cs ((gAt x.vs j).st)) (by kernel_rfl)) U41 rfl S41) hH ?_
         try simp only [pS]
         cases q1 : (eqS ((gAt x.vs i).st) ((gAt x.vs j).st))
         ·skip
          refine xB 19 42 .neq 41 (.agg (Sp.cells ((gAt x.vs i).st))) (.agg (Sp.cells ((gAt x.vs j).st))) (.bool true) (fun _ _ => by rw [eqS_neq, q1]; try rfl) hH <| xV 20 43 (.bool true) hH <| ?_
          try simp only [pS]
          refine wpAnyH_done (by kernel_rfl) ?_ _
          try simp only [pS]
          clear hH
          go_upto_region 8 with fail
          refine WL.start <| uK (.bool false) <| WL.nil <| ?_
          try simp only [pS]
          go_upto_region 9 with fail
          refine wp_region_held_drew (S := fun w' => Fq (Only r) w w' [(r, 62, Rv.cells (rvL x g ba bv))]) rfl (HF.out.drew) (fun hH => ?_)
          have HF : Hid (Fq (Only r) w (wk3.drew) [(r, 62, Rv.cells (rvL x g ba bv))]) := HF.out.drew
          generalize wk3.drew = wk4 at HF hH ⊢
          refine xV 0 44 (.int .i64 ((j : Nat) : Int)) hH <| xB 1 45 .lss 3 (.int .i64 ((j : Nat) : Int)) (.int .i64 0) (.bool false) (fun _ _ => by rw [b_lss, decide_eq_false (by omega)]) hH <| xV 2 46 (.bool false) hH <| xV 3 47 (.pointer (some ⟨r, 0, none⟩)) hH <| xV 4 48 (.pointer (some ⟨r, 0, none⟩)) hH <| xV 5 49 (.pointer (some ⟨r, 13, none⟩)) hH <| ?_
          try simp only [pS]
          refine xL 6 50 57 ⟨r, 13, none⟩ (.slice (some ⟨bv, 0, none⟩) g.l g.l) (fun _ hw => load_one ((hw.box 0 _ _ _ rfl).cell 13 |>.trans (by kernel_rfl)) U71 rfl) hH <| xV 7 51 (.int .i64 ((j : Nat) : Int)) hH <| xU 8 52 (.pointer (some ⟨bv, 0 + j * 30, none⟩)) (fun w' hw => exec_ixA 57 30 E71 F71 _ _ rfl bv 0 g.l g.l j (by kernel_rfl) (by kernel_rfl) (by omega)) hH <| xV 9 53 (.pointer (some ⟨bv, 0 + j * 30 + 11, none⟩)) hH <| xL 10 54 41 ⟨bv, 0 + j * 30 + 11, none⟩ (.agg (Sp.cells ((gAt x.vs j).st))) (fun _ hw => load_Mp (row_M (HBv.out.kept hw.kept (fun e => hrv e)) (gAt_some (by omega))) (part_of (off := 11) (sub := Sp.cs ((gAt x.vs j).st)) (by kernel_rfl)) U41 rfl S41) hH <| xV 11 55 (.pointer (some ⟨r, 0, none⟩)) hH <| ?_
          try simp only [pS]
          refine xV 12 56 (.pointer (some ⟨r, 0, none⟩)) hH <| xV 13 57 (.pointer (some ⟨r, 13, none⟩)) hH <| xL 14 58 57 ⟨r, 13, none⟩ (.slice (some ⟨bv, 0, none⟩) g.l g.l) (fun _ hw => load_one ((hw.box 0 _ _ _ rfl).cell 13 |>.trans (by kernel_rfl)) U71 rfl) hH <| xV 15 59 (.int .i64 ((i : Nat) : Int)) hH <| xU 16 60 (.pointer (some ⟨bv, 0 + i * 30, none⟩)) (fun w' hw => exec_ixA 57 30 E71 F71 _ _ rfl bv 0 g.l g.l i (by kernel_rfl) (by kernel_rfl) (by omega)) hH <| xV 17 61 (.pointer (some ⟨bv, 0 + i * 30 + 11, none⟩)) hH <| ?_
          try simp only [pS]
          refine xL 18 62 41 ⟨bv, 0 + i * 30 + 11, none⟩ (.agg (Sp.cells ((gAt x.vs i).st))) (fun _ hw => load_Mp (row_M (HBv.out.kept hw.kept (fun e => hrv e)) (gAt_some (by omega))) (part_of (off := 11) (sub := Sp.cs ((gAt x.vs i).st)) (by kernel_rfl)) U41 rfl S41) hH ?_
          try simp only [pS]
          cases q2 : (lessB (gAt x.vs j).st.n (gAt x.vs j).st.c (gAt x.vs i).st.n (gAt x.vs i).st.c)
          ·skip
           refine xC 19 63 38 #[.agg (Sp.cells ((gAt x.vs j).st)), .agg (Sp.cells ((gAt x.vs i).st))] (rless_sp _ _ _) ?_
           rintro e wk5 ⟨rfl, hk⟩
           have hH2 : Fq (Only r) w wk5 [(r, 62, Rv.cells (rvL x g ba bv))] := hH.no hk
           have HF : Hid (Fq (Only r) w (wk5) [(r, 62, Rv.cells (rvL x g ba bv))]) := HF.out.no hk
           clear hk
           refine ⟨.bool false, by rw [q2], hH2, fun hH => ?_⟩
           clear hH2
           try simp only [pS]
           refine xV 20 64 (.bool false) hH ?_
           try simp only [pS]
           refine wpAnyH_done (by kernel_rfl) ?_ _
           try simp only [pS]
           clear hH
           go_upto_region 5 with fail
           refine WL.start <| uK (.int .i64 ((i : Nat) : Int)) <| uB .add 3 (.int .i64 ((i : Nat) : Int)) (.int .i64 1) (.int .i64 (((i + 1) : Nat) : Int)) (b_addw _ _ _ (by rw [IntKind.wrap_i64]; omega) _) <| uK (.int .i64 (((i + 1) : Nat) : Int)) <| WL.nil <| ?_
           try simp only [pS]
           have HP2 : Hid (secK x (i + 1) = (some j, false)) := by show secK x (i + 1) = _; rw [hq, q2, q1]; simp
           go_wp2
           go_roundw
           case rel => exact ⟨i + 1, _, _, rfl, rfl, by go_num, by omega, fun j' e' => by cases e'; omega, HP2, HF⟩
           case measure => simp [intOf]; omega
          ·skip
           refine xC 19 63 38 #[.agg (Sp.cells ((gAt x.vs j).st)), .agg (Sp.cells ((gAt x.vs i).st))] (rless_sp _ _ _) ?_
           rintro e wk6 ⟨rfl, hk⟩
           have hH2 : Fq (Only r) w wk6 [(r, 62, Rv.cells (rvL x g ba bv))] := hH.no hk
           have HF : Hid (Fq (Only r) w (wk6) [(r, 62, Rv.cells (rvL x g ba bv))]) := HF.out.no hk
           clear hk
           refine ⟨.bool true, by rw [q2], hH2, fun hH => ?_⟩
           clear hH2
           try simp only [pS]
           refine xV 20 64 (.bool true) hH ?_
           try simp only [pS]
           refine wpAnyH_done (by kernel_rfl) ?_ _
           try simp only [pS]
           clear hH
           go_upto_region 10 with fail
           refine WL.start <| uK (.int .i64 ((i : Nat) : Int)) <| uK (.int .i64 ((i : Nat) : Int)) <| WL.nil <| ?_
           try simp only [pS]
           go_upto_region 5 with fail
           refine WL.start <| uK (.int .i64 ((i : Nat) : Int)) <| uB .add 3 (.int .i64 ((i : Nat) : Int)) (.int .i64 1) (.int .i64 (((i + 1) : Nat) : Int)) (b_addw _ _ _ (by rw [IntKind.wrap_i64]; omega) _) <| uK (.int .i64 (((i + 1) : Nat) : Int)) <| WL.nil <| ?_
           try simp only [pS]
           have HP2 : Hid (secK x (i + 1) = (some i, false)) := by show secK x (i + 1) = _; rw [hq, q2, q1]; simp
           go_wp2
           go_roundw
           case rel => exact ⟨i + 1, _, _, rfl, rfl, by go_num, by omega, fun j' e' => by cases e'; omega, HP2, HF⟩
           case measure => simp [intOf]; omega
         ·skip
          refine xB 19 42 .neq 41 (.agg (Sp.cells ((gAt x.vs i).st))) (.agg (Sp.cells ((gAt x.vs j).st))) (.bool false) (fun _ _ => by rw [eqS_neq, q1]; try rfl) hH <| xV 20 43 (.bool false) hH <| ?_
          try simp only [pS]
          refine wpAnyH_done (by kernel_rfl) ?_ _
          try simp only [pS]
          clear hH
          go_upto_region 9 with fail
          refine wp_region_held_drew (S := fun w' => Fq (Only r) w w' [(r, 62, Rv.cells (rvL x g ba bv))]) rfl (HF.out.drew) (fun hH => ?_)
          have HF : Hid (Fq (Only r) w (wk3.drew) [(r, 62, Rv.cells (rvL x g ba bv))]) := HF.out.drew
          generalize wk3.drew = wk7 at HF hH ⊢
          refine xV 0 44 (.int .i64 ((j : Nat) : Int)) hH <| xB 1 45 .lss 3 (.int .i64 ((j : Nat) : Int)) (.int .i64 0) (.bool false) (fun _ _ => by rw [b_lss, decide_eq_false (by omega)]) hH <| xV 2 46 (.bool false) hH <| xV 3 47 (.pointer (some ⟨r, 0, none⟩)) hH <| xV 4 48 (.pointer (some ⟨r, 0, none⟩)) hH <| xV 5 49 (.pointer (some ⟨r, 13, none⟩)) hH <| ?_
          try simp only [pS]
          refine xL 6 50 57 ⟨r, 13, none⟩ (.slice (some ⟨bv, 0, none⟩) g.l g.l) (fun _ hw => load_one ((hw.box 0 _ _ _ rfl).cell 13 |>.trans (by kernel_rfl)) U71 rfl) hH <| xV 7 51 (.int .i64 ((j : Nat) : Int)) hH <| xU 8 52 (.pointer (some ⟨bv, 0 + j * 30, none⟩)) (fun w' hw => exec_ixA 57 30 E71 F71 _ _ rfl bv 0 g.l g.l j (by kernel_rfl) (by kernel_rfl) (by omega)) hH <| xV 9 53 (.pointer (some ⟨bv, 0 + j * 30 + 11, none⟩)) hH <| xL 10 54 41 ⟨bv, 0 + j * 30 + 11, none⟩ (.agg (Sp.cells ((gAt x.vs j).st))) (fun _ hw => load_Mp (row_M (HBv.out.kept hw.kept (fun e => hrv e)) (gAt_some (by omega))) (part_of (off := 11) (sub := Sp.cs ((gAt x.vs j).st)) (by kernel_rfl)) U41 rfl S41) hH <| xV 11 55 (.pointer (some ⟨r, 0, none⟩)) hH <| ?_
          try simp only [pS]
          refine xV 12 56 (.pointer (some ⟨r, 0, none⟩)) hH <| xV 13 57 (.pointer (some ⟨r, 13, none⟩)) hH <| xL 14 58 57 ⟨r, 13, none⟩ (.slice (some ⟨bv, 0, none⟩) g.l g.l) (fun _ hw => load_one ((hw.box 0 _ _ _ rfl).cell 13 |>.trans (by kernel_rfl)) U71 rfl) hH <| xV 15 59 (.int .i64 ((i : Nat) : Int)) hH <| xU 16 60 (.pointer (some ⟨bv, 0 + i * 30, none⟩)) (fun w' hw => exec_ixA 57 30 E71 F71 _ _ rfl bv 0 g.l g.l i (by kernel_rfl) (by kernel_rfl) (by omega)) hH <| xV 17 61 (.pointer (some ⟨bv, 0 + i * 30 + 11, none⟩)) hH <| ?_
          try simp only [pS]
          refine xL 18 62 41 ⟨bv, 0 + i * 30 + 11, none⟩ (.agg (Sp.cells ((gAt x.vs i).st))) (fun _ hw => load_Mp (row_M (HBv.out.kept hw.kept (fun e => hrv e)) (gAt_some (by omega))) (part_of (off := 11) (sub := Sp.cs ((gAt x.vs i).st)) (by kernel_rfl)) U41 rfl S41) hH ?_
          try simp only [pS]
          cases q3 : (lessB (gAt x.vs j).st.n (gAt x.vs j).st.c (gAt x.vs i).st.n (gAt x.vs i).st.c)
          ·skip
           refine xC 19 63 38 #[.agg (Sp.cells ((gAt x.vs j).st)), .agg (Sp.cells ((gAt x.vs i).st))] (rless_sp _ _ _) ?_
           rintro e wk8 ⟨rfl, hk⟩
           have hH2 : Fq (Only r) w wk8 [(r, 62, Rv.cells (rvL x g ba bv))] := hH.no hk
           have HF : Hid (Fq (Only r) w (wk8) [(r, 62, Rv.cells (rvL x g ba bv))]) := HF.out.no hk
           clear hk
           refine ⟨.bool false, by rw [q3], hH2, fun hH => ?_⟩
           clear hH2
           try simp only [pS]
           refine xV 20 64 (.bool false) hH ?_
           try simp only [pS]
           refine wpAnyH_done (by kernel_rfl) ?_ _
           try simp only [pS]
           clear hH
           go_upto_region 5 with fail
           refine WL.start <| uK (.int .i64 ((i : Nat) : Int)) <| uB .add 3 (.int .i64 ((i : Nat) : Int)) (.int .i64 1) (.int .i64 (((i + 1) : Nat) : Int)) (b_addw _ _ _ (by rw [IntKind.wrap_i64]; omega) _) <| uK (.int .i64 (((i + 1) : Nat) : Int)) <| WL.nil <| ?_
           try simp only [pS]
           have HP2 : Hid (secK x (i + 1) = (some j, b)) := by show secK x (i + 1) = _; rw [hq, q3, q1]; simp
           go_wp2
           go_roundw
           case rel => exact ⟨i + 1, _, _, rfl, rfl, by go_num, by omega, fun j' e' => by cases e'; omega, HP2, HF⟩
           case measure => simp [intOf]; omega
          ·skip
           refine xC 19 63 38 #[.agg (Sp.cells ((gAt x.vs j).st)), .agg (Sp.cells ((gAt x.vs i).st))] (rless_sp _ _ _) ?_
           rintro e wk9 ⟨rfl, hk⟩
           have hH2 : Fq (Only r) w wk9 [(r, 62, Rv.cells (rvL x g ba bv))] := hH.no hk
           have HF : Hid (Fq (Only r) w (wk9) [(r, 62, Rv.cells (rvL x g ba bv))]) := HF.out.no hk
           clear hk
           refine ⟨.bool true, by rw [q3], hH2, fun hH => ?_⟩
           clear hH2
           try simp only [pS]
           refine xV 20 64 (.bool true) hH ?_
           try simp only [pS]
           refine wpAnyH_done (by kernel_rfl) ?_ _
           try simp only [pS]
           clear hH
           go_upto_region 10 with fail
           refine WL.start <| uK (.int .i64 ((i : Nat) : Int)) <| uK (.int .i64 ((i : Nat) : Int)) <| WL.nil <| ?_
           try simp only [pS]
           go_upto_region 5 with fail
           refine WL.start <| uK (.int .i64 ((i : Nat) : Int)) <| uB .add 3 (.int .i64 ((i : Nat) : Int)) (.int .i64 1) (.int .i64 (((i + 1) : Nat) : Int)) (b_addw _ _ _ (by rw [IntKind.wrap_i64]; omega) _) <| uK (.int .i64 (((i + 1) : Nat) : Int)) <| WL.nil <| ?_
           try simp only [pS]
           have HP2 : Hid (secK x (i + 1) = (some i, b)) := by show secK x (i + 1) = _; rw [hq, q3, q1]; simp
           go_wp2
           go_roundw
           case rel => exact ⟨i + 1, _, _, rfl, rfl, by go_num, by omega, fun j' e' => by cases e'; omega, HP2, HF⟩
           case measure => simp [intOf]; omega
    · skip
      obtain ⟨rfl, rfl⟩ : o = some f ∧ al = b := by
        have h := HP.out
        rw [show i = x.zs.length by omega, HS.out] at h
        cases h; exact ⟨rfl, rfl⟩
      dsimp only
      have hfl : f < g.l := by omega
      go_upto_region 4 with fail
      refine WL.start <| uK (.int .i64 ((i : Nat) : Int)) <| uK (.pointer (some ⟨r, 0, none⟩)) <| uK (.pointer (some ⟨r, 0, none⟩)) <| uK (.pointer (some ⟨r, 7, none⟩)) <| uL 24 ⟨r, 7, none⟩ (g.v) (load_one ((HF.out.box 0 _ _ _ rfl).cell 7 |>.trans (by kernel_rfl)) U24 rfl) <| uK (.int .i64 ((g.l : Nat) : Int)) <| uB .lss 3 (.int .i64 ((i : Nat) : Int)) (.int .i64 ((g.l : Nat) : Int)) (.bool false) (by rw [b_lss, decide_eq_false (by omega)]) <| WL.nil <| ?_
      try simp only [pS]
      go_upto_region 11 with fail
      refine WL.start <| uK (.pointer (some ⟨r, 0, none⟩)) <| uK (.pointer (some ⟨r, 0, none⟩)) <| uK (.pointer (some ⟨r, 0, none⟩)) <| uK (.pointer (some ⟨r, 13, none⟩)) <| uL 57 ⟨r, 13, none⟩ (.slice (some ⟨bv, 0, none⟩) g.l g.l) (load_one ((HF.out.box 0 _ _ _ rfl).cell 13 |>.trans (by kernel_rfl)) U71 rfl) <| uK (.int .i64 ((f : Nat) : Int)) <| uW (.pointer (some ⟨bv, 0 + f * 30, none⟩)) (exec_ixA 57 30 E71 F71 _ _ rfl bv 0 g.l g.l f (by kernel_rfl) (by kernel_rfl) (by omega)) <| ?_
      try simp only [pS]
      refine uK (.pointer (some ⟨bv, 0 + f * 30 + 11, none⟩)) <| uL 41 ⟨bv, 0 + f * 30 + 11, none⟩ (.agg (Sp.cells M.st)) (load_Mp (row_M (HBv.out.kept HF.out.kept (fun e => hrv e)) hMv) (part_of (off := 11) (sub := Sp.cs M.st) (by kernel_rfl)) U41 rfl S41) <| uK (.pointer (some ⟨r, 0, none⟩)) <| uK (.pointer (some ⟨r, 14, none⟩)) <| ?_
      try simp only [pS]
      refine uT 41 ⟨r, 14, none⟩ (.agg (Sp.cells M.st)) (wr.setRow r (Rv.cells ⟨x.wr, x.cl, x.op, x.ky, g, x.rd, x.sz, x.bl, x.ph, ⟨(some ⟨ba, 0, none⟩), g.l, g.l⟩, ⟨(some ⟨bv, 0, none⟩), g.l, g.l⟩, M.st, x.er⟩)) (rs (Rv.cs (rvL x g ba bv)) (Sp.cs M.st) (Rv.cs ⟨x.wr, x.cl, x.op, x.ky, g, x.rd, x.sz, x.bl, x.ph, ⟨(some ⟨ba, 0, none⟩), g.l, g.l⟩, ⟨(some ⟨bv, 0, none⟩), g.l, g.l⟩, M.st, x.er⟩) (HF.out.box 0 _ _ _ rfl) S41 (Sp.oneL _)) ?_
      try simp only [pS]
      have HF : Hid (Fq (Only r) w (wr.setRow r (Rv.cells ⟨x.wr, x.cl, x.op, x.ky, g, x.rd, x.sz, x.bl, x.ph, ⟨(some ⟨ba, 0, none⟩), g.l, g.l⟩, ⟨(some ⟨bv, 0, none⟩), g.l, g.l⟩, M.st, x.er⟩)) [(r, 62, Rv.cells ⟨x.wr, x.cl, x.op, x.ky, g, x.rd, x.sz, x.bl, x.ph, ⟨(some ⟨ba, 0, none⟩), g.l, g.l⟩, ⟨(some ⟨bv, 0, none⟩), g.l, g.l⟩, M.st, x.er⟩)]) := HF.out.set 0 rfl _
      generalize wr.setRow r (Rv.cells ⟨x.wr, x.cl, x.op, x.ky, g, x.rd, x.sz, x.bl, x.ph, ⟨(some ⟨ba, 0, none⟩), g.l, g.l⟩, ⟨(some ⟨bv, 0, none⟩), g.l, g.l⟩, M.st, x.er⟩) = wk10 at HF ⊢
      refine WL.nil ?_
      try simp only [pS]
      go_upto_region 12 with fail
      refine WL.start <| uK (.pointer (some ⟨r, 0, none⟩)) <| uK (.pointer (some ⟨r, 0, none⟩)) <| uK (.pointer (some ⟨r, 0, none⟩)) <| uL 4 ⟨r, 0, none⟩ (.bool x.wr) (load_one ((HF.out.box 0 _ _ _ rfl).cell 0 |>.trans (by kernel_rfl)) U4 rfl) <| WL.nil <| ?_
      try simp only [pS]
      cases q4 : (x.wr)
      ·skip
       try simp only [q4]
       go_upto_region 16 with fail
       refine WL.start <| uK (.pointer (some ⟨r, 0, none⟩)) <| uK (.pointer (some ⟨r, 0, none⟩)) <| uK (.pointer (some ⟨r, 0, none⟩)) <| uK (.pointer (some ⟨r, 13, none⟩)) <| uL 57 ⟨r, 13, none⟩ (.slice (some ⟨bv, 0, none⟩) g.l g.l) (load_one ((HF.out.box 0 _ _ _ rfl).cell 13 |>.trans (by kernel_rfl)) U71 rfl) <| uK (.int .i64 ((f : Nat) : Int)) <| uW (.pointer (some ⟨bv, 0 + f * 30, none⟩)) (exec_ixA 57 30 E71 F71 _ _ rfl bv 0 g.l g.l f (by kernel_rfl) (by kernel_rfl) (by omega)) <| ?_
       try simp only [pS]
       refine uK (.pointer (some ⟨bv, 0 + f * 30 + 15, none⟩)) <| uL 25 ⟨bv, 0 + f * 30 + 15, none⟩ (M.bl.v) (load_one (row_M (HBv.out.kept HF.out.kept (fun e => hrv e)) hMv 15 _ (by kernel_rfl)) U25 rfl) <| uK (.pointer (some ⟨r, 0, none⟩)) <| uK (.pointer (some ⟨r, 10, none⟩)) <| ?_
       try simp only [pS]
       refine uT 25 ⟨r, 10, none⟩ (M.bl.v) (wk10.setRow r (Rv.cells ⟨x.wr, x.cl, x.op, x.ky, g, x.rd, x.sz, M.bl, x.ph, ⟨(some ⟨ba, 0, none⟩), g.l, g.l⟩, ⟨(some ⟨bv, 0, none⟩), g.l, g.l⟩, M.st, x.er⟩)) (rs (Rv.cs ⟨x.wr, x.cl, x.op, x.ky, g, x.rd, x.sz, x.bl, x.ph, ⟨(some ⟨ba, 0, none⟩), g.l, g.l⟩, ⟨(some ⟨bv, 0, none⟩), g.l, g.l⟩, M.st, x.er⟩) ([M.bl.v]) (Rv.cs ⟨x.wr, x.cl, x.op, x.ky, g, x.rd, x.sz, M.bl, x.ph, ⟨(some ⟨ba, 0, none⟩), g.l, g.l⟩, ⟨(some ⟨bv, 0, none⟩), g.l, g.l⟩, M.st, x.er⟩) (HF.out.box 0 _ _ _ rfl) S25 (by simp [Value.oneCell', Sl.v])) ?_
       try simp only [pS]
       have HF : Hid (Fq (Only r) w (wk10.setRow r (Rv.cells ⟨x.wr, x.cl, x.op, x.ky, g, x.rd, x.sz, M.bl, x.ph, ⟨(some ⟨ba, 0, none⟩), g.l, g.l⟩, ⟨(some ⟨bv, 0, none⟩), g.l, g.l⟩, M.st, x.er⟩)) [(r, 62, Rv.cells ⟨x.wr, x.cl, x.op, x.ky, g, x.rd, x.sz, M.bl, x.ph, ⟨(some ⟨ba, 0, none⟩), g.l, g.l⟩, ⟨(some ⟨bv, 0, none⟩), g.l, g.l⟩, M.st, x.er⟩)]) := HF.out.set 0 rfl _
       generalize wk10.setRow r (Rv.cells ⟨x.wr, x.cl, x.op, x.ky, g, x.rd, x.sz, M.bl, x.ph, ⟨(some ⟨ba, 0, none⟩), g.l, g.l⟩, ⟨(some ⟨bv, 0, none⟩), g.l, g.l⟩, M.st, x.er⟩) = wk11 at HF ⊢
       refine WL.nil ?_
       try simp only [pS]
       go_upto_region 17 with fail
       refine WL.start <| uK (.pointer (some ⟨r, 0, none⟩)) <| uK (.pointer (some ⟨r, 0, none⟩)) <| uK (.pointer (some ⟨r, 14, none⟩)) <| uL 41 ⟨r, 14, none⟩ (.agg (Sp.cells M.st)) (run_load_part (cs := Rv.cs ⟨x.wr, x.cl, x.op, x.ky, g, x.rd, x.sz, M.bl, x.ph, ⟨(some ⟨ba, 0, none⟩), g.l, g.l⟩, ⟨(some ⟨bv, 0, none⟩), g.l, g.l⟩, M.st, x.er⟩) (sub := Sp.cs M.st) (HF.out.box 0 _ _ _ rfl) (part_of (by kernel_rfl)) U41 rfl S41) <| uW (.agg (Sp.cells spZ)) (exec_build 41 _ rfl (Sp.cells spZ) (by kernel_rfl)) <| ?_
       try simp only [pS]
       cases q5 : (eqS M.st spZ)
       ·skip
        refine uB .eql 41 (.agg (Sp.cells M.st)) (.agg (Sp.cells spZ)) (.bool false) (by rw [eqS_eql, q5]; try rfl) <| WL.nil <| ?_
        try simp only [pS]
        go_upto_region 19 with fail
        refine WL.start <| uK (.bool al) <| WL.nil <| ?_
        try simp only [pS]
        cases q6 : (al)
        ·skip
         try simp only [q6]
         go_upto_region 21 with fail
         refine WL.start <| uK (.pointer (some ⟨r, 0, none⟩)) <| uK (.pointer (some ⟨r, 0, none⟩)) <| uK (.pointer (some ⟨r, 8, none⟩)) <| uL 3 ⟨r, 8, none⟩ (.int .i64 x.rd) (load_one ((HF.out.box 0 _ _ _ rfl).cell 8 |>.trans (by kernel_rfl)) U3 rfl) <| ?_
         try simp only [pS]
         cases q7 : (decide (1099511627776 ≤ x.rd))
         ·skip
          refine uB .geq 3 (.int .i64 x.rd) (.int .i64 1099511627776) (.bool false) (by rw [b_geq, q7]; try rfl) <| WL.nil <| ?_
          try simp only [pS]
          go_upto_region 23 with fail
          refine WL.start <| uK (.pointer (some ⟨r, 0, none⟩)) <| uK (.pointer (some ⟨r, 0, none⟩)) <| uK (.pointer (some ⟨r, 0, none⟩)) <| uK (.pointer (some ⟨r, 8, none⟩)) <| uL 3 ⟨r, 8, none⟩ (.int .i64 x.rd) (load_one ((HF.out.box 0 _ _ _ rfl).cell 8 |>.trans (by kernel_rfl)) U3 rfl) <| uB .add 3 (.int .i64 x.rd) (.int .i64 1) (.int .i64 (x.rd + 1)) (b_addw _ _ _ (by rw [IntKind.wrap_i64]; have := of_decide_eq_false q7; omega) _) <| uK (.pointer (some ⟨r, 0, none⟩)) <| ?_
          try simp only [pS]
          refine uK (.pointer (some ⟨r, 8, none⟩)) ?_
          try simp only [pS]
          refine uT 3 ⟨r, 8, none⟩ (.int .i64 (x.rd + 1)) (wk11.setRow r (Rv.cells ⟨x.wr, x.cl, x.op, x.ky, g, (x.rd + 1), x.sz, M.bl, x.ph, ⟨(some ⟨ba, 0, none⟩), g.l, g.l⟩, ⟨(some ⟨bv, 0, none⟩), g.l, g.l⟩, M.st, x.er⟩)) (rs (Rv.cs ⟨x.wr, x.cl, x.op, x.ky, g, x.rd, x.sz, M.bl, x.ph, ⟨(some ⟨ba, 0, none⟩), g.l, g.l⟩, ⟨(some ⟨bv, 0, none⟩), g.l, g.l⟩, M.st, x.er⟩) ([.int .i64 (x.rd + 1)]) (Rv.cs ⟨x.wr, x.cl, x.op, x.ky, g, (x.rd + 1), x.sz, M.bl, x.ph, ⟨(some ⟨ba, 0, none⟩), g.l, g.l⟩, ⟨(some ⟨bv, 0, none⟩), g.l, g.l⟩, M.st, x.er⟩) (HF.out.box 0 _ _ _ rfl) S3 (by simp [Value.oneCell', Sl.v])) ?_
          try simp only [pS]
          have HF : Hid (Fq (Only r) w (wk11.setRow r (Rv.cells ⟨x.wr, x.cl, x.op, x.ky, g, (x.rd + 1), x.sz, M.bl, x.ph, ⟨(some ⟨ba, 0, none⟩), g.l, g.l⟩, ⟨(some ⟨bv, 0, none⟩), g.l, g.l⟩, M.st, x.er⟩)) [(r, 62, Rv.cells ⟨x.wr, x.cl, x.op, x.ky, g, (x.rd + 1), x.sz, M.bl, x.ph, ⟨(some ⟨ba, 0, none⟩), g.l, g.l⟩, ⟨(some ⟨bv, 0, none⟩), g.l, g.l⟩, M.st, x.er⟩)]) := HF.out.set 0 rfl _
          generalize wk11.setRow r (Rv.cells ⟨x.wr, x.cl, x.op, x.ky, g, (x.rd + 1), x.sz, M.bl, x.ph, ⟨(some ⟨ba, 0, none⟩), g.l, g.l⟩, ⟨(some ⟨bv, 0, none⟩), g.l, g.l⟩, M.st, x.er⟩) = wk12 at HF ⊢
          refine WL.nil ?_
          try simp only [pS]
          go_upto_region 24 with fail
          refine WL.start <| uK (.pointer (some ⟨r, 0, none⟩)) <| uK (.pointer (some ⟨r, 0, none⟩)) <| uK (.pointer (some ⟨r, 11, none⟩)) <| ?_
          try simp only [pS]
          refine uT 3 ⟨r, 11, none⟩ (.int .i64 2) (wk12.setRow r (Rv.cells ⟨x.wr, x.cl, x.op, x.ky, g, (x.rd + 1), x.sz, M.bl, 2, ⟨(some ⟨ba, 0, none⟩), g.l, g.l⟩, ⟨(some ⟨bv, 0, none⟩), g.l, g.l⟩, M.st, x.er⟩)) (rs (Rv.cs ⟨x.wr, x.cl, x.op, x.ky, g, (x.rd + 1), x.sz, M.bl, x.ph, ⟨(some ⟨ba, 0, none⟩), g.l, g.l⟩, ⟨(some ⟨bv, 0, none⟩), g.l, g.l⟩, M.st, x.er⟩) ([.int .i64 2]) (Rv.cs ⟨x.wr, x.cl, x.op, x.ky, g, (x.rd + 1), x.sz, M.bl, 2, ⟨(some ⟨ba, 0, none⟩), g.l, g.l⟩, ⟨(some ⟨bv, 0, none⟩), g.l, g.l⟩, M.st, x.er⟩) (HF.out.box 0 _ _ _ rfl) S3 (by simp [Value.oneCell', Sl.v])) ?_
          try simp only [pS]
          have HF : Hid (Fq (Only r) w (wk12.setRow r (Rv.cells ⟨x.wr, x.cl, x.op, x.ky, g, (x.rd + 1), x.sz, M.bl, 2, ⟨(some ⟨ba, 0, none⟩), g.l, g.l⟩, ⟨(some ⟨bv, 0, none⟩), g.l, g.l⟩, M.st, x.er⟩)) [(r, 62, Rv.cells ⟨x.wr, x.cl, x.op, x.ky, g, (x.rd + 1), x.sz, M.bl, 2, ⟨(some ⟨ba, 0, none⟩), g.l, g.l⟩, ⟨(some ⟨bv, 0, none⟩), g.l, g.l⟩, M.st, x.er⟩)]) := HF.out.set 0 rfl _
          generalize wk12.setRow r (Rv.cells ⟨x.wr, x.cl, x.op, x.ky, g, (x.rd + 1), x.sz, M.bl, 2, ⟨(some ⟨ba, 0, none⟩), g.l, g.l⟩, ⟨(some ⟨bv, 0, none⟩), g.l, g.l⟩, M.st, x.er⟩) = wk13 at HF ⊢
          refine WL.nil ?_
          try simp only [pS]
          go_upto_region 25 with fail
          refine WL.start <| uK (.pointer (some ⟨r, 0, none⟩)) <| ?_
          try simp only [pS]
          refine uC 25 #[.pointer (some ⟨r, 0, none⟩)] (rFresh r ({ x with rd := (x.rd + 1), bl := M.bl, ph := 2, tag := M.st }) g ⟨some ⟨ba, 0, none⟩, g.l, g.l⟩ ⟨some ⟨bv, 0, none⟩, g.l, g.l⟩ wk13 ⟨HF.out.box 0 _ _ _ rfl, HG.out.kept HF.out.kept hrg, hnn⟩) ?_
          rintro e wk14 ⟨ba', bv', rfl, hL2, h1, h2, hk⟩
          have HSz : Hid (w.heap.size ≤ wk13.heap.size) := HF.out.kept.size
          have HKf : Hid (Kept (Only r) w wk14) := HF.out.kept.trans hk (fun _ e => e) (fun _ _ e => e)
          have HLf : Hid (RfL wk14 r (freR { x with rd := (x.rd + 1), bl := M.bl, ph := 2, tag := M.st }) g ba' bv') := hL2
          have hba' : w.heap.size ≤ ba' := Nat.le_trans HSz.out h1
          have hbv' : w.heap.size ≤ bv' := Nat.le_trans HSz.out h2
          have HF : Hid (Fq (Only r) w wk14 []) := ⟨HKf.out, by simp, by simp, by simp⟩
          clear hk hL2 h1 h2
          refine ⟨.tuple #[], rfl, ?_⟩
          try simp only [pS]
          refine WL.nil ?_
          try simp only [pS]
          go_upto_region 26 with fail
          refine WL.start <| uK (.pointer (some ⟨r, 0, none⟩)) <| ?_
          try simp only [pS]
          refine uC 26 #[.pointer (some ⟨r, 0, none⟩)] (rTold r (freR { x with rd := (x.rd + 1), bl := M.bl, ph := 2, tag := M.st }) g ba' bv' wk14 HLf.out) ?_
          rintro e wk15 ⟨t, rfl, hO, hk⟩
          have HLf : Hid (RfL wk15 r (freR { x with rd := (x.rd + 1), bl := M.bl, ph := 2, tag := M.st }) g ba' bv') := HLf.out.no hk
          have HKf : Hid (Kept (Only r) w wk15) := HKf.out.then hk.of_no
          have HOt : Hid (OwM wk15 w.heap.size t (tolR (freR { x with rd := (x.rd + 1), bl := M.bl, ph := 2, tag := M.st }))) := ⟨hO.own.lower HF.out.kept.size, hO.len⟩
          clear hk hO
          refine ⟨t.v, rfl, ?_⟩
          try simp only [pS]
          refine uK (t.v) <| WL.nil <| ?_
          try simp only [pS]
          go_wp2
          rw [HC.out]
          have hsec : secR x M al 0 = (freR { x with rd := (x.rd + 1), bl := M.bl, ph := 2, tag := M.st }, tolR (freR { x with rd := (x.rd + 1), bl := M.bl, ph := 2, tag := M.st })) := by simp [secR, layR, q4, q5, q6, of_decide_eq_false q7]
          refine ⟨0, by rw [hsec]; exact ⟨t, ba', bv', rfl, HOt.out, HLf.out, .inr hba', .inr hbv'⟩, fun hw hz => ?_, HKf.out⟩
          rw [q5] at hz; cases hz
         ·skip
          refine uB .geq 3 (.int .i64 x.rd) (.int .i64 1099511627776) (.bool true) (by rw [b_geq, q7]; try rfl) <| WL.nil <| ?_
          try simp only [pS]
          go_upto_region 22 with fail
          refine WL.start <| uK (.pointer (some ⟨r, 0, none⟩)) <| ?_
          try simp only [pS]
          refine uC 24 #[.pointer (some ⟨r, 0, none⟩), .int .i64 4] (rEnd r ({ x with rd := x.rd, bl := M.bl, ph := x.ph, tag := M.st }) g ⟨some ⟨ba, 0, none⟩, g.l, g.l⟩ ⟨some ⟨bv, 0, none⟩, g.l, g.l⟩ 4 wk11 ⟨HF.out.box 0 _ _ _ rfl, HG.out.kept HF.out.kept hrg, hnn⟩) ?_
          rintro e wk16 ⟨rfl, hR2, hk⟩
          have HKf : Hid (Kept (Only r) w wk16) := HF.out.kept.trans hk (fun _ e => e) (fun _ _ e => e)
          have HLf : Hid (RfL wk16 r (endR { x with rd := x.rd, bl := M.bl, ph := x.ph, tag := M.st } 4) g ba bv) := ⟨hR2.box, hR2.gr, hR2.hn, HBa.out.kept HKf.out (fun e => hra e), HBv.out.kept HKf.out (fun e => hrv e), hla, hlv⟩
          clear hk hR2
          refine ⟨.slice none 0 0, rfl, ?_⟩
          try simp only [pS]
          refine uK (.slice none 0 0) <| WL.nil <| ?_
          try simp only [pS]
          go_wp2
          rw [HC.out]
          have hsec : secR x M al 0 = (endR { x with rd := x.rd, bl := M.bl, ph := x.ph, tag := M.st } 4, []) := by simp [secR, layR, q4, q5, q6, of_decide_eq_true q7]
          refine ⟨0, by rw [hsec]; exact ⟨slZ, ba, bv, rfl, OwM.nil _ _, HLf.out, .inl rfl, .inl rfl⟩, fun hw hz => ?_, HKf.out⟩
          rw [q5] at hz; cases hz
        ·skip
         try simp only [q6]
         go_upto_region 20 with fail
         refine WL.start <| uK (.pointer (some ⟨r, 0, none⟩)) <| ?_
         try simp only [pS]
         refine uC 24 #[.pointer (some ⟨r, 0, none⟩), .int .i64 0] (rEnd r ({ x with rd := x.rd, bl := M.bl, ph := x.ph, tag := M.st }) g ⟨some ⟨ba, 0, none⟩, g.l, g.l⟩ ⟨some ⟨bv, 0, none⟩, g.l, g.l⟩ 0 wk11 ⟨HF.out.box 0 _ _ _ rfl, HG.out.kept HF.out.kept hrg, hnn⟩) ?_
         rintro e wk17 ⟨rfl, hR2, hk⟩
         have HKf : Hid (Kept (Only r) w wk17) := HF.out.kept.trans hk (fun _ e => e) (fun _ _ e => e)
         have HLf : Hid (RfL wk17 r (endR { x with rd := x.rd, bl := M.bl, ph := x.ph, tag := M.st } 0) g ba bv) := ⟨hR2.box, hR2.gr, hR2.hn, HBa.out.kept HKf.out (fun e => hra e), HBv.out.kept HKf.out (fun e => hrv e), hla, hlv⟩
         clear hk hR2
         refine ⟨.slice none 0 0, rfl, ?_⟩
         try simp only [pS]
         refine uK (.slice none 0 0) <| WL.nil <| ?_
         try simp only [pS]
         go_wp2
         rw [HC.out]
         have hsec : secR x M al 0 = (endR { x with rd := x.rd, bl := M.bl, ph := x.ph, tag := M.st } 0, []) := by simp [secR, layR, q4, q5, q6]
         refine ⟨0, by rw [hsec]; exact ⟨slZ, ba, bv, rfl, OwM.nil _ _, HLf.out, .inl rfl, .inl rfl⟩, fun hw hz => ?_, HKf.out⟩
         rw [q5] at hz; cases hz
       ·skip
        refine uB .eql 41 (.agg (Sp.cells M.st)) (.agg (Sp.cells spZ)) (.bool true) (by rw [eqS_eql, q5]; try rfl) <| WL.nil <| ?_
        try simp only [pS]
        go_upto_region 18 with fail
        refine WL.start <| uK (.pointer (some ⟨r, 0, none⟩)) <| uK (.pointer (some ⟨r, 0, none⟩)) <| uK (.pointer (some ⟨r, 0, none⟩)) <| uK (.pointer (some ⟨r, 9, none⟩)) <| uL 3 ⟨r, 9, none⟩ (.int .i64 x.sz) (load_one ((HF.out.box 0 _ _ _ rfl).cell 9 |>.trans (by kernel_rfl)) U3 rfl) <| ?_
        try simp only [pS]
        refine uR (.slice (some ⟨wk11.heap.size, 0, none⟩) x.sz.toNat x.sz.toNat) (wk11.alloc (.cells ((u8L (List.replicate x.sz.toNat 0)).toArray) 5)) (exec_make 25 _ _ rfl _ _ (by kernel_rfl) (by kernel_rfl) (make_by' _ x.sz hz0 hz1)) ?_
        try simp only [pS]
        have HF : Hid (Fq (Only r) w (wk11.alloc (.cells ((u8L (List.replicate x.sz.toNat 0)).toArray) 5)) [(r, 62, Rv.cells ⟨x.wr, x.cl, x.op, x.ky, g, x.rd, x.sz, M.bl, x.ph, ⟨(some ⟨ba, 0, none⟩), g.l, g.l⟩, ⟨(some ⟨bv, 0, none⟩), g.l, g.l⟩, M.st, x.er⟩), (wk11.heap.size, 5, (u8L (List.replicate x.sz.toNat 0)).toArray)]) := HF.out.alloc _ _
        generalize wk11.alloc (.cells ((u8L (List.replicate x.sz.toNat 0)).toArray) 5) = wk19 at HF ⊢
        generalize wk11.heap.size = gk18 at HF ⊢
        refine uK (.pointer (some ⟨r, 0, none⟩)) <| uK (.pointer (some ⟨r, 10, none⟩)) <| ?_
        try simp only [pS]
        refine uT 25 ⟨r, 10, none⟩ (.slice (some ⟨gk18, 0, none⟩) x.sz.toNat x.sz.toNat) (wk19.setRow r (Rv.cells ⟨x.wr, x.cl, x.op, x.ky, g, x.rd, x.sz, ⟨(some ⟨gk18, 0, none⟩), x.sz.toNat, x.sz.toNat⟩, x.ph, ⟨(some ⟨ba, 0, none⟩), g.l, g.l⟩, ⟨(some ⟨bv, 0, none⟩), g.l, g.l⟩, M.st, x.er⟩)) (rs (Rv.cs ⟨x.wr, x.cl, x.op, x.ky, g, x.rd, x.sz, M.bl, x.ph, ⟨(some ⟨ba, 0, none⟩), g.l, g.l⟩, ⟨(some ⟨bv, 0, none⟩), g.l, g.l⟩, M.st, x.er⟩) ([.slice (some ⟨gk18, 0, none⟩) x.sz.toNat x.sz.toNat]) (Rv.cs ⟨x.wr, x.cl, x.op, x.ky, g, x.rd, x.sz, ⟨(some ⟨gk18, 0, none⟩), x.sz.toNat, x.sz.toNat⟩, x.ph, ⟨(some ⟨ba, 0, none⟩), g.l, g.l⟩, ⟨(some ⟨bv, 0, none⟩), g.l, g.l⟩, M.st, x.er⟩) (HF.out.box 0 _ _ _ rfl) S25 (by simp [Value.oneCell', Sl.v])) ?_
        try simp only [pS]
        have HF : Hid (Fq (Only r) w (wk19.setRow r (Rv.cells ⟨x.wr, x.cl, x.op, x.ky, g, x.rd, x.sz, ⟨(some ⟨gk18, 0, none⟩), x.sz.toNat, x.sz.toNat⟩, x.ph, ⟨(some ⟨ba, 0, none⟩), g.l, g.l⟩, ⟨(some ⟨bv, 0, none⟩), g.l, g.l⟩, M.st, x.er⟩)) [(r, 62, Rv.cells ⟨x.wr, x.cl, x.op, x.ky, g, x.rd, x.sz, ⟨(some ⟨gk18, 0, none⟩), x.sz.toNat, x.sz.toNat⟩, x.ph, ⟨(some ⟨ba, 0, none⟩), g.l, g.l⟩, ⟨(some ⟨bv, 0, none⟩), g.l, g.l⟩, M.st, x.er⟩), (gk18, 5, (u8L (List.replicate x.sz.toNat 0)).toArray)]) := HF.out.set 0 rfl _
        generalize wk19.setRow r (Rv.cells ⟨x.wr, x.cl, x.op, x.ky, g, x.rd, x.sz, ⟨(some ⟨gk18, 0, none⟩), x.sz.toNat, x.sz.toNat⟩, x.ph, ⟨(some ⟨ba, 0, none⟩), g.l, g.l⟩, ⟨(some ⟨bv, 0, none⟩), g.l, g.l⟩, M.st, x.er⟩) = wk20 at HF ⊢
        refine WL.nil ?_
        try simp only [pS]
        go_upto_region 19 with fail
        refine WL.start <| uK (.bool al) <| WL.nil <| ?_
        try simp only [pS]
        cases q8 : (al)
        ·skip
         try simp only [q8]
         go_upto_region 21 with fail
         refine WL.start <| uK (.pointer (some ⟨r, 0, none⟩)) <| uK (.pointer (some ⟨r, 0, none⟩)) <| uK (.pointer (some ⟨r, 8, none⟩)) <| uL 3 ⟨r, 8, none⟩ (.int .i64 x.rd) (load_one ((HF.out.box 0 _ _ _ rfl).cell 8 |>.trans (by kernel_rfl)) U3 rfl) <| ?_
         try simp only [pS]
         cases q9 : (decide (1099511627776 ≤ x.rd))
         ·skip
          refine uB .geq 3 (.int .i64 x.rd) (.int .i64 1099511627776) (.bool false) (by rw [b_geq, q9]; try rfl) <| WL.nil <| ?_
          try simp only [pS]
          go_upto_region 23 with fail
          refine WL.start <| uK (.pointer (some ⟨r, 0, none⟩)) <| uK (.pointer (some ⟨r, 0, none⟩)) <| uK (.pointer (some ⟨r, 0, none⟩)) <| uK (.pointer (some ⟨r, 8, none⟩)) <| uL 3 ⟨r, 8, none⟩ (.int .i64 x.rd) (load_one ((HF.out.box 0 _ _ _ rfl).cell 8 |>.trans (by kernel_rfl)) U3 rfl) <| uB .add 3 (.int .i64 x.rd) (.int .i64 1) (.int .i64 (x.rd + 1)) (b_addw _ _ _ (by rw [IntKind.wrap_i64]; have := of_decide_eq_false q9; omega) _) <| uK (.pointer (some ⟨r, 0, none⟩)) <| ?_
          try simp only [pS]
          refine uK (.pointer (some ⟨r, 8, none⟩)) ?_
          try simp only [pS]
          refine uT 3 ⟨r, 8, none⟩ (.int .i64 (x.rd + 1)) (wk20.setRow r (Rv.cells ⟨x.wr, x.cl, x.op, x.ky, g, (x.rd + 1), x.sz, ⟨(some ⟨gk18, 0, none⟩), x.sz.toNat, x.sz.toNat⟩, x.ph, ⟨(some ⟨ba, 0, none⟩), g.l, g.l⟩, ⟨(some ⟨bv, 0, none⟩), g.l, g.l⟩, M.st, x.er⟩)) (rs (Rv.cs ⟨x.wr, x.cl, x.op, x.ky, g, x.rd, x.sz, ⟨(some ⟨gk18, 0, none⟩), x.sz.toNat, x.sz.toNat⟩, x.ph, ⟨(some ⟨ba, 0, none⟩), g.l, g.l⟩, ⟨(some ⟨bv, 0, none⟩), g.l, g.l⟩, M.st, x.er⟩) ([.int .i64 (x.rd + 1)]) (Rv.cs ⟨x.wr, x.cl, x.op, x.ky, g, (x.rd + 1), x.sz, ⟨(some ⟨gk18, 0, none⟩), x.sz.toNat, x.sz.toNat⟩, x.ph, ⟨(some ⟨ba, 0, none⟩), g.l, g.l⟩, ⟨(some ⟨bv, 0, none⟩), g.l, g.l⟩, M.st, x.er⟩) (HF.out.box 0 _ _ _ rfl) S3 (by simp [Value.oneCell', Sl.v])) ?_
          try simp only [pS]
          have HF : Hid (Fq (Only r) w (wk20.setRow r (Rv.cells ⟨x.wr, x.cl, x.op, x.ky, g, (x.rd + 1), x.sz, ⟨(some ⟨gk18, 0, none⟩), x.sz.toNat, x.sz.toNat⟩, x.ph, ⟨(some ⟨ba, 0, none⟩), g.l, g.l⟩, ⟨(some ⟨bv, 0, none⟩), g.l, g.l⟩, M.st, x.er⟩)) [(r, 62, Rv.cells ⟨x.wr, x.cl, x.op, x.ky, g, (x.rd + 1), x.sz, ⟨(some ⟨gk18, 0, none⟩), x.sz.toNat, x.sz.toNat⟩, x.ph, ⟨(some ⟨ba, 0, none⟩), g.l, g.l⟩, ⟨(some ⟨bv, 0, none⟩), g.l, g.l⟩, M.st, x.er⟩), (gk18, 5, (u8L (List.replicate x.sz.toNat 0)).toArray)]) := HF.out.set 0 rfl _
          generalize wk20.setRow r (Rv.cells ⟨x.wr, x.cl, x.op, x.ky, g, (x.rd + 1), x.sz, ⟨(some ⟨gk18, 0, none⟩), x.sz.toNat, x.sz.toNat⟩, x.ph, ⟨(some ⟨ba, 0, none⟩), g.l, g.l⟩, ⟨(some ⟨bv, 0, none⟩), g.l, g.l⟩, M.st, x.er⟩) = wk21 at HF ⊢
          refine WL.nil ?_
          try simp only [pS]
          go_upto_region 24 with fail
          refine WL.start <| uK (.pointer (some ⟨r, 0, none⟩)) <| uK (.pointer (some ⟨r, 0, none⟩)) <| uK (.pointer (some ⟨r, 11, none⟩)) <| ?_
          try simp only [pS]
          refine uT 3 ⟨r, 11, none⟩ (.int .i64 2) (wk21.setRow r (Rv.cells ⟨x.wr, x.cl, x.op, x.ky, g, (x.rd + 1), x.sz, ⟨(some ⟨gk18, 0, none⟩), x.sz.toNat, x.sz.toNat⟩, 2, ⟨(some ⟨ba, 0, none⟩), g.l, g.l⟩, ⟨(some ⟨bv, 0, none⟩), g.l, g.l⟩, M.st, x.er⟩)) (rs (Rv.cs ⟨x.wr, x.cl, x.op, x.ky, g, (x.rd + 1), x.sz, ⟨(some ⟨gk18, 0, none⟩), x.sz.toNat, x.sz.toNat⟩, x.ph, ⟨(some ⟨ba, 0, none⟩), g.l, g.l⟩, ⟨(some ⟨bv, 0, none⟩), g.l, g.l⟩, M.st, x.er⟩) ([.int .i64 2]) (Rv.cs ⟨x.wr, x.cl, x.op, x.ky, g, (x.rd + 1), x.sz, ⟨(some ⟨gk18, 0, none⟩), x.sz.toNat, x.sz.toNat⟩, 2, ⟨(some ⟨ba, 0, none⟩), g.l, g.l⟩, ⟨(some ⟨bv, 0, none⟩), g.l, g.l⟩, M.st, x.er⟩) (HF.out.box 0 _ _ _ rfl) S3 (by simp [Value.oneCell', Sl.v])) ?_
          try simp only [pS]
          have HF : Hid (Fq (Only r) w (wk21.setRow r (Rv.cells ⟨x.wr, x.cl, x.op, x.ky, g, (x.rd + 1), x.sz, ⟨(some ⟨gk18, 0, none⟩), x.sz.toNat, x.sz.toNat⟩, 2, ⟨(some ⟨ba, 0, none⟩), g.l, g.l⟩, ⟨(some ⟨bv, 0, none⟩), g.l, g.l⟩, M.st, x.er⟩)) [(r, 62, Rv.cells ⟨x.wr, x.cl, x.op, x.ky, g, (x.rd + 1), x.sz, ⟨(some ⟨gk18, 0, none⟩), x.sz.toNat, x.sz.toNat⟩, 2, ⟨(some ⟨ba, 0, none⟩), g.l, g.l⟩, ⟨(some ⟨bv, 0, none⟩), g.l, g.l⟩, M.st, x.er⟩), (gk18, 5, (u8L (List.replicate x.sz.toNat 0)).toArray)]) := HF.out.set 0 rfl _
          generalize wk21.setRow r (Rv.cells ⟨x.wr, x.cl, x.op, x.ky, g, (x.rd + 1), x.sz, ⟨(some ⟨gk18, 0, none⟩), x.sz.toNat, x.sz.toNat⟩, 2, ⟨(some ⟨ba, 0, none⟩), g.l, g.l⟩, ⟨(some ⟨bv, 0, none⟩), g.l, g.l⟩, M.st, x.er⟩) = wk22 at HF ⊢
          refine WL.nil ?_
          try simp only [pS]
          go_upto_region 25 with fail
          refine WL.start <| uK (.pointer (some ⟨r, 0, none⟩)) <| ?_
          try simp only [pS]
          refine uC 25 #[.pointer (some ⟨r, 0, none⟩)] (rFresh r ({ x with rd := (x.rd + 1), bl := ⟨(some ⟨gk18, 0, none⟩), x.sz.toNat, x.sz.toNat⟩, ph := 2, tag := M.st }) g ⟨some ⟨ba, 0, none⟩, g.l, g.l⟩ ⟨some ⟨bv, 0, none⟩, g.l, g.l⟩ wk22 ⟨HF.out.box 0 _ _ _ rfl, HG.out.kept HF.out.kept hrg, hnn⟩) ?_
          rintro e wk23 ⟨ba', bv', rfl, hL2, h1, h2, hk⟩
          have HSz : Hid (w.heap.size ≤ wk22.heap.size) := HF.out.kept.size
          have HKf : Hid (Kept (Only r) w wk23) := HF.out.kept.trans hk (fun _ e => e) (fun _ _ e => e)
          have HLf : Hid (RfL wk23 r (freR { x with rd := (x.rd + 1), bl := ⟨(some ⟨gk18, 0, none⟩), x.sz.toNat, x.sz.toNat⟩, ph := 2, tag := M.st }) g ba' bv') := hL2
          have HNB : Hid (Box wk23 gk18 5 (u8L (List.replicate x.sz.toNat 0)).toArray) := (HF.out.box 1 _ _ _ rfl).kept hk (fun e => box_ne (HF.out.box 1 _ _ _ rfl) (HF.out.box 0 _ _ _ rfl) (by decide) e)
          have HNl : Hid (w.heap.size ≤ gk18) := (HF.out.low 1 _ _ _ rfl).elim id (fun e => absurd (show gk18 = r from e) (fun e => box_ne (HF.out.box 1 _ _ _ rfl) (HF.out.box 0 _ _ _ rfl) (by decide) e))
          have hba' : w.heap.size ≤ ba' := Nat.le_trans HSz.out h1
          have hbv' : w.heap.size ≤ bv' := Nat.le_trans HSz.out h2
          have HF : Hid (Fq (Only r) w wk23 []) := ⟨HKf.out, by simp, by simp, by simp⟩
          clear hk hL2 h1 h2
          refine ⟨.tuple #[], rfl, ?_⟩
          try simp only [pS]
          refine WL.nil ?_
          try simp only [pS]
          go_upto_region 26 with fail
          refine WL.start <| uK (.pointer (some ⟨r, 0, none⟩)) <| ?_
          try simp only [pS]
          refine uC 26 #[.pointer (some ⟨r, 0, none⟩)] (rTold r (freR { x with rd := (x.rd + 1), bl := ⟨(some ⟨gk18, 0, none⟩), x.sz.toNat, x.sz.toNat⟩, ph := 2, tag := M.st }) g ba' bv' wk23 HLf.out) ?_
          rintro e wk24 ⟨t, rfl, hO, hk⟩
          have HLf : Hid (RfL wk24 r (freR { x with rd := (x.rd + 1), bl := ⟨(some ⟨gk18, 0, none⟩), x.sz.toNat, x.sz.toNat⟩, ph := 2, tag := M.st }) g ba' bv') := HLf.out.no hk
          have HKf : Hid (Kept (Only r) w wk24) := HKf.out.then hk.of_no
          have HOt : Hid (OwM wk24 w.heap.size t (tolR (freR { x with rd := (x.rd + 1), bl := ⟨(some ⟨gk18, 0, none⟩), x.sz.toNat, x.sz.toNat⟩, ph := 2, tag := M.st }))) := ⟨hO.own.lower HF.out.kept.size, hO.len⟩
          have HNB : Hid (Box wk24 gk18 5 (u8L (List.replicate x.sz.toNat 0)).toArray) := HNB.out.kept hk (fun e => e)
          clear hk hO
          refine ⟨t.v, rfl, ?_⟩
          try simp only [pS]
          refine uK (t.v) <| WL.nil <| ?_
          try simp only [pS]
          go_wp2
          rw [HC.out]
          have hsec : secR x M al gk18 = (freR { x with rd := (x.rd + 1), bl := ⟨(some ⟨gk18, 0, none⟩), x.sz.toNat, x.sz.toNat⟩, ph := 2, tag := M.st }, tolR (freR { x with rd := (x.rd + 1), bl := ⟨(some ⟨gk18, 0, none⟩), x.sz.toNat, x.sz.toNat⟩, ph := 2, tag := M.st })) := by simp [secR, layR, q4, q5, q8, of_decide_eq_false q9]
          refine ⟨gk18, by rw [hsec]; exact ⟨t, ba', bv', rfl, HOt.out, HLf.out, .inr hba', .inr hbv'⟩, fun hw hz => ?_, HKf.out⟩
          exact ⟨HNB.out, HNl.out⟩
         ·skip
          refine uB .geq 3 (.int .i64 x.rd) (.int .i64 1099511627776) (.bool true) (by rw [b_geq, q9]; try rfl) <| WL.nil <| ?_
          try simp only [pS]
          go_upto_region 22 with fail
          refine WL.start <| uK (.pointer (some ⟨r, 0, none⟩)) <| ?_
          try simp only [pS]
          refine uC 24 #[.pointer (some ⟨r, 0, none⟩), .int .i64 4] (rEnd r ({ x with rd := x.rd, bl := ⟨(some ⟨gk18, 0, none⟩), x.sz.toNat, x.sz.toNat⟩, ph := x.ph, tag := M.st }) g ⟨some ⟨ba, 0, none⟩, g.l, g.l⟩ ⟨some ⟨bv, 0, none⟩, g.l, g.l⟩ 4 wk20 ⟨HF.out.box 0 _ _ _ rfl, HG.out.kept HF.out.kept hrg, hnn⟩) ?_
          rintro e wk25 ⟨rfl, hR2, hk⟩
          have HKf : Hid (Kept (Only r) w wk25) := HF.out.kept.trans hk (fun _ e => e) (fun _ _ e => e)
          have HLf : Hid (RfL wk25 r (endR { x with rd := x.rd, bl := ⟨(some ⟨gk18, 0, none⟩), x.sz.toNat, x.sz.toNat⟩, ph := x.ph, tag := M.st } 4) g ba bv) := ⟨hR2.box, hR2.gr, hR2.hn, HBa.out.kept HKf.out (fun e => hra e), HBv.out.kept HKf.out (fun e => hrv e), hla, hlv⟩
          have HNB : Hid (Box wk25 gk18 5 (u8L (List.replicate x.sz.toNat 0)).toArray) := (HF.out.box 1 _ _ _ rfl).kept hk (fun e => box_ne (HF.out.box 1 _ _ _ rfl) (HF.out.box 0 _ _ _ rfl) (by decide) e)
          clear hk hR2
          refine ⟨.slice none 0 0, rfl, ?_⟩
          try simp only [pS]
          refine uK (.slice none 0 0) <| WL.nil <| ?_
          try simp only [pS]
          go_wp2
          rw [HC.out]
          have hsec : secR x M al gk18 = (endR { x with rd := x.rd, bl := ⟨(some ⟨gk18, 0, none⟩), x.sz.toNat, x.sz.toNat⟩, ph := x.ph, tag := M.st } 4, []) := by simp [secR, layR, q4, q5, q8, of_decide_eq_true q9]
          refine ⟨gk18, by rw [hsec]; exact ⟨slZ, ba, bv, rfl, OwM.nil _ _, HLf.out, .inl rfl, .inl rfl⟩, fun hw hz => ?_, HKf.out⟩
          exact ⟨HNB.out, (HF.out.low 1 _ _ _ rfl).elim id (fun e => absurd (show gk18 = r from e) (fun e => box_ne (HF.out.box 1 _ _ _ rfl) (HF.out.box 0 _ _ _ rfl) (by decide) e))⟩
        ·skip
         try simp only [q8]
         go_upto_region 20 with fail
         refine WL.start <| uK (.pointer (some ⟨r, 0, none⟩)) <| ?_
         try simp only [pS]
         refine uC 24 #[.pointer (some ⟨r, 0, none⟩), .int .i64 0] (rEnd r ({ x with rd := x.rd, bl := ⟨(some ⟨gk18, 0, none⟩), x.sz.toNat, x.sz.toNat⟩, ph := x.ph, tag := M.st }) g ⟨some ⟨ba, 0, none⟩, g.l, g.l⟩ ⟨some ⟨bv, 0, none⟩, g.l, g.l⟩ 0 wk20 ⟨HF.out.box 0 _ _ _ rfl, HG.out.kept HF.out.kept hrg, hnn⟩) ?_
         rintro e wk26 ⟨rfl, hR2, hk⟩
         have HKf : Hid (Kept (Only r) w wk26) := HF.out.kept.trans hk (fun _ e => e) (fun _ _ e => e)
         have HLf : Hid (RfL wk26 r (endR { x with rd := x.rd, bl := ⟨(some ⟨gk18, 0, none⟩), x.sz.toNat, x.sz.toNat⟩, ph := x.ph, tag := M.st } 0) g ba bv) := ⟨hR2.box, hR2.gr, hR2.hn, HBa.out.kept HKf.out (fun e => hra e), HBv.out.kept HKf.out (fun e => hrv e), hla, hlv⟩
         have HNB : Hid (Box wk26 gk18 5 (u8L (List.replicate x.sz.toNat 0)).toArray) := (HF.out.box 1 _ _ _ rfl).kept hk (fun e => box_ne (HF.out.box 1 _ _ _ rfl) (HF.out.box 0 _ _ _ rfl) (by decide) e)
         clear hk hR2
         refine ⟨.slice none 0 0, rfl, ?_⟩
         try simp only [pS]
         refine uK (.slice none 0 0) <| WL.nil <| ?_
         try simp only [pS]
         go_wp2
         rw [HC.out]
         have hsec : secR x M al gk18 = (endR { x with rd := x.rd, bl := ⟨(some ⟨gk18, 0, none⟩), x.sz.toNat, x.sz.toNat⟩, ph := x.ph, tag := M.st } 0, []) := by simp [secR, layR, q4, q5, q8]
         refine ⟨gk18, by rw [hsec]; exact ⟨slZ, ba, bv, rfl, OwM.nil _ _, HLf.out, .inl rfl, .inl rfl⟩, fun hw hz => ?_, HKf.out⟩
         exact ⟨HNB.out, (HF.out.low 1 _ _ _ rfl).elim id (fun e => absurd (show gk18 = r from e) (fun e => box_ne (HF.out.box 1 _ _ _ rfl) (HF.out.box 0 _ _ _ rfl) (by decide) e))⟩
      ·skip
       try simp only [q4]
       go_upto_region 13 with fail
       refine WL.start <| uK (.pointer (some ⟨r, 0, none⟩)) <| uK (.pointer (some ⟨r, 0, none⟩)) <| uK (.pointer (some ⟨r, 14, none⟩)) <| uK (.pointer (some ⟨r, 14, none⟩)) <| uL 3 ⟨r, 14, none⟩ (.int .i64 M.st.n) (load_one ((HF.out.box 0 _ _ _ rfl).cell 14 |>.trans (by kernel_rfl)) U3 rfl) <| ?_
       try simp only [pS]
       cases q10 : (decide (1099511627776 ≤ M.st.n))
       ·skip
        refine uB .geq 3 (.int .i64 M.st.n) (.int .i64 1099511627776) (.bool false) (by rw [b_geq, q10]; try rfl) <| WL.nil <| ?_
        try simp only [pS]
        go_upto_region 15 with fail
        refine wp_region_held_drew (S := fun w' => w'.cell? ⟨r, 1, none⟩ = some (.int .i64 x.cl)) rfl ((HF.out.drew.box 0 _ _ _ rfl).cell 1 |>.trans (by kernel_rfl)) (fun hH => ?_)
        have HF : Hid (Fq (Only r) w (wk10.drew) [(r, 62, Rv.cells ⟨x.wr, x.cl, x.op, x.ky, g, x.rd, x.sz, x.bl, x.ph, ⟨(some ⟨ba, 0, none⟩), g.l, g.l⟩, ⟨(some ⟨bv, 0, none⟩), g.l, g.l⟩, M.st, x.er⟩)]) := HF.out.drew
        generalize wk10.drew = wk27 at HF hH ⊢
        refine xV 0 89 (.pointer (some ⟨r, 0, none⟩)) hH <| xV 1 90 (.pointer (some ⟨r, 0, none⟩)) hH <| xV 2 91 (.pointer (some ⟨r, 0, none⟩)) hH <| xV 3 92 (.pointer (some ⟨r, 14, none⟩)) hH <| xV 4 93 (.pointer (some ⟨r, 14, none⟩)) hH <| xV 7 96 (.pointer (some ⟨r, 0, none⟩)) hH <| ?_
        try simp only [pS]
        refine xV 8 97 (.pointer (some ⟨r, 0, none⟩)) hH <| xV 9 98 (.pointer (some ⟨r, 1, none⟩)) hH <| xL 10 99 3 ⟨r, 1, none⟩ (.int .i64 x.cl) (fun _ hw => load_one hw U3 rfl) hH <| ?_
        try simp only [pS]
        refine any_step (i := 5) (o := { dst := some 94, op := Op.load 3 (Operand.tmp 93), type := 3, pos := "ref.go:190", after := #[{ on := 4, ground := Ground.data }], guard := none }) rfl (by kernel_rfl) (by kernel_rfl) (exec_load 3 _ rfl ⟨r, 14, none⟩ (by kernel_rfl) (.int .i64 M.st.n) (load_one ((HF.out.box 0 _ _ _ rfl).cell 14 |>.trans (by kernel_rfl)) U3 rfl)) hH (fun hH => ?_)
        try simp only [pS]
        refine xB 6 95 .add 3 (.int .i64 M.st.n) (.int .i64 1) (.int .i64 (M.st.n + 1)) (fun _ _ => b_addw _ _ _ (by rw [IntKind.wrap_i64]; have := of_decide_eq_false q10; omega) _) hH <| xU 11 100 (.agg (Sp.cells ⟨M.st.n + 1, x.cl⟩)) (fun w' hw => exec_build 41 _ rfl (Sp.cells ⟨M.st.n + 1, x.cl⟩) (by kernel_rfl)) hH <| xV 12 101 (.pointer (some ⟨r, 0, none⟩)) hH <| xV 13 102 (.pointer (some ⟨r, 14, none⟩)) hH <| ?_
        try simp only [pS]
        refine xS 14 41 ⟨r, 14, none⟩ (.agg (Sp.cells ⟨M.st.n + 1, x.cl⟩)) (w' := wk27.setRow r (Rv.cells ⟨x.wr, x.cl, x.op, x.ky, g, x.rd, x.sz, x.bl, x.ph, ⟨(some ⟨ba, 0, none⟩), g.l, g.l⟩, ⟨(some ⟨bv, 0, none⟩), g.l, g.l⟩, ⟨M.st.n + 1, x.cl⟩, x.er⟩)) (rs (Rv.cs ⟨x.wr, x.cl, x.op, x.ky, g, x.rd, x.sz, x.bl, x.ph, ⟨(some ⟨ba, 0, none⟩), g.l, g.l⟩, ⟨(some ⟨bv, 0, none⟩), g.l, g.l⟩, M.st, x.er⟩) (Sp.cs ⟨M.st.n + 1, x.cl⟩) (Rv.cs ⟨x.wr, x.cl, x.op, x.ky, g, x.rd, x.sz, x.bl, x.ph, ⟨(some ⟨ba, 0, none⟩), g.l, g.l⟩, ⟨(some ⟨bv, 0, none⟩), g.l, g.l⟩, ⟨M.st.n + 1, x.cl⟩, x.er⟩) (HF.out.box 0 _ _ _ rfl) S41 (Sp.oneL _)) ((HF.out.set 0 rfl (Rv.cells ⟨x.wr, x.cl, x.op, x.ky, g, x.rd, x.sz, x.bl, x.ph, ⟨(some ⟨ba, 0, none⟩), g.l, g.l⟩, ⟨(some ⟨bv, 0, none⟩), g.l, g.l⟩, ⟨M.st.n + 1, x.cl⟩, x.er⟩)).box 0 _ _ _ rfl |>.cell 1 |>.trans (by kernel_rfl)) (fun hH => ?_)
        try simp only [pS]
        have HF : Hid (Fq (Only r) w (wk27.setRow r (Rv.cells ⟨x.wr, x.cl, x.op, x.ky, g, x.rd, x.sz, x.bl, x.ph, ⟨(some ⟨ba, 0, none⟩), g.l, g.l⟩, ⟨(some ⟨bv, 0, none⟩), g.l, g.l⟩, ⟨M.st.n + 1, x.cl⟩, x.er⟩)) [(r, 62, Rv.cells ⟨x.wr, x.cl, x.op, x.ky, g, x.rd, x.sz, x.bl, x.ph, ⟨(some ⟨ba, 0, none⟩), g.l, g.l⟩, ⟨(some ⟨bv, 0, none⟩), g.l, g.l⟩, ⟨M.st.n + 1, x.cl⟩, x.er⟩)]) := HF.out.set 0 rfl _
        generalize wk27.setRow r (Rv.cells ⟨x.wr, x.cl, x.op, x.ky, g, x.rd, x.sz, x.bl, x.ph, ⟨(some ⟨ba, 0, none⟩), g.l, g.l⟩, ⟨(some ⟨bv, 0, none⟩), g.l, g.l⟩, ⟨M.st.n + 1, x.cl⟩, x.er⟩) = wk28 at HF hH ⊢
        refine wpAnyH_done (by kernel_rfl) ?_ _
        try simp only [pS]
        clear hH
        go_upto_region 21 with fail
        refine WL.start <| uK (.pointer (some ⟨r, 0, none⟩)) <| uK (.pointer (some ⟨r, 0, none⟩)) <| uK (.pointer (some ⟨r, 8, none⟩)) <| uL 3 ⟨r, 8, none⟩ (.int .i64 x.rd) (load_one ((HF.out.box 0 _ _ _ rfl).cell 8 |>.trans (by kernel_rfl)) U3 rfl) <| ?_
        try simp only [pS]
        cases q11 : (decide (1099511627776 ≤ x.rd))
        ·skip
         refine uB .geq 3 (.int .i64 x.rd) (.int .i64 1099511627776) (.bool false) (by rw [b_geq, q11]; try rfl) <| WL.nil <| ?_
         try simp only [pS]
         go_upto_region 23 with fail
         refine WL.start <| uK (.pointer (some ⟨r, 0, none⟩)) <| uK (.pointer (some ⟨r, 0, none⟩)) <| uK (.pointer (some ⟨r, 0, none⟩)) <| uK (.pointer (some ⟨r, 8, none⟩)) <| uL 3 ⟨r, 8, none⟩ (.int .i64 x.rd) (load_one ((HF.out.box 0 _ _ _ rfl).cell 8 |>.trans (by kernel_rfl)) U3 rfl) <| uB .add 3 (.int .i64 x.rd) (.int .i64 1) (.int .i64 (x.rd + 1)) (b_addw _ _ _ (by rw [IntKind.wrap_i64]; have := of_decide_eq_false q11; omega) _) <| uK (.pointer (some ⟨r, 0, none⟩)) <| ?_
         try simp only [pS]
         refine uK (.pointer (some ⟨r, 8, none⟩)) ?_
         try simp only [pS]
         refine uT 3 ⟨r, 8, none⟩ (.int .i64 (x.rd + 1)) (wk28.setRow r (Rv.cells ⟨x.wr, x.cl, x.op, x.ky, g, (x.rd + 1), x.sz, x.bl, x.ph, ⟨(some ⟨ba, 0, none⟩), g.l, g.l⟩, ⟨(some ⟨bv, 0, none⟩), g.l, g.l⟩, ⟨M.st.n + 1, x.cl⟩, x.er⟩)) (rs (Rv.cs ⟨x.wr, x.cl, x.op, x.ky, g, x.rd, x.sz, x.bl, x.ph, ⟨(some ⟨ba, 0, none⟩), g.l, g.l⟩, ⟨(some ⟨bv, 0, none⟩), g.l, g.l⟩, ⟨M.st.n + 1, x.cl⟩, x.er⟩) ([.int .i64 (x.rd + 1)]) (Rv.cs ⟨x.wr, x.cl, x.op, x.ky, g, (x.rd + 1), x.sz, x.bl, x.ph, ⟨(some ⟨ba, 0, none⟩), g.l, g.l⟩, ⟨(some ⟨bv, 0, none⟩), g.l, g.l⟩, ⟨M.st.n + 1, x.cl⟩, x.er⟩) (HF.out.box 0 _ _ _ rfl) S3 (by simp [Value.oneCell', Sl.v])) ?_
         try simp only [pS]
         have HF : Hid (Fq (Only r) w (wk28.setRow r (Rv.cells ⟨x.wr, x.cl, x.op, x.ky, g, (x.rd + 1), x.sz, x.bl, x.ph, ⟨(some ⟨ba, 0, none⟩), g.l, g.l⟩, ⟨(some ⟨bv, 0, none⟩), g.l, g.l⟩, ⟨M.st.n + 1, x.cl⟩, x.er⟩)) [(r, 62, Rv.cells ⟨x.wr, x.cl, x.op, x.ky, g, (x.rd + 1), x.sz, x.bl, x.ph, ⟨(some ⟨ba, 0, none⟩), g.l, g.l⟩, ⟨(some ⟨bv, 0, none⟩), g.l, g.l⟩, ⟨M.st.n + 1, x.cl⟩, x.er⟩)]) := HF.out.set 0 rfl _
         generalize wk28.setRow r (Rv.cells ⟨x.wr, x.cl, x.op, x.ky, g, (x.rd + 1), x.sz, x.bl, x.ph, ⟨(some ⟨ba, 0, none⟩), g.l, g.l⟩, ⟨(some ⟨bv, 0, none⟩), g.l, g.l⟩, ⟨M.st.n + 1, x.cl⟩, x.er⟩) = wk29 at HF ⊢
         refine WL.nil ?_
         try simp only [pS]
         go_upto_region 24 with fail
         refine WL.start <| uK (.pointer (some ⟨r, 0, none⟩)) <| uK (.pointer (some ⟨r, 0, none⟩)) <| uK (.pointer (some ⟨r, 11, none⟩)) <| ?_
         try simp only [pS]
         refine uT 3 ⟨r, 11, none⟩ (.int .i64 2) (wk29.setRow r (Rv.cells ⟨x.wr, x.cl, x.op, x.ky, g, (x.rd + 1), x.sz, x.bl, 2, ⟨(some ⟨ba, 0, none⟩), g.l, g.l⟩, ⟨(some ⟨bv, 0, none⟩), g.l, g.l⟩, ⟨M.st.n + 1, x.cl⟩, x.er⟩)) (rs (Rv.cs ⟨x.wr, x.cl, x.op, x.ky, g, (x.rd + 1), x.sz, x.bl, x.ph, ⟨(some ⟨ba, 0, none⟩), g.l, g.l⟩, ⟨(some ⟨bv, 0, none⟩), g.l, g.l⟩, ⟨M.st.n + 1, x.cl⟩, x.er⟩) ([.int .i64 2]) (Rv.cs ⟨x.wr, x.cl, x.op, x.ky, g, (x.rd + 1), x.sz, x.bl, 2, ⟨(some ⟨ba, 0, none⟩), g.l, g.l⟩, ⟨(some ⟨bv, 0, none⟩), g.l, g.l⟩, ⟨M.st.n + 1, x.cl⟩, x.er⟩) (HF.out.box 0 _ _ _ rfl) S3 (by simp [Value.oneCell', Sl.v])) ?_
         try simp only [pS]
         have HF : Hid (Fq (Only r) w (wk29.setRow r (Rv.cells ⟨x.wr, x.cl, x.op, x.ky, g, (x.rd + 1), x.sz, x.bl, 2, ⟨(some ⟨ba, 0, none⟩), g.l, g.l⟩, ⟨(some ⟨bv, 0, none⟩), g.l, g.l⟩, ⟨M.st.n + 1, x.cl⟩, x.er⟩)) [(r, 62, Rv.cells ⟨x.wr, x.cl, x.op, x.ky, g, (x.rd + 1), x.sz, x.bl, 2, ⟨(some ⟨ba, 0, none⟩), g.l, g.l⟩, ⟨(some ⟨bv, 0, none⟩), g.l, g.l⟩, ⟨M.st.n + 1, x.cl⟩, x.er⟩)]) := HF.out.set 0 rfl _
         generalize wk29.setRow r (Rv.cells ⟨x.wr, x.cl, x.op, x.ky, g, (x.rd + 1), x.sz, x.bl, 2, ⟨(some ⟨ba, 0, none⟩), g.l, g.l⟩, ⟨(some ⟨bv, 0, none⟩), g.l, g.l⟩, ⟨M.st.n + 1, x.cl⟩, x.er⟩) = wk30 at HF ⊢
         refine WL.nil ?_
         try simp only [pS]
         go_upto_region 25 with fail
         refine WL.start <| uK (.pointer (some ⟨r, 0, none⟩)) <| ?_
         try simp only [pS]
         refine uC 25 #[.pointer (some ⟨r, 0, none⟩)] (rFresh r ({ x with rd := (x.rd + 1), bl := x.bl, ph := 2, tag := ⟨M.st.n + 1, x.cl⟩ }) g ⟨some ⟨ba, 0, none⟩, g.l, g.l⟩ ⟨some ⟨bv, 0, none⟩, g.l, g.l⟩ wk30 ⟨HF.out.box 0 _ _ _ rfl, HG.out.kept HF.out.kept hrg, hnn⟩) ?_
         rintro e wk31 ⟨ba', bv', rfl, hL2, h1, h2, hk⟩
         have HSz : Hid (w.heap.size ≤ wk30.heap.size) := HF.out.kept.size
         have HKf : Hid (Kept (Only r) w wk31) := HF.out.kept.trans hk (fun _ e => e) (fun _ _ e => e)
         have HLf : Hid (RfL wk31 r (freR { x with rd := (x.rd + 1), bl := x.bl, ph := 2, tag := ⟨M.st.n + 1, x.cl⟩ }) g ba' bv') := hL2
         have hba' : w.heap.size ≤ ba' := Nat.le_trans HSz.out h1
         have hbv' : w.heap.size ≤ bv' := Nat.le_trans HSz.out h2
         have HF : Hid (Fq (Only r) w wk31 []) := ⟨HKf.out, by simp, by simp, by simp⟩
         clear hk hL2 h1 h2
         refine ⟨.tuple #[], rfl, ?_⟩
         try simp only [pS]
         refine WL.nil ?_
         try simp only [pS]
         go_upto_region 26 with fail
         refine WL.start <| uK (.pointer (some ⟨r, 0, none⟩)) <| ?_
         try simp only [pS]
         refine uC 26 #[.pointer (some ⟨r, 0, none⟩)] (rTold r (freR { x with rd := (x.rd + 1), bl := x.bl, ph := 2, tag := ⟨M.st.n + 1, x.cl⟩ }) g ba' bv' wk31 HLf.out) ?_
         rintro e wk32 ⟨t, rfl, hO, hk⟩
         have HLf : Hid (RfL wk32 r (freR { x with rd := (x.rd + 1), bl := x.bl, ph := 2, tag := ⟨M.st.n + 1, x.cl⟩ }) g ba' bv') := HLf.out.no hk
         have HKf : Hid (Kept (Only r) w wk32) := HKf.out.then hk.of_no
         have HOt : Hid (OwM wk32 w.heap.size t (tolR (freR { x with rd := (x.rd + 1), bl := x.bl, ph := 2, tag := ⟨M.st.n + 1, x.cl⟩ }))) := ⟨hO.own.lower HF.out.kept.size, hO.len⟩
         clear hk hO
         refine ⟨t.v, rfl, ?_⟩
         try simp only [pS]
         refine uK (t.v) <| WL.nil <| ?_
         try simp only [pS]
         go_wp2
         rw [HC.out]
         have hsec : secR x M al 0 = (freR { x with rd := (x.rd + 1), bl := x.bl, ph := 2, tag := ⟨M.st.n + 1, x.cl⟩ }, tolR (freR { x with rd := (x.rd + 1), bl := x.bl, ph := 2, tag := ⟨M.st.n + 1, x.cl⟩ })) := by simp [secR, layR, q4, of_decide_eq_false q10, of_decide_eq_false q11]
         refine ⟨0, by rw [hsec]; exact ⟨t, ba', bv', rfl, HOt.out, HLf.out, .inr hba', .inr hbv'⟩, fun hw hz => ?_, HKf.out⟩
         rw [q4] at hw; cases hw
        ·skip
         refine uB .geq 3 (.int .i64 x.rd) (.int .i64 1099511627776) (.bool true) (by rw [b_geq, q11]; try rfl) <| WL.nil <| ?_
         try simp only [pS]
         go_upto_region 22 with fail
         refine WL.start <| uK (.pointer (some ⟨r, 0, none⟩)) <| ?_
         try simp only [pS]
         refine uC 24 #[.pointer (some ⟨r, 0, none⟩), .int .i64 4] (rEnd r ({ x with rd := x.rd, bl := x.bl, ph := x.ph, tag := ⟨M.st.n + 1, x.cl⟩ }) g ⟨some ⟨ba, 0, none⟩, g.l, g.l⟩ ⟨some ⟨bv, 0, none⟩, g.l, g.l⟩ 4 wk28 ⟨HF.out.box 0 _ _ _ rfl, HG.out.kept HF.out.kept hrg, hnn⟩) ?_
         rintro e wk33 ⟨rfl, hR2, hk⟩
         have HKf : Hid (Kept (Only r) w wk33) := HF.out.kept.trans hk (fun _ e => e) (fun _ _ e => e)
         have HLf : Hid (RfL wk33 r (endR { x with rd := x.rd, bl := x.bl, ph := x.ph, tag := ⟨M.st.n + 1, x.cl⟩ } 4) g ba bv) := ⟨hR2.box, hR2.gr, hR2.hn, HBa.out.kept HKf.out (fun e => hra e), HBv.out.kept HKf.out (fun e => hrv e), hla, hlv⟩
         clear hk hR2
         refine ⟨.slice none 0 0, rfl, ?_⟩
         try simp only [pS]
         refine uK (.slice none 0 0) <| WL.nil <| ?_
         try simp only [pS]
         go_wp2
         rw [HC.out]
         have hsec : secR x M al 0 = (endR { x with rd := x.rd, bl := x.bl, ph := x.ph, tag := ⟨M.st.n + 1, x.cl⟩ } 4, []) := by simp [secR, layR, q4, of_decide_eq_false q10, of_decide_eq_true q11]
         refine ⟨0, by rw [hsec]; exact ⟨slZ, ba, bv, rfl, OwM.nil _ _, HLf.out, .inl rfl, .inl rfl⟩, fun hw hz => ?_, HKf.out⟩
         rw [q4] at hw; cases hw
       ·skip
        refine uB .geq 3 (.int .i64 M.st.n) (.int .i64 1099511627776) (.bool true) (by rw [b_geq, q10]; try rfl) <| WL.nil <| ?_
        try simp only [pS]
        go_upto_region 14 with fail
        refine WL.start <| uK (.pointer (some ⟨r, 0, none⟩)) <| ?_
        try simp only [pS]
        refine uC 24 #[.pointer (some ⟨r, 0, none⟩), .int .i64 4] (rEnd r ({ x with rd := x.rd, bl := x.bl, ph := x.ph, tag := M.st }) g ⟨some ⟨ba, 0, none⟩, g.l, g.l⟩ ⟨some ⟨bv, 0, none⟩, g.l, g.l⟩ 4 wk10 ⟨HF.out.box 0 _ _ _ rfl, HG.out.kept HF.out.kept hrg, hnn⟩) ?_
        rintro e wk34 ⟨rfl, hR2, hk⟩
        have HKf : Hid (Kept (Only r) w wk34) := HF.out.kept.trans hk (fun _ e => e) (fun _ _ e => e)
        have HLf : Hid (RfL wk34 r (endR { x with rd := x.rd, bl := x.bl, ph := x.ph, tag := M.st } 4) g ba bv) := ⟨hR2.box, hR2.gr, hR2.hn, HBa.out.kept HKf.out (fun e => hra e), HBv.out.kept HKf.out (fun e => hrv e), hla, hlv⟩
        clear hk hR2
        refine ⟨.slice none 0 0, rfl, ?_⟩
        try simp only [pS]
        refine uK (.slice none 0 0) <| WL.nil <| ?_
        try simp only [pS]
        go_wp2
        rw [HC.out]
        have hsec : secR x M al 0 = (endR { x with rd := x.rd, bl := x.bl, ph := x.ph, tag := M.st } 4, []) := by simp [secR, layR, q4, of_decide_eq_true q10]
        refine ⟨0, by rw [hsec]; exact ⟨slZ, ba, bv, rfl, OwM.nil _ _, HLf.out, .inl rfl, .inl rfl⟩, fun hw hz => ?_, HKf.out⟩
        rw [q4] at hw; cases hw

end Go.Proofs.Ythnecaejhnojfaa.Md
