import Derived.Test.YthnecaejhnojfaaRd
namespace Go.Proofs.Ythnecaejhnojfaa.Md
open Go.RowKit
set_option linter.unusedVariables false
set_option linter.unusedSimpArgs false

def takX (x : Rx) (i : Nat) (m : Mg) : Rx := { x with qa := x.qa.set i true, vs := x.vs.set i m }
def cntB (l : List Bool) : Nat := l.countP (fun b => b)
theorem cnt_take {l : List Bool} {i : Nat} {b : Bool} (h : l[i]? = some b) : cntB (l.take (i + 1)) = cntB (l.take i) + (if b then 1 else 0) := by
  unfold cntB
  rw [List.take_add_one, h, List.countP_append]
  cases b <;> simp
theorem secK_some (x : Rx) : ∀ n i : Nat, i < n → x.qa[i]?.getD false = true → ∃ f al, secK x n = (some f, al) ∧ f < n
  | 0, i, h, _ => by omega
  | n + 1, i, h, hi => by
    show ∃ f al, (if x.qa[n]?.getD false then _ else _) = _ ∧ _
    by_cases e : x.qa[n]?.getD false = true
    · rw [if_pos e]
      cases h1 : (secK x n).1 with
      | none => exact ⟨n, _, rfl, by omega⟩
      | some j =>
        dsimp only
        have hj : j < n := by
          clear h hi e
          induction n with
          | zero => simp [secK] at h1
          | succ n ih =>
            rw [show secK x (n + 1) = (if x.qa[n]?.getD false then match (secK x n).1 with | none => (some n, (secK x n).2) | some j => (if lessB (gAt x.vs j).st.n (gAt x.vs j).st.c (gAt x.vs n).st.n (gAt x.vs n).st.c then some n else some j, (secK x n).2 && eqS (gAt x.vs n).st (gAt x.vs j).st) else secK x n) from rfl] at h1
            split at h1
            · split at h1
              · cases h1; omega
              · rename_i j' hj'
                dsimp only at h1
                split at h1
                · cases h1; omega
                · cases h1; have := ih hj'; omega
            · have := ih h1; omega
        split
        · exact ⟨n, _, rfl, by omega⟩
        · exact ⟨j, _, rfl, by omega⟩
    · rw [if_neg e]
      have hin : i < n := by
        rcases Nat.lt_or_ge i n with h' | h'
        · exact h'
        · obtain rfl : n = i := by omega
          exact absurd hi e
      obtain ⟨f, al, h1, h2⟩ := secK_some x n i hin hi
      exact ⟨f, al, h1, by omega⟩
theorem b_lssN (x y : Nat) (w : World) : (binOp .lss 3 (.int .i64 (x : Int)) (.int .i64 ((y : Nat) : Int))).run Try.prog w = .ok (.bool (decide (x < y))) w := by
  rw [b_lss]; congr 2; exact decide_eq_decide.2 (by omega)
def J3 (r ba bv : Nat) : Nat → Prop := fun k => k = r ∨ k = ba ∨ k = bv
/-- What a Take leaves. -/
def TakO (w : World) (r : Nat) (g : Sl) (ba bv : Nat) (x : Rx) (m : Mg) (e : Ending) (w' : World) : Prop :=
  Kept (J3 r ba bv) w w' ∧ ((PlcIs x m (-1) ∧ e = .returned (.slice none 0 0) ∧ RfL w' r x g ba bv) ∨ ∃ i : Nat, PlcIs x m (i : Int) ∧ i < x.zs.length ∧
    ((cntB (x.qa.set i true) < x.zs.length / 2 + 1 ∧ e = .returned (.slice none 0 0) ∧ RfL w' r (takX x i m) g ba bv) ∨
     (¬ cntB (x.qa.set i true) < x.zs.length / 2 + 1 ∧ x.ph = 2 ∧ e = .returned (.slice none 0 0) ∧ RfL w' r (endR (takX x i m) 0) g ba bv) ∨
     (¬ cntB (x.qa.set i true) < x.zs.length / 2 + 1 ∧ x.ph ≠ 2 ∧ ∃ f al nb, secK (takX x i m) x.zs.length = (some f, al) ∧ f < x.zs.length ∧ RfO w r g ba bv (secR (takX x i m) (gAt (takX x i m).vs f) al nb).1 (secR (takX x i m) (gAt (takX x i m).vs f) al nb).2 e w' ∧ (x.wr = false → eqS (gAt (takX x i m).vs f).st spZ = true → Box w' nb 5 (u8L (List.replicate x.sz.toNat 0)).toArray ∧ w.heap.size ≤ nb))))
set_option maxRecDepth 100000 in
set_option maxHeartbeats 4000000 in
theorem rTake (r : Nat) (x : Rx) (g : Sl) (ba bv : Nat) (m : Mg) (w : World) (hB : RfL w r x g ba bv) (hI : ∀ j, -9223372036854775808 ≤ (gAt x.vs j).st.n) (hm : -9223372036854775808 ≤ m.st.n) (hrd : 0 ≤ x.rd) (hz0 : 0 ≤ x.sz) (hz1 : x.sz ≤ 4096) : Calls Try.prog 13 #[.pointer (some ⟨r, 0, none⟩), .agg (Mg.cells m)] w (TakO w r g ba bv x m) := by
  obtain ⟨C, hC⟩ : ∃ C : Ending → World → Prop, C = (TakO w r g ba bv x m) := ⟨_, rfl⟩
  have HC : Hid (C = (TakO w r g ba bv x m)) := hC
  rw [← hC]
  clear hC
  have HBr : Hid (Box w r 62 (rvL x g ba bv).cells) := hB.box
  have HG : Hid (OwI w 0 g x.zs) := hB.gr
  have hzl := hB.gr.len
  have hnn := hB.hn
  have HBa : Hid (Box w ba 4 (boL x.qa).toArray) := hB.ba
  have HBv : Hid (Box w bv 52 (mgL x.vs).toArray) := hB.bv
  have hla := hB.la
  have hlv := hB.lv
  have HIm : Hid (∀ j, -9223372036854775808 ≤ (gAt x.vs j).st.n) := hI
  have HB : Hid (RfL w r x g ba bv) := hB
  have hR := HBr.out
  have hra : ba ≠ r := box_ne HBa.out hR (by decide)
  have hrv : bv ≠ r := box_ne HBv.out hR (by decide)
  have hav : ba ≠ bv := box_ne HBa.out HBv.out (by decide)
  have hrg : ∀ k, At g.a k → ¬ J3 r ba bv k := fun k h e => by
    rcases e with rfl | rfl | rfl
    · exact HG.out.own.notBox hR (by decide) h
    · exact HG.out.own.notBox HBa.out (by decide) h
    · exact HG.out.own.notBox HBv.out (by decide) h
  have HF : Hid (Fq (J3 r ba bv) w w [(r, 62, (rvL x g ba bv).cells), (ba, 4, (boL x.qa).toArray), (bv, 52, (mgL x.vs).toArray)]) := ⟨Kept.refl _ _, fun i g' T cs hi => by
    match i, hi with
    | 0, hi => cases hi; exact hR
    | 1, hi => cases hi; exact HBa.out
    | 2, hi => cases hi; exact HBv.out, fun i g' T cs hi => by
    match i, hi with
    | 0, hi => cases hi; exact .inr (.inl rfl)
    | 1, hi => cases hi; exact .inr (.inr (.inl rfl))
    | 2, hi => cases hi; exact .inr (.inr (.inr rfl)), fun i j g' T cs T' cs' hi hj => by
    match i, j, hi, hj with
    | 0, 0, _, _ => rfl
    | 1, 1, _, _ => rfl
    | 2, 2, _, _ => rfl
    | 0, 1, hi, hj => cases hi; cases hj; exact absurd rfl hra
    | 0, 2, hi, hj => cases hi; cases hj; exact absurd rfl hrv
    | 1, 2, hi, hj => cases hi; cases hj; exact absurd rfl hav
    | 1, 0, hi, hj => cases hi; cases hj; exact absurd rfl hra
    | 2, 0, hi, hj => cases hi; cases hj; exact absurd rfl hrv
    | 2, 1, hi, hj => cases hi; cases hj; exact absurd rfl hav⟩
  clear hB HBr HBa HBv hI
  have HK1 : Hid (Kept No w w) := Kept.refl No w
  go_enter Try.func13, Try.ntmps13
  go_upto_region 0 with fail
  refine WL.start ?_
  refine uR (.pointer (some ⟨w.heap.size, 0, none⟩)) (w.alloc (.cells (Mg.cells m) 52)) (exec_box 52 _ rfl (Mg.cells m) (by kernel_rfl)) ?_
  try simp only [pS]
  have HK1 : Hid (Kept No w (w.alloc (.cells (Mg.cells m) 52))) := HK1.out.alloc _
  have HF : Hid (Fq (J3 r ba bv) w (w.alloc (.cells (Mg.cells m) 52)) [(r, 62, Rv.cells (rvL x g ba bv)), (ba, 4, (boL (x.qa)).toArray), (bv, 52, (mgL (x.vs)).toArray), (w.heap.size, 52, Mg.cells m)]) := HF.out.alloc _ _
  generalize w.alloc (.cells (Mg.cells m) 52) = wk2 at HF HK1 ⊢
  generalize w.heap.size = gk1 at HF ⊢
  refine uK (.slice none 0 0) <| WL.nil <| ?_
  try simp only [pS]
  go_upto_region 1 with fail
  refine WL.start <| uK (.pointer (some ⟨r, 0, none⟩)) <| uL 52 ⟨gk1, 0, none⟩ (.agg (Mg.cells m)) (run_load_part (cs := Mg.cs m) (sub := Mg.cs m) (HF.out.box 3 _ _ _ rfl) (Part.all _) U52 rfl S52) <| ?_
  try simp only [pS]
  refine uC 28 #[.pointer (some ⟨r, 0, none⟩), .agg (Mg.cells m)] (rPlace r x g ba bv m wk2 (HB.out.no HK1.out)) ?_
  rintro e wk3 ⟨⟨o, rfl, hp⟩, hk⟩
  have HPl : Hid (PlcIs x m o) := hp
  have HK1 : Hid (Kept No w wk3) := HK1.out.then hk
  have HF : Hid (Fq (J3 r ba bv) w (wk3) [(r, 62, Rv.cells (rvL x g ba bv)), (ba, 4, (boL (x.qa)).toArray), (bv, 52, (mgL (x.vs)).toArray), (gk1, 52, Mg.cells m)]) := HF.out.no hk
  clear hk hp
  refine ⟨.int .i64 o, rfl, ?_⟩
  try simp only [pS]
  refine uK (.int .i64 o) <| WL.nil <| ?_
  try simp only [pS]
  by_cases ho : o < 0
  ·skip
   obtain rfl : -1 = o := by
     rcases HPl.out with ⟨h, _⟩ | ⟨i, h, _⟩ <;> omega
   go_upto_region 2 with fail
   refine WL.start <| uK (.int .i64 (-1)) <| uB .lss 3 (.int .i64 (-1)) (.int .i64 0) (.bool true) (by rw [b_lss, decide_eq_true (by omega)]) <| WL.nil <| ?_
   try simp only [pS]
   go_upto_region 3 with fail
   refine WL.start <| uK (.slice none 0 0) <| WL.nil <| ?_
   try simp only [pS]
   go_wp2
   rw [HC.out]
   exact ⟨HF.out.kept, .inl ⟨HPl.out, rfl, HB.out.no HK1.out⟩⟩
  ·skip
   obtain ⟨i, rfl⟩ : ∃ i : Nat, o = (i : Int) := ⟨o.toNat, by omega⟩
   have hi : i < x.zs.length := by
     rcases HPl.out with ⟨h, _⟩ | ⟨i', h, hl, _⟩ <;> omega
   have hig : i < g.l := by omega
   go_upto_region 2 with fail
   refine WL.start <| uK (.int .i64 ((i : Nat) : Int)) <| uB .lss 3 (.int .i64 ((i : Nat) : Int)) (.int .i64 0) (.bool false) (by rw [b_lss, decide_eq_false (by omega)]) <| WL.nil <| ?_
   try simp only [pS]
   go_upto_region 4 with fail
   refine WL.start <| uK (.pointer (some ⟨r, 0, none⟩)) <| uK (.pointer (some ⟨r, 0, none⟩)) <| uK (.pointer (some ⟨r, 12, none⟩)) <| uL 60 ⟨r, 12, none⟩ (.slice (some ⟨ba, 0, none⟩) g.l g.l) (load_one ((HF.out.box 0 _ _ _ rfl).cell 12 |>.trans (by kernel_rfl)) U70 rfl) <| uK (.int .i64 ((i : Nat) : Int)) <| uW (.pointer (some ⟨ba, 0 + i * 1, none⟩)) (exec_ixA 60 1 E70 F70 _ _ rfl ba 0 g.l g.l i (by kernel_rfl) (by kernel_rfl) (by omega)) <| ?_
   try simp only [pS]
   refine uT 4 ⟨ba, 0 + i * 1, none⟩ (.bool true) (wk3.setRow ba ((boL ((x.qa).set i true)).toArray)) (st_bo true (HF.out.box 1 _ _ _ rfl) (by omega)) ?_
   try simp only [pS]
   have HF : Hid (Fq (J3 r ba bv) w (wk3.setRow ba ((boL ((x.qa).set i true)).toArray)) [(r, 62, Rv.cells (rvL x g ba bv)), (ba, 4, (boL ((x.qa).set i true)).toArray), (bv, 52, (mgL (x.vs)).toArray), (gk1, 52, Mg.cells m)]) := HF.out.set 1 rfl _
   generalize wk3.setRow ba ((boL ((x.qa).set i true)).toArray) = wk4 at HF ⊢
   refine WL.nil ?_
   try simp only [pS]
   go_upto_region 5 with fail
   refine wp_region_held_drew (S := fun w' => Box w' r 62 (Rv.cells (rvL x g ba bv)) ∧ Box w' gk1 52 (Mg.cells m)) rfl ⟨HF.out.box 0 _ _ _ rfl, HF.out.box 3 _ _ _ rfl⟩ (fun hH => ?_)
   have HF : Hid (Fq (J3 r ba bv) w (wk4.drew) [(r, 62, Rv.cells (rvL x g ba bv)), (ba, 4, (boL ((x.qa).set i true)).toArray), (bv, 52, (mgL (x.vs)).toArray), (gk1, 52, Mg.cells m)]) := HF.out.drew
   generalize wk4.drew = wk5 at HF hH ⊢
   refine xV 0 19 (.pointer (some ⟨r, 0, none⟩)) hH <| xV 1 20 (.pointer (some ⟨r, 0, none⟩)) hH <| xV 2 21 (.pointer (some ⟨r, 13, none⟩)) hH <| xL 3 22 57 ⟨r, 13, none⟩ (.slice (some ⟨bv, 0, none⟩) g.l g.l) (fun _ hw => load_one ((hw.1).cell 13 |>.trans (by kernel_rfl)) U71 rfl) hH <| xV 4 23 (.int .i64 ((i : Nat) : Int)) hH <| xL 5 24 52 ⟨gk1, 0, none⟩ (.agg (Mg.cells m)) (fun _ hw => run_load_part (cs := Mg.cs m) (sub := Mg.cs m) (hw.2) (Part.all _) U52 rfl S52) hH <| ?_
   try simp only [pS]
   refine xU 6 25 (.pointer (some ⟨bv, 0 + i * 30, none⟩)) (fun w' hw => exec_ixA 57 30 E71 F71 _ _ rfl bv 0 g.l g.l i (by kernel_rfl) (by kernel_rfl) (by omega)) hH ?_
   try simp only [pS]
   refine xS 7 52 ⟨bv, 0 + i * 30, none⟩ (.agg (Mg.cells m)) (w' := wk5.setRow bv ((mgL ((x.vs).set i m)).toArray)) (st_M m (HF.out.box 2 _ _ _ rfl) (by omega)) (⟨hH.1.rowNe (HF.out.ne 0 2 rfl rfl (by simp)) _, hH.2.rowNe (HF.out.ne 3 2 rfl rfl (by simp)) _⟩) (fun hH => ?_)
   try simp only [pS]
   have HF : Hid (Fq (J3 r ba bv) w (wk5.setRow bv ((mgL ((x.vs).set i m)).toArray)) [(r, 62, Rv.cells (rvL x g ba bv)), (ba, 4, (boL ((x.qa).set i true)).toArray), (bv, 52, (mgL ((x.vs).set i m)).toArray), (gk1, 52, Mg.cells m)]) := HF.out.set 2 rfl _
   generalize wk5.setRow bv ((mgL ((x.vs).set i m)).toArray) = wk6 at HF hH ⊢
   refine wpAnyH_done (by kernel_rfl) ?_ _
   try simp only [pS]
   clear hH
   go_upto_region 6 with fail
   refine WL.start <| uK (.int .i64 0) <| WL.nil <| ?_
   try simp only [pS]
   go_upto_region 7 with fail
   refine WL.start <| uK (.int .i64 0) <| WL.nil <| ?_
   try simp only [pS]
   have hla2 : (x.qa.set i true).length = g.l := by rw [List.length_set]; exact hla
   go_wp2
   go_loopw [6, 7] (fun v3 v4 wr => ∃ (j c : Nat), v3 = .int .i64 ((c : Nat) : Int) ∧ v4 = .int .i64 ((j : Nat) : Int) ∧ j ≤ g.l ∧ c ≤ j ∧ Hid (c = cntB ((x.qa.set i true).take j)) ∧ Hid (Fq (J3 r ba bv) w (wr) [(r, 62, Rv.cells (rvL x g ba bv)), (ba, 4, (boL ((x.qa).set i true)).toArray), (bv, 52, (mgL ((x.vs).set i m)).toArray), (gk1, 52, Mg.cells m)])) (fun _ i _ => g.l - (intOf i).toNat)
   case atStart => exact ⟨0, 0, by go_num, by go_num, by omega, by omega, show 0 = cntB ((x.qa.set i true).take 0) from rfl, HF⟩
   case round =>
     clear HF
     obtain ⟨j, c, rfl, rfl, hj, hcj, HP, HF⟩ := hrel
     by_cases hlt : j < g.l
     · skip
       obtain ⟨bb, hbb⟩ := at_b hla2 hlt
       have hct := cnt_take hbb
       cases bb
       ·skip
        go_upto_region 8 with fail
        refine WL.start <| uK (.int .i64 ((j : Nat) : Int)) <| uK (.pointer (some ⟨r, 0, none⟩)) <| uK (.pointer (some ⟨r, 0, none⟩)) <| uK (.pointer (some ⟨r, 7, none⟩)) <| uL 24 ⟨r, 7, none⟩ (g.v) (load_one ((HF.out.box 0 _ _ _ rfl).cell 7 |>.trans (by kernel_rfl)) U24 rfl) <| uK (.int .i64 ((g.l : Nat) : Int)) <| uB .lss 3 (.int .i64 ((j : Nat) : Int)) (.int .i64 ((g.l : Nat) : Int)) (.bool true) (by rw [b_lss, decide_eq_true (by omega)]) <| WL.nil <| ?_
        try simp only [pS]
        go_upto_region 10 with fail
        refine WL.start <| uK (.pointer (some ⟨r, 0, none⟩)) <| uK (.pointer (some ⟨r, 0, none⟩)) <| uK (.pointer (some ⟨r, 12, none⟩)) <| uL 60 ⟨r, 12, none⟩ (.slice (some ⟨ba, 0, none⟩) g.l g.l) (load_one ((HF.out.box 0 _ _ _ rfl).cell 12 |>.trans (by kernel_rfl)) U70 rfl) <| uK (.int .i64 ((j : Nat) : Int)) <| uW (.pointer (some ⟨ba, 0 + j * 1, none⟩)) (exec_ixA 60 1 E70 F70 _ _ rfl ba 0 g.l g.l j (by kernel_rfl) (by kernel_rfl) (by omega)) <| uL 4 ⟨ba, 0 + j * 1, none⟩ (.bool false) (ld_bo (HF.out.box 1 _ _ _ rfl) (by rw [hbb])) <| WL.nil <| ?_
        try simp only [pS]
        go_upto_region 9 with fail
        refine WL.start <| uK (.int .i64 ((j : Nat) : Int)) <| uB .add 3 (.int .i64 ((j : Nat) : Int)) (.int .i64 1) (.int .i64 (((j + 1) : Nat) : Int)) (b_addw _ _ _ (by rw [IntKind.wrap_i64]; omega) _) <| uK (.int .i64 (((j + 1) : Nat) : Int)) <| WL.nil <| ?_
        try simp only [pS]
        go_wp2
        go_roundw
        case rel => exact ⟨j + 1, c, by go_num, by go_num, by omega, by omega, show _ = _ by rw [hct, ← HP.out]; rfl, HF⟩
        case measure => simp [intOf]; omega
       ·skip
        go_upto_region 8 with fail
        refine WL.start <| uK (.int .i64 ((j : Nat) : Int)) <| uK (.pointer (some ⟨r, 0, none⟩)) <| uK (.pointer (some ⟨r, 0, none⟩)) <| uK (.pointer (some ⟨r, 7, none⟩)) <| uL 24 ⟨r, 7, none⟩ (g.v) (load_one ((HF.out.box 0 _ _ _ rfl).cell 7 |>.trans (by kernel_rfl)) U24 rfl) <| uK (.int .i64 ((g.l : Nat) : Int)) <| uB .lss 3 (.int .i64 ((j : Nat) : Int)) (.int .i64 ((g.l : Nat) : Int)) (.bool true) (by rw [b_lss, decide_eq_true (by omega)]) <| WL.nil <| ?_
        try simp only [pS]
        go_upto_region 10 with fail
        refine WL.start <| uK (.pointer (some ⟨r, 0, none⟩)) <| uK (.pointer (some ⟨r, 0, none⟩)) <| uK (.pointer (some ⟨r, 12, none⟩)) <| uL 60 ⟨r, 12, none⟩ (.slice (some ⟨ba, 0, none⟩) g.l g.l) (load_one ((HF.out.box 0 _ _ _ rfl).cell 12 |>.trans (by kernel_rfl)) U70 rfl) <| uK (.int .i64 ((j : Nat) : Int)) <| uW (.pointer (some ⟨ba, 0 + j * 1, none⟩)) (exec_ixA 60 1 E70 F70 _ _ rfl ba 0 g.l g.l j (by kernel_rfl) (by kernel_rfl) (by omega)) <| uL 4 ⟨ba, 0 + j * 1, none⟩ (.bool true) (ld_bo (HF.out.box 1 _ _ _ rfl) (by rw [hbb])) <| WL.nil <| ?_
        try simp only [pS]
        go_upto_region 11 with fail
        refine WL.start <| uK (.int .i64 ((c : Nat) : Int)) <| uB .add 3 (.int .i64 ((c : Nat) : Int)) (.int .i64 1) (.int .i64 (((c + 1) : Nat) : Int)) (b_addw _ _ _ (by rw [IntKind.wrap_i64]; omega) _) <| uK (.int .i64 (((c + 1) : Nat) : Int)) <| WL.nil <| ?_
        try simp only [pS]
        go_upto_region 9 with fail
        refine WL.start <| uK (.int .i64 ((j : Nat) : Int)) <| uB .add 3 (.int .i64 ((j : Nat) : Int)) (.int .i64 1) (.int .i64 (((j + 1) : Nat) : Int)) (b_addw _ _ _ (by rw [IntKind.wrap_i64]; omega) _) <| uK (.int .i64 (((j + 1) : Nat) : Int)) <| WL.nil <| ?_
        try simp only [pS]
        go_wp2
        go_roundw
        case rel => exact ⟨j + 1, c + 1, by go_num, by go_num, by omega, by omega, show _ = _ by rw [hct, ← HP.out]; rfl, HF⟩
        case measure => simp [intOf]; omega
     · skip
       have hcc : c = cntB (x.qa.set i true) := by rw [HP.out, List.take_of_length_le (by omega)]
       go_upto_region 8 with fail
       refine WL.start <| uK (.int .i64 ((j : Nat) : Int)) <| uK (.pointer (some ⟨r, 0, none⟩)) <| uK (.pointer (some ⟨r, 0, none⟩)) <| uK (.pointer (some ⟨r, 7, none⟩)) <| uL 24 ⟨r, 7, none⟩ (g.v) (load_one ((HF.out.box 0 _ _ _ rfl).cell 7 |>.trans (by kernel_rfl)) U24 rfl) <| uK (.int .i64 ((g.l : Nat) : Int)) <| uB .lss 3 (.int .i64 ((j : Nat) : Int)) (.int .i64 ((g.l : Nat) : Int)) (.bool false) (by rw [b_lss, decide_eq_false (by omega)]) <| WL.nil <| ?_
       try simp only [pS]
       go_upto_region 12 with fail
       refine WL.start <| uK (.int .i64 ((c : Nat) : Int)) <| uK (.pointer (some ⟨r, 0, none⟩)) <| ?_
       try simp only [pS]
       refine uC 29 #[.pointer (some ⟨r, 0, none⟩)] (rNeed r (takX x i m) g ⟨some ⟨ba, 0, none⟩, g.l, g.l⟩ ⟨some ⟨bv, 0, none⟩, g.l, g.l⟩ wr ⟨HF.out.box 0 _ _ _ rfl, HG.out.kept HF.out.kept hrg, hnn⟩) ?_
       rintro e wk7 ⟨rfl, hk⟩
       have HF : Hid (Fq (J3 r ba bv) w (wk7) [(r, 62, Rv.cells (rvL x g ba bv)), (ba, 4, (boL ((x.qa).set i true)).toArray), (bv, 52, (mgL ((x.vs).set i m)).toArray), (gk1, 52, Mg.cells m)]) := HF.out.no hk
       clear hk
       refine ⟨.int .i64 (((g.l / 2 + 1) : Nat) : Int), rfl, ?_⟩
       try simp only [pS]
       cases q1 : (decide (c < g.l / 2 + 1))
       ·skip
        refine uB .lss 3 (.int .i64 ((c : Nat) : Int)) (.int .i64 (((g.l / 2 + 1) : Nat) : Int)) (.bool false) (by rw [b_lssN, q1]; try rfl) <| WL.nil <| ?_
        try simp only [pS]
        have hcn : ¬ cntB (x.qa.set i true) < x.zs.length / 2 + 1 := by have := of_decide_eq_false q1; omega
        go_upto_region 14 with fail
        refine WL.start <| uK (.pointer (some ⟨r, 0, none⟩)) <| uK (.pointer (some ⟨r, 0, none⟩)) <| uK (.pointer (some ⟨r, 11, none⟩)) <| uL 3 ⟨r, 11, none⟩ (.int .i64 x.ph) (load_one ((HF.out.box 0 _ _ _ rfl).cell 11 |>.trans (by kernel_rfl)) U3 rfl) <| ?_
        try simp only [pS]
        cases q2 : (x.ph == 2)
        ·skip
         refine uB .eql 3 (.int .i64 x.ph) (.int .i64 2) (.bool false) (by rw [b_eql, q2]; try rfl) <| WL.nil <| ?_
         try simp only [pS]
         go_upto_region 16 with fail
         refine WL.start <| uK (.pointer (some ⟨r, 0, none⟩)) <| ?_
         try simp only [pS]
         have HLx : Hid (RfL wk7 r (takX x i m) g ba bv) := ⟨HF.out.box 0 _ _ _ rfl, HG.out.kept HF.out.kept hrg, hnn, HF.out.box 1 _ _ _ rfl, HF.out.box 2 _ _ _ rfl, by simpa [takX] using hla, by simpa [takX] using hlv⟩
         obtain ⟨f, al, hsf, hfl⟩ := secK_some (takX x i m) x.zs.length i hi (by simp [takX, List.getElem?_set, show i < x.qa.length by omega])
         have h63 : -9223372036854775808 ≤ (gAt (takX x i m).vs f).st.n := by
           by_cases e : i = f
           · subst e; have e2 : gAt (takX x i m).vs i = m := by simp [gAt, takX, List.getElem?_set, show i < x.vs.length by omega]
             rw [e2]; exact hm
           · have e2 : gAt (takX x i m).vs f = gAt x.vs f := by simp [gAt, takX, List.getElem?_set, e]
             rw [e2]; exact HIm.out f
         refine uC 30 #[.pointer (some ⟨r, 0, none⟩)] (rSecond r (takX x i m) g ba bv f al wk7 HLx.out hsf hfl h63 hrd hz0 hz1) ?_
         rintro e wk8 ⟨nb, ⟨t, ba', bv', rfl, hO, hL, h1, h2⟩, hz, hk⟩
         have hsw : w.heap.size ≤ wk7.heap.size := HF.out.kept.size
         have HKf : Hid (Kept (J3 r ba bv) w wk8) := HF.out.kept.trans hk (fun _ e => e) (fun _ _ e => .inl e)
         have HEn : Hid (RfO w r g ba bv (secR (takX x i m) (gAt (takX x i m).vs f) al nb).1 (secR (takX x i m) (gAt (takX x i m).vs f) al nb).2 (.returned t.v) wk8) := ⟨t, ba', bv', rfl, ⟨hO.own.lower hsw, hO.len⟩, hL, h1.imp id (fun h => Nat.le_trans hsw h), h2.imp id (fun h => Nat.le_trans hsw h)⟩
         have HZn : Hid (x.wr = false → eqS (gAt (takX x i m).vs f).st spZ = true → Box wk8 nb 5 (u8L (List.replicate x.sz.toNat 0)).toArray ∧ w.heap.size ≤ nb) := show x.wr = false → eqS (gAt (takX x i m).vs f).st spZ = true → Box wk8 nb 5 (u8L (List.replicate x.sz.toNat 0)).toArray ∧ w.heap.size ≤ nb from fun a b => ⟨(hz a b).1, Nat.le_trans hsw (hz a b).2⟩
         clear hz hk hO hL h1 h2
         refine ⟨t.v, rfl, ?_⟩
         try simp only [pS]
         refine uK (t.v) <| WL.nil <| ?_
         try simp only [pS]
         go_wp2
         rw [HC.out]
         exact ⟨HKf.out, .inr ⟨i, HPl.out, hi, .inr (.inr ⟨hcn, fun e => by rw [e] at q2; exact absurd q2 (by decide), f, al, nb, hsf, hfl, HEn.out, HZn.out⟩)⟩⟩
        ·skip
         refine uB .eql 3 (.int .i64 x.ph) (.int .i64 2) (.bool true) (by rw [b_eql, q2]; try rfl) <| WL.nil <| ?_
         try simp only [pS]
         go_upto_region 15 with fail
         refine WL.start <| uK (.pointer (some ⟨r, 0, none⟩)) <| ?_
         try simp only [pS]
         refine uC 24 #[.pointer (some ⟨r, 0, none⟩), .int .i64 0] (rEnd r (takX x i m) g ⟨some ⟨ba, 0, none⟩, g.l, g.l⟩ ⟨some ⟨bv, 0, none⟩, g.l, g.l⟩ 0 wk7 ⟨HF.out.box 0 _ _ _ rfl, HG.out.kept HF.out.kept hrg, hnn⟩) ?_
         rintro e wk9 ⟨rfl, hR2, hk⟩
         have HKf : Hid (Kept (J3 r ba bv) w wk9) := HF.out.kept.trans hk (fun _ e => e) (fun _ _ e => .inl e)
         have HLf : Hid (RfL wk9 r (endR (takX x i m) 0) g ba bv) := ⟨hR2.box, hR2.gr, hR2.hn, (HF.out.box 1 _ _ _ rfl).kept hk (fun e => hra e), (HF.out.box 2 _ _ _ rfl).kept hk (fun e => hrv e), by simpa [takX, endR] using hla, by simpa [takX, endR] using hlv⟩
         clear hk hR2
         refine ⟨.slice none 0 0, rfl, ?_⟩
         try simp only [pS]
         refine uK (.slice none 0 0) <| WL.nil <| ?_
         try simp only [pS]
         go_wp2
         rw [HC.out]
         exact ⟨HKf.out, .inr ⟨i, HPl.out, hi, .inr (.inl ⟨hcn, beq_iff_eq.1 q2, rfl, HLf.out⟩)⟩⟩
       ·skip
        refine uB .lss 3 (.int .i64 ((c : Nat) : Int)) (.int .i64 (((g.l / 2 + 1) : Nat) : Int)) (.bool true) (by rw [b_lssN, q1]; try rfl) <| WL.nil <| ?_
        try simp only [pS]
        go_upto_region 13 with fail
        refine WL.start <| uK (.slice none 0 0) <| WL.nil <| ?_
        try simp only [pS]
        go_wp2
        rw [HC.out]
        refine ⟨HF.out.kept, .inr ⟨i, HPl.out, hi, .inl ⟨by have := of_decide_eq_true q1; omega, rfl, ⟨HF.out.box 0 _ _ _ rfl, HG.out.kept HF.out.kept hrg, hnn, HF.out.box 1 _ _ _ rfl, HF.out.box 2 _ _ _ rfl, by simpa [takX] using hla, by simpa [takX] using hlv⟩⟩⟩⟩

end Go.Proofs.Ythnecaejhnojfaa.Md
