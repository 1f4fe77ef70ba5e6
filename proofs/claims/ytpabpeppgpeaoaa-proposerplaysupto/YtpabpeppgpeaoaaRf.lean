import Derived.Test.YtpabpeppgpeaoaaRe
namespace Go.Proofs.Ytpabpeppgpeaoaa.Md
open Go.RowKit
set_option linter.unusedVariables false
set_option linter.unusedSimpArgs false

def chK (x : Rs) : Nat → Sp × Cm
  | 0 => (spZ, x.mine)
  | i + 1 => if x.qc[i]?.getD false && lessB' (chK x i).1 (x.qh[i]?.getD spZ) then (x.qh[i]?.getD spZ, x.qm[i]?.getD cZ) else chK x i
def chooseR (x : Rs) : Rs := { x with ch := (chK x x.zs.length).2 }
theorem at_s {α : Type} {l : List α} {i n : Nat} (hl : l.length = n) (h : i < n) : ∃ b, l[i]? = some b := ⟨l[i], List.getElem?_eq_getElem _⟩
theorem RfAt.wide {J J' : Nat → Prop} {w : World} {r : Nat} {x : Rs} (h : RfAt w J r x) (hS : ∀ k, J k → J' k) : RfAt w J' r x := by
  obtain ⟨g, ba, bc, bh, bm, h⟩ := h
  exact ⟨g, ba, bc, bh, bm, ⟨Kept.refl _ _, h.fq.box, fun i g T cs hi => .inr ((h.fq.low i g T cs hi).elim (fun e => absurd (h.fq.box i g T cs hi).lt (by omega)) (hS g)), h.fq.inj⟩, h.gr, fun k e => hS k (h.gj k e), h.la, h.lc, h.lh, h.lm, h.hn⟩
theorem Jn.sub {J : Nat → Prop} {w W : World} (h : w.heap.size ≤ W.heap.size) {k : Nat} (e : Jn (Jn J w) W k) : Jn J w k := by
  rcases e with e | e
  · exact e
  · exact .inr (Nat.le_trans h e)
theorem kept_jn {J : Nat → Prop} {w W w' : World} (h : Kept J w W) (k : Kept (Jn J w) W w') : Kept J w w' :=
  h.trans k (fun _ e => e) (fun i hi e => e.elim id (fun l => absurd hi (by omega)))
/-- What a call of the reference tells and leaves. -/
def RfOut (w : World) (J : Nat → Prop) (r : Nat) (y : Rs × List Mg) (e : Ending) (w' : World) : Prop := ∃ s : Sl, e = .returned s.v ∧ OwM w' w.heap.size s y.2 ∧ RfAt w' (Jn J w) r y.1 ∧ Kept J w w'
theorem RfOut.behind {J : Nat → Prop} {w W w' : World} {r : Nat} {y : Rs × List Mg} {e : Ending} (hk : Kept J w W) (h : RfOut W (Jn J w) r y e w') : RfOut w J r y e w' := by
  obtain ⟨s, he, hO, hR, hk'⟩ := h
  exact ⟨s, he, ⟨hO.own.lower hk.size, hO.len⟩, hR.wide (fun k e => Jn.sub hk.size e), kept_jn hk hk'⟩
theorem send_out {J : Nat → Prop} {w w' : World} {r : Nat} {x : Rs} {e : Ending} (hB : RfAt w J r x) (h : SendOut w (sendR x) e w') : RfOut w J r (x, sendR x) e w' := by
  obtain ⟨s, he, hO, hk⟩ := h
  obtain ⟨g, ba, bc, bh, bm, hB⟩ := hB
  exact ⟨s, he, hO, RfAt.wide ⟨g, ba, bc, bh, bm, hB.no hk⟩ (fun k e => .inl e), hk.of_no⟩
theorem send_at {J : Nat → Prop} {w : World} {r : Nat} {x : Rs} (hB : RfAt w J r x) : Calls Try.prog 61 #[.pointer (some ⟨r, 0, none⟩)] w (RfOut w J r (x, sendR x)) := by
  have hB' := hB
  obtain ⟨g, ba, bc, bh, bm, h⟩ := hB
  exact Calls.mono (rSend_any J r x g ba bc bh bm w h) (fun e w' h => send_out hB' h)
theorem fresh_at {J : Nat → Prop} {w : World} {r : Nat} {x : Rs} (hB : RfAt w J r x) : Calls Try.prog 36 #[.pointer (some ⟨r, 0, none⟩)] w (fun e w' => e = .returned (.tuple #[]) ∧ RfAt w' (Jn J w) r (freshR x) ∧ Kept J w w') := by
  obtain ⟨g, ba, bc, bh, bm, h⟩ := hB
  exact rFresh_any J r x g ba bc bh bm w h
theorem b_gtr (a b : Int) (w : World) : (binOp .gtr 3 (.int .i64 a) (.int .i64 b)).run Try.prog w = .ok (.bool (decide (b < a))) w := rfl
theorem wr_add (a : Int) (w : World) : (binOp .add 3 (.int .i64 a) (.int .i64 1)).run Try.prog w = .ok (.int .i64 (wr1 a)) w := rfl
set_option maxRecDepth 100000 in
set_option maxHeartbeats 4000000 in
theorem rChoose_any (J : Nat → Prop) (r : Nat) (x : Rs) (g : Sl) (ba bc bh bm : Nat) (w : World) (hB : RfB w J r x g ba bc bh bm) : Calls Try.prog 66 #[.pointer (some ⟨r, 0, none⟩)] w (fun e w' => e = .returned (.tuple #[]) ∧ RfAt w' (Jn J w) r (chooseR x) ∧ Kept J w w') := by
  refine hideC fun C HC => ?_
  have HF : Hid (Fq J w w [(r, 56, Rv.cells (rvOf x g ba bc bh bm)), (ba, 4, (boL (x.qa)).toArray), (bc, 4, (boL (x.qc)).toArray), (bh, 39, (spL (x.qh)).toArray), (bm, 28, (cmL (x.qm)).toArray)]) := hB.fq
  have HG : Hid (OwI w 0 g x.zs) := hB.gr
  have hzl := hB.gr.len
  have hla := hB.la
  have hlc := hB.lc
  have hlh := hB.lh
  have hlm := hB.lm
  have hnn := hB.hn
  have HJ : Hid (∀ k, At g.a k → J k) := hB.gj
  clear hB
  go_enter Try.func66, Try.ntmps66
  go_upto_region 0 with fail
  refine WL.start <| uK (pV r 0) <| uK (pV r 0) <| uK (pV r 0) <| uK (pV r 7) <| uL 28 ⟨r, 7, none⟩ (.agg (Cm.cells x.mine)) (run_load_part (cs := Rv.cs (rvOf x g ba bc bh bm)) (sub := Cm.cs x.mine) (HF.out.box 0 _ _ _ rfl) (part_of (by kernel_rfl)) U28 rfl S28) <| uK (pV r 0) <| uK (pV r 16) <| ?_
  try simp only [pS]
  refine uT 28 ⟨r, 16, none⟩ (.agg (Cm.cells x.mine)) (w.setRow r (Rv.cells (rvOf {x with ch := x.mine} g ba bc bh bm))) (rs (Rv.cs (rvOf x g ba bc bh bm)) (Cm.cs x.mine) (Rv.cs (rvOf {x with ch := x.mine} g ba bc bh bm)) (HF.out.box 0 _ _ _ rfl) S28 (Cm.oneL _)) ?_
  try simp only [pS]
  have HG : Hid (OwI (w.setRow r (Rv.cells (rvOf {x with ch := x.mine} g ba bc bh bm))) 0 g x.zs) := HG.out.kept (Kept.setRow _ _ _) (fun k h e => (HG.out.own.notBox (HF.out.box 0 _ _ _ rfl) (by decide)) ((show k = r from e) ▸ h))
  have HF : Hid (Fq J w (w.setRow r (Rv.cells (rvOf {x with ch := x.mine} g ba bc bh bm))) [(r, 56, Rv.cells (rvOf {x with ch := x.mine} g ba bc bh bm)), (ba, 4, (boL (x.qa)).toArray), (bc, 4, (boL (x.qc)).toArray), (bh, 39, (spL (x.qh)).toArray), (bm, 28, (cmL (x.qm)).toArray)]) := HF.out.set 0 rfl _
  generalize w.setRow r (Rv.cells (rvOf {x with ch := x.mine} g ba bc bh bm)) = wk1 at HF HG ⊢
  refine WL.nil ?_
  try simp only [pS]
  go_upto_region 1 with fail
  refine WL.start <| uW (.agg (Sp.cells spZ)) (exec_build 39 _ rfl (Sp.cells spZ) (by kernel_rfl)) <| ?_
  try simp only [pS]
  refine uR (pV wk1.heap.size 0) (wk1.alloc (.cells (Sp.cells spZ) 39)) (exec_alloc 39 rfl (Sp.cells spZ) Z39) ?_
  try simp only [pS]
  have HG : Hid (OwI (wk1.alloc (.cells (Sp.cells spZ) 39)) 0 g x.zs) := HG.out.no ((Kept.refl No _).alloc _)
  have HF : Hid (Fq J w (wk1.alloc (.cells (Sp.cells spZ) 39)) [(r, 56, Rv.cells (rvOf {x with ch := x.mine} g ba bc bh bm)), (ba, 4, (boL (x.qa)).toArray), (bc, 4, (boL (x.qc)).toArray), (bh, 39, (spL (x.qh)).toArray), (bm, 28, (cmL (x.qm)).toArray), (wk1.heap.size, 39, Sp.cells spZ)]) := HF.out.alloc _ _
  generalize wk1.alloc (.cells (Sp.cells spZ) 39) = wk3 at HF HG ⊢
  generalize wk1.heap.size = gk2 at HF ⊢
  refine uT 39 ⟨gk2, 0, none⟩ (.agg (Sp.cells spZ)) (wk3.setRow gk2 (Sp.cells spZ)) (rs (Sp.cs spZ) (Sp.cs spZ) (Sp.cs spZ) (HF.out.box 5 _ _ _ rfl) S39 (Sp.oneL _)) ?_
  try simp only [pS]
  have HG : Hid (OwI (wk3.setRow gk2 (Sp.cells spZ)) 0 g x.zs) := HG.out.kept (Kept.setRow _ _ _) (fun k h e => (HG.out.own.notBox (HF.out.box 5 _ _ _ rfl) (by decide)) ((show k = gk2 from e) ▸ h))
  have HF : Hid (Fq J w (wk3.setRow gk2 (Sp.cells spZ)) [(r, 56, Rv.cells (rvOf {x with ch := x.mine} g ba bc bh bm)), (ba, 4, (boL (x.qa)).toArray), (bc, 4, (boL (x.qc)).toArray), (bh, 39, (spL (x.qh)).toArray), (bm, 28, (cmL (x.qm)).toArray), (gk2, 39, Sp.cells spZ)]) := HF.out.set 5 rfl _
  generalize wk3.setRow gk2 (Sp.cells spZ) = wk4 at HF HG ⊢
  refine WL.nil ?_
  try simp only [pS]
  go_upto_region 2 with fail
  refine WL.start <| uK (.int .i64 0) <| WL.nil <| ?_
  try simp only [pS]
  go_wp2
  go_loopw [3] (fun v3 wr => ∃ (i : Nat) (b : Sp) (c : Cm), v3 = .int .i64 ((i : Nat) : Int) ∧ i ≤ g.l ∧ Hid (chK x i = (b, c)) ∧ Hid (OwI wr 0 g x.zs) ∧ Hid (Fq J w wr [(r, 56, Rv.cells (rvOf { x with ch := c } g ba bc bh bm)), (ba, 4, (boL (x.qa)).toArray), (bc, 4, (boL (x.qc)).toArray), (bh, 39, (spL (x.qh)).toArray), (bm, 28, (cmL (x.qm)).toArray), (gk2, 39, Sp.cells b)])) (fun i _ => g.l - (intOf i).toNat)
  case atStart => exact ⟨0, spZ, x.mine, by go_num, by omega, show chK x 0 = _ from rfl, HG, HF⟩
  case round =>
    clear HF HG
    obtain ⟨i, b, c, rfl, hi, HP, HG, HF⟩ := hrel
    by_cases hlt : i < g.l
    · skip
      obtain ⟨bb, hbb⟩ := at_s hlc hlt
      obtain ⟨s, hs⟩ := at_s hlh hlt
      obtain ⟨c2, hc⟩ := at_s hlm hlt
      have hst : chK x (i + 1) = if bb && lessB' b s then (s, c2) else (b, c) := by show (if _ then _ else _) = _; rw [HP.out, hbb, hs, hc]; rfl
      cases bb
      ·skip
       go_upto_region 3 with fail
       refine WL.start <| uK (.int .i64 ((i : Nat) : Int)) <| uK (pV r 0) <| uK (pV r 0) <| uK (pV r 30) <| uL 53 ⟨r, 30, none⟩ (.slice (some ⟨bc, 0, none⟩) g.l g.l) (load_one ((HF.out.box 0 _ _ _ rfl).cell 30 |>.trans (by kernel_rfl)) U53 rfl) <| uK (.int .i64 ((g.l : Nat) : Int)) <| uB .lss 3 (.int .i64 ((i : Nat) : Int)) (.int .i64 ((g.l : Nat) : Int)) (.bool true) (by rw [b_lss, decide_eq_true (by omega)]) <| WL.nil <| ?_
       try simp only [pS]
       go_upto_region 5 with fail
       refine wp_region_held_drew (S := fun w' => Box w' r 56 (Rv.cells (rvOf { x with ch := c } g ba bc bh bm)) ∧ Box w' bc 4 ((boL (x.qc)).toArray) ∧ Box w' bh 39 ((spL (x.qh)).toArray) ∧ Box w' gk2 39 (Sp.cells b)) rfl ⟨HF.out.box 0 _ _ _ rfl, HF.out.box 2 _ _ _ rfl, HF.out.box 3 _ _ _ rfl, HF.out.box 5 _ _ _ rfl⟩ (fun hH => ?_)
       have HG : Hid (OwI (wr.drew) 0 g x.zs) := HG.out.no (Kept.refl No _).drew
       have HF : Hid (Fq J w (wr.drew) [(r, 56, Rv.cells (rvOf { x with ch := c } g ba bc bh bm)), (ba, 4, (boL (x.qa)).toArray), (bc, 4, (boL (x.qc)).toArray), (bh, 39, (spL (x.qh)).toArray), (bm, 28, (cmL (x.qm)).toArray), (gk2, 39, Sp.cells b)]) := HF.out.drew
       generalize wr.drew = wk5 at HF HG hH ⊢
       refine xV 0 21 (pV r 0) hH <| xV 1 22 (pV r 0) hH <| xV 2 23 (pV r 30) hH <| xL 3 24 53 ⟨r, 30, none⟩ (.slice (some ⟨bc, 0, none⟩) g.l g.l) (fun _ hw => load_one ((hw.1).cell 30 |>.trans (by kernel_rfl)) U53 rfl) hH <| xV 4 25 (.int .i64 ((i : Nat) : Int)) hH <| xU 5 26 (pV bc (0 + i * 1)) (fun w' hw => exec_ixA 53 1 E53 F53 _ _ rfl bc 0 g.l g.l i (by kernel_rfl) (by kernel_rfl) (by omega)) hH <| ?_
       try simp only [pS]
       refine xL 6 27 4 ⟨bc, 0 + i * 1, none⟩ (.bool false) (fun _ hw => ld_bo (hw.2.1) (by rw [hbb])) hH <| xV 7 28 (.bool false) hH <| xZ 8 29 hH <| xZ 9 30 hH <| xZ 10 31 hH <| xZ 11 32 hH <| ?_
       try simp only [pS]
       refine xZ 12 33 hH <| xZ 13 34 hH <| xZ 14 35 hH <| xZ 15 36 hH <| xZ 16 37 hH <| xV 17 38 (.bool false) hH <| ?_
       try simp only [pS]
       refine wpAnyH_done (by kernel_rfl) ?_ _
       try simp only [pS]
       clear hH
       go_upto_region 4 with fail
       refine WL.start <| uK (.int .i64 ((i : Nat) : Int)) <| uB .add 3 (.int .i64 ((i : Nat) : Int)) (.int .i64 1) (.int .i64 (((i + 1) : Nat) : Int)) (b_addw _ _ _ (by rw [IntKind.wrap_i64]; omega) _) <| uK (.int .i64 (((i + 1) : Nat) : Int)) <| WL.nil <| ?_
       try simp only [pS]
       have HP2 : Hid (chK x (i + 1) = (b, c)) := by show _ = _; rw [hst]; rfl
       go_wp2
       go_roundw
       case rel => exact ⟨i + 1, b, c, by go_num, by omega, HP2, HG, HF⟩
       case measure => simp [intOf]; omega
      ·skip
       go_upto_region 3 with fail
       refine WL.start <| uK (.int .i64 ((i : Nat) : Int)) <| uK (pV r 0) <| uK (pV r 0) <| uK (pV r 30) <| uL 53 ⟨r, 30, none⟩ (.slice (some ⟨bc, 0, none⟩) g.l g.l) (load_one ((HF.out.box 0 _ _ _ rfl).cell 30 |>.trans (by kernel_rfl)) U53 rfl) <| uK (.int .i64 ((g.l : Nat) : Int)) <| uB .lss 3 (.int .i64 ((i : Nat) : Int)) (.int .i64 ((g.l : Nat) : Int)) (.bool true) (by rw [b_lss, decide_eq_true (by omega)]) <| WL.nil <| ?_
       try simp only [pS]
       go_upto_region 5 with fail
       refine wp_region_held_drew (S := fun w' => Box w' r 56 (Rv.cells (rvOf { x with ch := c } g ba bc bh bm)) ∧ Box w' bc 4 ((boL (x.qc)).toArray) ∧ Box w' bh 39 ((spL (x.qh)).toArray) ∧ Box w' gk2 39 (Sp.cells b)) rfl ⟨HF.out.box 0 _ _ _ rfl, HF.out.box 2 _ _ _ rfl, HF.out.box 3 _ _ _ rfl, HF.out.box 5 _ _ _ rfl⟩ (fun hH => ?_)
       have HG : Hid (OwI (wr.drew) 0 g x.zs) := HG.out.no (Kept.refl No _).drew
       have HF : Hid (Fq J w (wr.drew) [(r, 56, Rv.cells (rvOf { x with ch := c } g ba bc bh bm)), (ba, 4, (boL (x.qa)).toArray), (bc, 4, (boL (x.qc)).toArray), (bh, 39, (spL (x.qh)).toArray), (bm, 28, (cmL (x.qm)).toArray), (gk2, 39, Sp.cells b)]) := HF.out.drew
       generalize wr.drew = wk6 at HF HG hH ⊢
       refine xV 0 21 (pV r 0) hH <| xV 1 22 (pV r 0) hH <| xV 2 23 (pV r 30) hH <| xL 3 24 53 ⟨r, 30, none⟩ (.slice (some ⟨bc, 0, none⟩) g.l g.l) (fun _ hw => load_one ((hw.1).cell 30 |>.trans (by kernel_rfl)) U53 rfl) hH <| xV 4 25 (.int .i64 ((i : Nat) : Int)) hH <| xU 5 26 (pV bc (0 + i * 1)) (fun w' hw => exec_ixA 53 1 E53 F53 _ _ rfl bc 0 g.l g.l i (by kernel_rfl) (by kernel_rfl) (by omega)) hH <| ?_
       try simp only [pS]
       refine xL 6 27 4 ⟨bc, 0 + i * 1, none⟩ (.bool true) (fun _ hw => ld_bo (hw.2.1) (by rw [hbb])) hH <| xV 7 28 (.bool true) hH <| xL 8 29 39 ⟨gk2, 0, none⟩ (.agg (Sp.cells b)) (fun _ hw => run_load_part (cs := Sp.cs b) (sub := Sp.cs b) (hw.2.2.2) (Part.all _) U39 rfl S39) hH <| xV 9 30 (pV r 0) hH <| xV 10 31 (pV r 0) hH <| xV 11 32 (pV r 31) hH <| ?_
       try simp only [pS]
       refine xL 12 33 54 ⟨r, 31, none⟩ (.slice (some ⟨bh, 0, none⟩) g.l g.l) (fun _ hw => load_one ((hw.1).cell 31 |>.trans (by kernel_rfl)) U54 rfl) hH <| xV 13 34 (.int .i64 ((i : Nat) : Int)) hH <| xU 14 35 (pV bh (0 + i * 2)) (fun w' hw => exec_ixA 54 2 E54 F54 _ _ rfl bh 0 g.l g.l i (by kernel_rfl) (by kernel_rfl) (by omega)) hH <| xL 15 36 39 ⟨bh, 0 + i * 2, none⟩ (.agg (Sp.cells s)) (fun _ hw => ld_sp (hw.2.2.1) (by rw [hs])) hH <| ?_
       try simp only [pS]
       cases q1 : (lessB' b s)
       ·skip
        refine xC 16 37 86 #[.agg (Sp.cells b), .agg (Sp.cells s)] (rLess_any b s _) ?_
        rintro e wk7 ⟨rfl, hk⟩
        have hH2 : Box wk7 r 56 (Rv.cells (rvOf { x with ch := c } g ba bc bh bm)) ∧ Box wk7 bc 4 ((boL (x.qc)).toArray) ∧ Box wk7 bh 39 ((spL (x.qh)).toArray) ∧ Box wk7 gk2 39 (Sp.cells b) := ⟨hH.1.kept hk (fun e => e), hH.2.1.kept hk (fun e => e), hH.2.2.1.kept hk (fun e => e), hH.2.2.2.kept hk (fun e => e)⟩
        have HG : Hid (OwI (wk7) 0 g x.zs) := HG.out.no hk
        have HF : Hid (Fq J w (wk7) [(r, 56, Rv.cells (rvOf { x with ch := c } g ba bc bh bm)), (ba, 4, (boL (x.qa)).toArray), (bc, 4, (boL (x.qc)).toArray), (bh, 39, (spL (x.qh)).toArray), (bm, 28, (cmL (x.qm)).toArray), (gk2, 39, Sp.cells b)]) := HF.out.no hk
        clear hk
        refine ⟨.bool false, by rw [q1], hH2, fun hH => ?_⟩
        clear hH2
        try simp only [pS]
        refine xV 17 38 (.bool false) hH ?_
        try simp only [pS]
        refine wpAnyH_done (by kernel_rfl) ?_ _
        try simp only [pS]
        clear hH
        go_upto_region 4 with fail
        refine WL.start <| uK (.int .i64 ((i : Nat) : Int)) <| uB .add 3 (.int .i64 ((i : Nat) : Int)) (.int .i64 1) (.int .i64 (((i + 1) : Nat) : Int)) (b_addw _ _ _ (by rw [IntKind.wrap_i64]; omega) _) <| uK (.int .i64 (((i + 1) : Nat) : Int)) <| WL.nil <| ?_
        try simp only [pS]
        have HP2 : Hid (chK x (i + 1) = (b, c)) := by show _ = _; rw [hst]; rw [q1]; rfl
        go_wp2
        go_roundw
        case rel => exact ⟨i + 1, b, c, by go_num, by omega, HP2, HG, HF⟩
        case measure => simp [intOf]; omega
       ·skip
        refine xC 16 37 86 #[.agg (Sp.cells b), .agg (Sp.cells s)] (rLess_any b s _) ?_
        rintro e wk8 ⟨rfl, hk⟩
        have hH2 : Box wk8 r 56 (Rv.cells (rvOf { x with ch := c } g ba bc bh bm)) ∧ Box wk8 bc 4 ((boL (x.qc)).toArray) ∧ Box wk8 bh 39 ((spL (x.qh)).toArray) ∧ Box wk8 gk2 39 (Sp.cells b) := ⟨hH.1.kept hk (fun e => e), hH.2.1.kept hk (fun e => e), hH.2.2.1.kept hk (fun e => e), hH.2.2.2.kept hk (fun e => e)⟩
        have HG : Hid (OwI (wk8) 0 g x.zs) := HG.out.no hk
        have HF : Hid (Fq J w (wk8) [(r, 56, Rv.cells (rvOf { x with ch := c } g ba bc bh bm)), (ba, 4, (boL (x.qa)).toArray), (bc, 4, (boL (x.qc)).toArray), (bh, 39, (spL (x.qh)).toArray), (bm, 28, (cmL (x.qm)).toArray), (gk2, 39, Sp.cells b)]) := HF.out.no hk
        clear hk
        refine ⟨.bool true, by rw [q1], hH2, fun hH => ?_⟩
        clear hH2
        try simp only [pS]
        refine xV 17 38 (.bool true) hH ?_
        try simp only [pS]
        refine wpAnyH_done (by kernel_rfl) ?_ _
        try simp only [pS]
        clear hH
        go_upto_region 6 with fail
        refine WL.start <| uK (pV r 0) <| uK (pV r 0) <| uK (pV r 31) <| uL 54 ⟨r, 31, none⟩ (.slice (some ⟨bh, 0, none⟩) g.l g.l) (load_one ((HF.out.box 0 _ _ _ rfl).cell 31 |>.trans (by kernel_rfl)) U54 rfl) <| uK (.int .i64 ((i : Nat) : Int)) <| uW (pV bh (0 + i * 2)) (exec_ixA 54 2 E54 F54 _ _ rfl bh 0 g.l g.l i (by kernel_rfl) (by kernel_rfl) (by omega)) <| uL 39 ⟨bh, 0 + i * 2, none⟩ (.agg (Sp.cells s)) (ld_sp (HF.out.box 3 _ _ _ rfl) (by rw [hs])) <| ?_
        try simp only [pS]
        refine uT 39 ⟨gk2, 0, none⟩ (.agg (Sp.cells s)) (wk8.setRow gk2 (Sp.cells s)) (rs (Sp.cs b) (Sp.cs s) (Sp.cs s) (HF.out.box 5 _ _ _ rfl) S39 (Sp.oneL _)) ?_
        try simp only [pS]
        have HG : Hid (OwI (wk8.setRow gk2 (Sp.cells s)) 0 g x.zs) := HG.out.kept (Kept.setRow _ _ _) (fun k h e => (HG.out.own.notBox (HF.out.box 5 _ _ _ rfl) (by decide)) ((show k = gk2 from e) ▸ h))
        have HF : Hid (Fq J w (wk8.setRow gk2 (Sp.cells s)) [(r, 56, Rv.cells (rvOf { x with ch := c } g ba bc bh bm)), (ba, 4, (boL (x.qa)).toArray), (bc, 4, (boL (x.qc)).toArray), (bh, 39, (spL (x.qh)).toArray), (bm, 28, (cmL (x.qm)).toArray), (gk2, 39, Sp.cells s)]) := HF.out.set 5 rfl _
        generalize wk8.setRow gk2 (Sp.cells s) = wk9 at HF HG ⊢
        refine WL.nil ?_
        try simp only [pS]
        go_upto_region 7 with fail
        refine WL.start <| uK (pV r 0) <| uK (pV r 0) <| uK (pV r 0) <| uK (pV r 32) <| uL 45 ⟨r, 32, none⟩ (.slice (some ⟨bm, 0, none⟩) g.l g.l) (load_one ((HF.out.box 0 _ _ _ rfl).cell 32 |>.trans (by kernel_rfl)) U45 rfl) <| uK (.int .i64 ((i : Nat) : Int)) <| uW (pV bm (0 + i * 9)) (exec_ixA 45 9 E45 F45 _ _ rfl bm 0 g.l g.l i (by kernel_rfl) (by kernel_rfl) (by omega)) <| ?_
        try simp only [pS]
        refine uL 28 ⟨bm, 0 + i * 9, none⟩ (.agg (Cm.cells c2)) (ld_cm (HF.out.box 4 _ _ _ rfl) (by rw [hc])) <| uK (pV r 0) <| uK (pV r 16) <| ?_
        try simp only [pS]
        refine uT 28 ⟨r, 16, none⟩ (.agg (Cm.cells c2)) (wk9.setRow r (Rv.cells (rvOf {x with ch := c2} g ba bc bh bm))) (rs (Rv.cs (rvOf { x with ch := c } g ba bc bh bm)) (Cm.cs c2) (Rv.cs (rvOf {x with ch := c2} g ba bc bh bm)) (HF.out.box 0 _ _ _ rfl) S28 (Cm.oneL _)) ?_
        try simp only [pS]
        have HG : Hid (OwI (wk9.setRow r (Rv.cells (rvOf {x with ch := c2} g ba bc bh bm))) 0 g x.zs) := HG.out.kept (Kept.setRow _ _ _) (fun k h e => (HG.out.own.notBox (HF.out.box 0 _ _ _ rfl) (by decide)) ((show k = r from e) ▸ h))
        have HF : Hid (Fq J w (wk9.setRow r (Rv.cells (rvOf {x with ch := c2} g ba bc bh bm))) [(r, 56, Rv.cells (rvOf {x with ch := c2} g ba bc bh bm)), (ba, 4, (boL (x.qa)).toArray), (bc, 4, (boL (x.qc)).toArray), (bh, 39, (spL (x.qh)).toArray), (bm, 28, (cmL (x.qm)).toArray), (gk2, 39, Sp.cells s)]) := HF.out.set 0 rfl _
        generalize wk9.setRow r (Rv.cells (rvOf {x with ch := c2} g ba bc bh bm)) = wk10 at HF HG ⊢
        refine WL.nil ?_
        try simp only [pS]
        go_upto_region 4 with fail
        refine WL.start <| uK (.int .i64 ((i : Nat) : Int)) <| uB .add 3 (.int .i64 ((i : Nat) : Int)) (.int .i64 1) (.int .i64 (((i + 1) : Nat) : Int)) (b_addw _ _ _ (by rw [IntKind.wrap_i64]; omega) _) <| uK (.int .i64 (((i + 1) : Nat) : Int)) <| WL.nil <| ?_
        try simp only [pS]
        have HP2 : Hid (chK x (i + 1) = (s, c2)) := by show _ = _; rw [hst]; rw [q1]; rfl
        go_wp2
        go_roundw
        case rel => exact ⟨i + 1, s, c2, by go_num, by omega, HP2, HG, HF⟩
        case measure => simp [intOf]; omega
    · skip
      go_upto_region 3 with fail
      refine WL.start <| uK (.int .i64 ((i : Nat) : Int)) <| uK (pV r 0) <| uK (pV r 0) <| uK (pV r 30) <| uL 53 ⟨r, 30, none⟩ (.slice (some ⟨bc, 0, none⟩) g.l g.l) (load_one ((HF.out.box 0 _ _ _ rfl).cell 30 |>.trans (by kernel_rfl)) U53 rfl) <| uK (.int .i64 ((g.l : Nat) : Int)) <| uB .lss 3 (.int .i64 ((i : Nat) : Int)) (.int .i64 ((g.l : Nat) : Int)) (.bool false) (by rw [b_lss, decide_eq_false (by omega)]) <| WL.nil <| ?_
      try simp only [pS]
      go_wp2
      rw [HC.out]
      have hx : chooseR x = { x with ch := c } := by unfold chooseR; rw [hzl, show g.l = i by omega, HP.out]
      rw [hx]
      exact bodyPost_end (v := .tuple #[]) (by kernel_rfl) rfl ⟨rfl, RfB.mk' (x := { x with ch := c }) (g := g) (ba := ba) (bc := bc) (bh := bh) (bm := bm) (Fq.front (m := [_]) HF.out) HG.out HJ.out hla hlc hlh hlm hnn, HF.out.kept⟩
theorem choose_at {J : Nat → Prop} {w : World} {r : Nat} {x : Rs} (hB : RfAt w J r x) : Calls Try.prog 66 #[.pointer (some ⟨r, 0, none⟩)] w (fun e w' => e = .returned (.tuple #[]) ∧ RfAt w' (Jn J w) r (chooseR x) ∧ Kept J w w') := by
  obtain ⟨g, ba, bc, bh, bm, h⟩ := hB
  exact rChoose_any J r x g ba bc bh bm w h
def nextR (x : Rs) : Rs × List Mg := if 1099511627776 ≤ x.rd then ({ x with wo := true, ph := 3 }, []) else (freshR { x with rd := wr1 x.rd }, sendR (freshR { x with rd := wr1 x.rd }))
def begR (x : Rs) : Rs × List Mg := if x.ph = 0 then (if x.n < 1 ∨ 1099511627776 < x.n ∨ x.rd < 1 ∨ 1099511627776 < x.rd then ({ x with wo := true, ph := 3 }, []) else ({ x with ph := 1 }, sendR { x with ph := 1 })) else (x, [])
def tickR (x : Rs) : Rs × List Mg := if x.ph = 1 ∨ x.ph = 2 then (if x.nk then (if 1099511627776 ≤ x.nt ∨ 1099511627776 ≤ x.rd then ({ x with wo := true, ph := 3 }, []) else nextR { x with n := wr1 x.nt, nt := wr1 x.nt, ph := 1 }) else (x, sendR x)) else (x, [])
set_option maxRecDepth 100000 in
set_option maxHeartbeats 4000000 in
theorem rNext_any (J : Nat → Prop) (r : Nat) (x : Rs) (g : Sl) (ba bc bh bm : Nat) (w : World) (hB : RfB w J r x g ba bc bh bm) : Calls Try.prog 62 #[.pointer (some ⟨r, 0, none⟩)] w (RfOut w J r (nextR x)) := by
  refine hideC fun C HC => ?_
  have HF : Hid (Fq J w w [(r, 56, Rv.cells (rvOf x g ba bc bh bm)), (ba, 4, (boL (x.qa)).toArray), (bc, 4, (boL (x.qc)).toArray), (bh, 39, (spL (x.qh)).toArray), (bm, 28, (cmL (x.qm)).toArray)]) := hB.fq
  have HG : Hid (OwI w 0 g x.zs) := hB.gr
  have hzl := hB.gr.len
  have hla := hB.la
  have hlc := hB.lc
  have hlh := hB.lh
  have hlm := hB.lm
  have hnn := hB.hn
  have HJ : Hid (∀ k, At g.a k → J k) := hB.gj
  clear hB
  go_enter Try.func62, Try.ntmps62
  go_upto_region 0 with fail
  refine WL.start <| uK (.slice none 0 0) <| WL.nil <| ?_
  try simp only [pS]
  go_upto_region 1 with fail
  refine WL.start <| uK (pV r 0) <| uK (pV r 0) <| uK (pV r 26) <| uL 3 ⟨r, 26, none⟩ (.int .i64 x.rd) (load_one ((HF.out.box 0 _ _ _ rfl).cell 26 |>.trans (by kernel_rfl)) U3 rfl) <| ?_
  try simp only [pS]
  cases q1 : (decide (1099511627776 ≤ x.rd))
  ·skip
   refine uB .geq 3 (.int .i64 x.rd) (.int .i64 1099511627776) (.bool false) (by rw [b_geq, q1]; try rfl) <| WL.nil <| ?_
   try simp only [pS]
   go_upto_region 5 with fail
   refine WL.start <| uK (pV r 0) <| uK (pV r 0) <| uK (pV r 26) <| uL 3 ⟨r, 26, none⟩ (.int .i64 x.rd) (load_one ((HF.out.box 0 _ _ _ rfl).cell 26 |>.trans (by kernel_rfl)) U3 rfl) <| uB .add 3 (.int .i64 x.rd) (.int .i64 1) (.int .i64 (wr1 x.rd)) (wr_add _ _) <| uK (pV r 0) <| uK (pV r 26) <| ?_
   try simp only [pS]
   refine uT 3 ⟨r, 26, none⟩ (.int .i64 (wr1 x.rd)) (w.setRow r (Rv.cells (rvOf {x with rd := (wr1 x.rd)} g ba bc bh bm))) (rs (Rv.cs (rvOf x g ba bc bh bm)) ([.int .i64 (wr1 x.rd)]) (Rv.cs (rvOf {x with rd := (wr1 x.rd)} g ba bc bh bm)) (HF.out.box 0 _ _ _ rfl) S3 (by simp [Value.oneCell', Sl.v])) ?_
   try simp only [pS]
   have HG : Hid (OwI (w.setRow r (Rv.cells (rvOf {x with rd := (wr1 x.rd)} g ba bc bh bm))) 0 g x.zs) := HG.out.kept (Kept.setRow _ _ _) (fun k h e => (HG.out.own.notBox (HF.out.box 0 _ _ _ rfl) (by decide)) ((show k = r from e) ▸ h))
   have HF : Hid (Fq J w (w.setRow r (Rv.cells (rvOf {x with rd := (wr1 x.rd)} g ba bc bh bm))) [(r, 56, Rv.cells (rvOf {x with rd := (wr1 x.rd)} g ba bc bh bm)), (ba, 4, (boL (x.qa)).toArray), (bc, 4, (boL (x.qc)).toArray), (bh, 39, (spL (x.qh)).toArray), (bm, 28, (cmL (x.qm)).toArray)]) := HF.out.set 0 rfl _
   generalize w.setRow r (Rv.cells (rvOf {x with rd := (wr1 x.rd)} g ba bc bh bm)) = wk1 at HF HG ⊢
   refine WL.nil ?_
   try simp only [pS]
   go_upto_region 6 with fail
   refine WL.start <| uK (pV r 0) <| ?_
   try simp only [pS]
   have hAt : RfAt wk1 (Jn J w) r ({ x with rd := wr1 x.rd }) := RfB.mk' (x := { x with rd := wr1 x.rd }) (g := g) (ba := ba) (bc := bc) (bh := bh) (bm := bm) (HF.out) HG.out HJ.out (by simpa using hla) (by simpa using hlc) (by simpa using hlh) (by simpa using hlm) hnn
   have hkw := HF.out.kept
   refine uC 36 #[pV r 0] (fresh_at hAt) ?_
   rintro e w2 ⟨rfl, hR2, hk2⟩
   have HK2 : Hid (Kept J w w2) := kept_jn hkw hk2
   have HR2 : Hid (RfAt w2 (Jn J w) r (freshR { x with rd := wr1 x.rd })) := hR2.wide (fun k e => Jn.sub hkw.size e)
   clear hAt hR2 hk2 hkw HF HG
   refine ⟨.tuple #[], rfl, ?_⟩
   try simp only [pS]
   refine WL.nil ?_
   try simp only [pS]
   go_upto_region 7 with fail
   refine WL.start <| uK (pV r 0) <| ?_
   try simp only [pS]
   refine uC 61 #[pV r 0] (send_at HR2.out) ?_
   rintro e wz hz
   have HZ : Hid (RfOut w J r (nextR x) e wz) := by
     have hx : nextR x = (freshR { x with rd := wr1 x.rd }, sendR (freshR { x with rd := wr1 x.rd })) := by unfold nextR; rw [if_neg (of_decide_eq_false q1)]
     show RfOut w J r (nextR x) e wz
     rw [hx]
     exact RfOut.behind HK2.out hz
   obtain ⟨sz, rfl, _⟩ := hz
   refine ⟨sz.v, rfl, ?_⟩
   try simp only [pS]
   refine uK sz.v <| WL.nil <| ?_
   try simp only [pS]
   go_wp2
   rw [HC.out]
   exact HZ.out
  ·skip
   refine uB .geq 3 (.int .i64 x.rd) (.int .i64 1099511627776) (.bool true) (by rw [b_geq, q1]; try rfl) <| WL.nil <| ?_
   try simp only [pS]
   go_upto_region 2 with fail
   refine WL.start <| uK (pV r 0) <| uK (pV r 0) <| uK (pV r 36) <| ?_
   try simp only [pS]
   refine uT 4 ⟨r, 36, none⟩ (.bool true) (w.setRow r (Rv.cells (rvOf {x with wo := true} g ba bc bh bm))) (rs (Rv.cs (rvOf x g ba bc bh bm)) ([.bool true]) (Rv.cs (rvOf {x with wo := true} g ba bc bh bm)) (HF.out.box 0 _ _ _ rfl) S4 (by simp [Value.oneCell', Sl.v])) ?_
   try simp only [pS]
   have HG : Hid (OwI (w.setRow r (Rv.cells (rvOf {x with wo := true} g ba bc bh bm))) 0 g x.zs) := HG.out.kept (Kept.setRow _ _ _) (fun k h e => (HG.out.own.notBox (HF.out.box 0 _ _ _ rfl) (by decide)) ((show k = r from e) ▸ h))
   have HF : Hid (Fq J w (w.setRow r (Rv.cells (rvOf {x with wo := true} g ba bc bh bm))) [(r, 56, Rv.cells (rvOf {x with wo := true} g ba bc bh bm)), (ba, 4, (boL (x.qa)).toArray), (bc, 4, (boL (x.qc)).toArray), (bh, 39, (spL (x.qh)).toArray), (bm, 28, (cmL (x.qm)).toArray)]) := HF.out.set 0 rfl _
   generalize w.setRow r (Rv.cells (rvOf {x with wo := true} g ba bc bh bm)) = wk2 at HF HG ⊢
   refine WL.nil ?_
   try simp only [pS]
   go_upto_region 3 with fail
   refine WL.start <| uK (pV r 0) <| uK (pV r 0) <| uK (pV r 28) <| ?_
   try simp only [pS]
   refine uT 3 ⟨r, 28, none⟩ (.int .i64 3) (wk2.setRow r (Rv.cells (rvOf {x with ph := 3, wo := true} g ba bc bh bm))) (rs (Rv.cs (rvOf {x with wo := true} g ba bc bh bm)) ([.int .i64 3]) (Rv.cs (rvOf {x with ph := 3, wo := true} g ba bc bh bm)) (HF.out.box 0 _ _ _ rfl) S3 (by simp [Value.oneCell', Sl.v])) ?_
   try simp only [pS]
   have HG : Hid (OwI (wk2.setRow r (Rv.cells (rvOf {x with ph := 3, wo := true} g ba bc bh bm))) 0 g x.zs) := HG.out.kept (Kept.setRow _ _ _) (fun k h e => (HG.out.own.notBox (HF.out.box 0 _ _ _ rfl) (by decide)) ((show k = r from e) ▸ h))
   have HF : Hid (Fq J w (wk2.setRow r (Rv.cells (rvOf {x with ph := 3, wo := true} g ba bc bh bm))) [(r, 56, Rv.cells (rvOf {x with ph := 3, wo := true} g ba bc bh bm)), (ba, 4, (boL (x.qa)).toArray), (bc, 4, (boL (x.qc)).toArray), (bh, 39, (spL (x.qh)).toArray), (bm, 28, (cmL (x.qm)).toArray)]) := HF.out.set 0 rfl _
   generalize wk2.setRow r (Rv.cells (rvOf {x with ph := 3, wo := true} g ba bc bh bm)) = wk3 at HF HG ⊢
   refine WL.nil ?_
   try simp only [pS]
   go_upto_region 4 with fail
   refine WL.start <| uK (.slice none 0 0) <| WL.nil <| ?_
   try simp only [pS]
   go_wp2
   rw [HC.out]
   have hx : nextR x = ({ x with wo := true, ph := 3 }, []) := by unfold nextR; rw [if_pos (of_decide_eq_true q1)]
   rw [hx]
   exact ⟨slZ, rfl, OwM.nil _ _, RfB.mk' (x := { x with wo := true, ph := 3 }) (g := g) (ba := ba) (bc := bc) (bh := bh) (bm := bm) (HF.out) HG.out HJ.out (by simpa using hla) (by simpa using hlc) (by simpa using hlh) (by simpa using hlm) hnn, HF.out.kept⟩
theorem next_at {J : Nat → Prop} {w : World} {r : Nat} {x : Rs} (hB : RfAt w J r x) : Calls Try.prog 62 #[.pointer (some ⟨r, 0, none⟩)] w (RfOut w J r (nextR x)) := by
  obtain ⟨g, ba, bc, bh, bm, h⟩ := hB
  exact rNext_any J r x g ba bc bh bm w h
set_option maxRecDepth 100000 in
set_option maxHeartbeats 4000000 in
theorem rBegin_any (J : Nat → Prop) (r : Nat) (x : Rs) (g : Sl) (ba bc bh bm : Nat) (w : World) (hB : RfB w J r x g ba bc bh bm) : Calls Try.prog 37 #[.pointer (some ⟨r, 0, none⟩)] w (RfOut w J r (begR x)) := by
  refine hideC fun C HC => ?_
  have HF : Hid (Fq J w w [(r, 56, Rv.cells (rvOf x g ba bc bh bm)), (ba, 4, (boL (x.qa)).toArray), (bc, 4, (boL (x.qc)).toArray), (bh, 39, (spL (x.qh)).toArray), (bm, 28, (cmL (x.qm)).toArray)]) := hB.fq
  have HG : Hid (OwI w 0 g x.zs) := hB.gr
  have hzl := hB.gr.len
  have hla := hB.la
  have hlc := hB.lc
  have hlh := hB.lh
  have hlm := hB.lm
  have hnn := hB.hn
  have HJ : Hid (∀ k, At g.a k → J k) := hB.gj
  clear hB
  go_enter Try.func37, Try.ntmps37
  go_upto_region 0 with fail
  refine WL.start <| uK (.slice none 0 0) <| WL.nil <| ?_
  try simp only [pS]
  go_upto_region 1 with fail
  refine WL.start <| uK (pV r 0) <| uK (pV r 0) <| uK (pV r 28) <| uL 3 ⟨r, 28, none⟩ (.int .i64 x.ph) (load_one ((HF.out.box 0 _ _ _ rfl).cell 28 |>.trans (by kernel_rfl)) U3 rfl) <| ?_
  try simp only [pS]
  cases q1 : (x.ph == 0)
  ·skip
   refine uB .neq 3 (.int .i64 x.ph) (.int .i64 0) (.bool true) (by rw [b_neq, q1]; try rfl) <| WL.nil <| ?_
   try simp only [pS]
   go_upto_region 2 with fail
   refine WL.start <| uK (.slice none 0 0) <| WL.nil <| ?_
   try simp only [pS]
   go_wp2
   rw [HC.out]
   have hx : begR x = (x, []) := by unfold begR; rw [if_neg (by simpa using q1)]
   rw [hx]
   exact ⟨slZ, rfl, OwM.nil _ _, RfB.mk' (x := x) (g := g) (ba := ba) (bc := bc) (bh := bh) (bm := bm) (HF.out) HG.out HJ.out (by simpa using hla) (by simpa using hlc) (by simpa using hlh) (by simpa using hlm) hnn, HF.out.kept⟩
  ·skip
   refine uB .neq 3 (.int .i64 x.ph) (.int .i64 0) (.bool false) (by rw [b_neq, q1]; try rfl) <| WL.nil <| ?_
   try simp only [pS]
   go_upto_region 3 with fail
   refine WL.start <| uK (pV r 0) <| uK (pV r 0) <| uK (pV r 25) <| uL 3 ⟨r, 25, none⟩ (.int .i64 x.n) (load_one ((HF.out.box 0 _ _ _ rfl).cell 25 |>.trans (by kernel_rfl)) U3 rfl) <| ?_
   try simp only [pS]
   cases q2 : (decide (x.n < 1))
   ·skip
    refine uB .lss 3 (.int .i64 x.n) (.int .i64 1) (.bool false) (by rw [b_lss, q2]; try rfl) <| uK (.bool false) <| uK (pV r 0) <| uK (pV r 0) <| uK (pV r 25) <| uL 3 ⟨r, 25, none⟩ (.int .i64 x.n) (load_one ((HF.out.box 0 _ _ _ rfl).cell 25 |>.trans (by kernel_rfl)) U3 rfl) <| ?_
    try simp only [pS]
    cases q3 : (decide (1099511627776 < x.n))
    ·skip
     refine uB .gtr 3 (.int .i64 x.n) (.int .i64 1099511627776) (.bool false) (by rw [b_gtr, q3]; try rfl) <| uK (.bool false) <| uK (.bool false) <| uK (pV r 0) <| uK (pV r 0) <| uK (pV r 26) <| uL 3 ⟨r, 26, none⟩ (.int .i64 x.rd) (load_one ((HF.out.box 0 _ _ _ rfl).cell 26 |>.trans (by kernel_rfl)) U3 rfl) <| ?_
     try simp only [pS]
     cases q4 : (decide (x.rd < 1))
     ·skip
      refine uB .lss 3 (.int .i64 x.rd) (.int .i64 1) (.bool false) (by rw [b_lss, q4]; try rfl) <| uK (.bool false) <| uK (.bool false) <| uK (pV r 0) <| uK (pV r 0) <| uK (pV r 26) <| uL 3 ⟨r, 26, none⟩ (.int .i64 x.rd) (load_one ((HF.out.box 0 _ _ _ rfl).cell 26 |>.trans (by kernel_rfl)) U3 rfl) <| ?_
      try simp only [pS]
      cases q5 : (decide (1099511627776 < x.rd))
      ·skip
       refine uB .gtr 3 (.int .i64 x.rd) (.int .i64 1099511627776) (.bool false) (by rw [b_gtr, q5]; try rfl) <| uK (.bool false) <| WL.nil <| ?_
       try simp only [pS]
       go_upto_region 7 with fail
       refine WL.start <| uK (pV r 0) <| uK (pV r 0) <| uK (pV r 28) <| ?_
       try simp only [pS]
       refine uT 3 ⟨r, 28, none⟩ (.int .i64 1) (w.setRow r (Rv.cells (rvOf {x with ph := 1} g ba bc bh bm))) (rs (Rv.cs (rvOf x g ba bc bh bm)) ([.int .i64 1]) (Rv.cs (rvOf {x with ph := 1} g ba bc bh bm)) (HF.out.box 0 _ _ _ rfl) S3 (by simp [Value.oneCell', Sl.v])) ?_
       try simp only [pS]
       have HG : Hid (OwI (w.setRow r (Rv.cells (rvOf {x with ph := 1} g ba bc bh bm))) 0 g x.zs) := HG.out.kept (Kept.setRow _ _ _) (fun k h e => (HG.out.own.notBox (HF.out.box 0 _ _ _ rfl) (by decide)) ((show k = r from e) ▸ h))
       have HF : Hid (Fq J w (w.setRow r (Rv.cells (rvOf {x with ph := 1} g ba bc bh bm))) [(r, 56, Rv.cells (rvOf {x with ph := 1} g ba bc bh bm)), (ba, 4, (boL (x.qa)).toArray), (bc, 4, (boL (x.qc)).toArray), (bh, 39, (spL (x.qh)).toArray), (bm, 28, (cmL (x.qm)).toArray)]) := HF.out.set 0 rfl _
       generalize w.setRow r (Rv.cells (rvOf {x with ph := 1} g ba bc bh bm)) = wk1 at HF HG ⊢
       refine WL.nil ?_
       try simp only [pS]
       go_upto_region 8 with fail
       refine WL.start <| uK (pV r 0) <| ?_
       try simp only [pS]
       have hAt : RfAt wk1 (Jn J w) r ({ x with ph := 1 }) := RfB.mk' (x := { x with ph := 1 }) (g := g) (ba := ba) (bc := bc) (bh := bh) (bm := bm) (HF.out) HG.out HJ.out (by simpa using hla) (by simpa using hlc) (by simpa using hlh) (by simpa using hlm) hnn
       have hkw := HF.out.kept
       refine uC 61 #[pV r 0] (send_at hAt) ?_
       rintro e wz hz
       have hz2 := RfOut.behind hkw hz
       have HZ : Hid (RfOut w J r (begR x) e wz) := by
         have hx : begR x = ({ x with ph := 1 }, sendR { x with ph := 1 }) := by unfold begR; rw [if_pos (by simpa using q1), if_neg (by simp at q1 q2 q3 q4 q5; omega)]
         show RfOut w J r (begR x) e wz
         rw [hx]
         exact hz2
       obtain ⟨sz, rfl, _⟩ := hz
       clear hz2
       refine ⟨sz.v, rfl, ?_⟩
       try simp only [pS]
       refine uK sz.v <| WL.nil <| ?_
       try simp only [pS]
       go_wp2
       rw [HC.out]
       exact HZ.out
      ·skip
       refine uB .gtr 3 (.int .i64 x.rd) (.int .i64 1099511627776) (.bool true) (by rw [b_gtr, q5]; try rfl) <| uK (.bool true) <| WL.nil <| ?_
       try simp only [pS]
       go_upto_region 4 with fail
       refine WL.start <| uK (pV r 0) <| uK (pV r 0) <| uK (pV r 36) <| ?_
       try simp only [pS]
       refine uT 4 ⟨r, 36, none⟩ (.bool true) (w.setRow r (Rv.cells (rvOf {x with wo := true} g ba bc bh bm))) (rs (Rv.cs (rvOf x g ba bc bh bm)) ([.bool true]) (Rv.cs (rvOf {x with wo := true} g ba bc bh bm)) (HF.out.box 0 _ _ _ rfl) S4 (by simp [Value.oneCell', Sl.v])) ?_
       try simp only [pS]
       have HG : Hid (OwI (w.setRow r (Rv.cells (rvOf {x with wo := true} g ba bc bh bm))) 0 g x.zs) := HG.out.kept (Kept.setRow _ _ _) (fun k h e => (HG.out.own.notBox (HF.out.box 0 _ _ _ rfl) (by decide)) ((show k = r from e) ▸ h))
       have HF : Hid (Fq J w (w.setRow r (Rv.cells (rvOf {x with wo := true} g ba bc bh bm))) [(r, 56, Rv.cells (rvOf {x with wo := true} g ba bc bh bm)), (ba, 4, (boL (x.qa)).toArray), (bc, 4, (boL (x.qc)).toArray), (bh, 39, (spL (x.qh)).toArray), (bm, 28, (cmL (x.qm)).toArray)]) := HF.out.set 0 rfl _
       generalize w.setRow r (Rv.cells (rvOf {x with wo := true} g ba bc bh bm)) = wk2 at HF HG ⊢
       refine WL.nil ?_
       try simp only [pS]
       go_upto_region 5 with fail
       refine WL.start <| uK (pV r 0) <| uK (pV r 0) <| uK (pV r 28) <| ?_
       try simp only [pS]
       refine uT 3 ⟨r, 28, none⟩ (.int .i64 3) (wk2.setRow r (Rv.cells (rvOf {x with ph := 3, wo := true} g ba bc bh bm))) (rs (Rv.cs (rvOf {x with wo := true} g ba bc bh bm)) ([.int .i64 3]) (Rv.cs (rvOf {x with ph := 3, wo := true} g ba bc bh bm)) (HF.out.box 0 _ _ _ rfl) S3 (by simp [Value.oneCell', Sl.v])) ?_
       try simp only [pS]
       have HG : Hid (OwI (wk2.setRow r (Rv.cells (rvOf {x with ph := 3, wo := true} g ba bc bh bm))) 0 g x.zs) := HG.out.kept (Kept.setRow _ _ _) (fun k h e => (HG.out.own.notBox (HF.out.box 0 _ _ _ rfl) (by decide)) ((show k = r from e) ▸ h))
       have HF : Hid (Fq J w (wk2.setRow r (Rv.cells (rvOf {x with ph := 3, wo := true} g ba bc bh bm))) [(r, 56, Rv.cells (rvOf {x with ph := 3, wo := true} g ba bc bh bm)), (ba, 4, (boL (x.qa)).toArray), (bc, 4, (boL (x.qc)).toArray), (bh, 39, (spL (x.qh)).toArray), (bm, 28, (cmL (x.qm)).toArray)]) := HF.out.set 0 rfl _
       generalize wk2.setRow r (Rv.cells (rvOf {x with ph := 3, wo := true} g ba bc bh bm)) = wk3 at HF HG ⊢
       refine WL.nil ?_
       try simp only [pS]
       go_upto_region 6 with fail
       refine WL.start <| uK (.slice none 0 0) <| WL.nil <| ?_
       try simp only [pS]
       go_wp2
       rw [HC.out]
       have hx : begR x = ({ x with wo := true, ph := 3 }, []) := by unfold begR; rw [if_pos (by simpa using q1), if_pos (by simp at q1 q2 q3 q4 q5; omega)]
       rw [hx]
       exact ⟨slZ, rfl, OwM.nil _ _, RfB.mk' (x := { x with wo := true, ph := 3 }) (g := g) (ba := ba) (bc := bc) (bh := bh) (bm := bm) (HF.out) HG.out HJ.out (by simpa using hla) (by simpa using hlc) (by simpa using hlh) (by simpa using hlm) hnn, HF.out.kept⟩
     ·skip
      refine uB .lss 3 (.int .i64 x.rd) (.int .i64 1) (.bool true) (by rw [b_lss, q4]; try rfl) <| uK (.bool true) <| uK (.bool true) <| uZ <| uZ <| uZ <| uZ <| uZ <| ?_
      try simp only [pS]
      refine uK (.bool true) <| WL.nil <| ?_
      try simp only [pS]
      go_upto_region 4 with fail
      refine WL.start <| uK (pV r 0) <| uK (pV r 0) <| uK (pV r 36) <| ?_
      try simp only [pS]
      refine uT 4 ⟨r, 36, none⟩ (.bool true) (w.setRow r (Rv.cells (rvOf {x with wo := true} g ba bc bh bm))) (rs (Rv.cs (rvOf x g ba bc bh bm)) ([.bool true]) (Rv.cs (rvOf {x with wo := true} g ba bc bh bm)) (HF.out.box 0 _ _ _ rfl) S4 (by simp [Value.oneCell', Sl.v])) ?_
      try simp only [pS]
      have HG : Hid (OwI (w.setRow r (Rv.cells (rvOf {x with wo := true} g ba bc bh bm))) 0 g x.zs) := HG.out.kept (Kept.setRow _ _ _) (fun k h e => (HG.out.own.notBox (HF.out.box 0 _ _ _ rfl) (by decide)) ((show k = r from e) ▸ h))
      have HF : Hid (Fq J w (w.setRow r (Rv.cells (rvOf {x with wo := true} g ba bc bh bm))) [(r, 56, Rv.cells (rvOf {x with wo := true} g ba bc bh bm)), (ba, 4, (boL (x.qa)).toArray), (bc, 4, (boL (x.qc)).toArray), (bh, 39, (spL (x.qh)).toArray), (bm, 28, (cmL (x.qm)).toArray)]) := HF.out.set 0 rfl _
      generalize w.setRow r (Rv.cells (rvOf {x with wo := true} g ba bc bh bm)) = wk4 at HF HG ⊢
      refine WL.nil ?_
      try simp only [pS]
      go_upto_region 5 with fail
      refine WL.start <| uK (pV r 0) <| uK (pV r 0) <| uK (pV r 28) <| ?_
      try simp only [pS]
      refine uT 3 ⟨r, 28, none⟩ (.int .i64 3) (wk4.setRow r (Rv.cells (rvOf {x with ph := 3, wo := true} g ba bc bh bm))) (rs (Rv.cs (rvOf {x with wo := true} g ba bc bh bm)) ([.int .i64 3]) (Rv.cs (rvOf {x with ph := 3, wo := true} g ba bc bh bm)) (HF.out.box 0 _ _ _ rfl) S3 (by simp [Value.oneCell', Sl.v])) ?_
      try simp only [pS]
      have HG : Hid (OwI (wk4.setRow r (Rv.cells (rvOf {x with ph := 3, wo := true} g ba bc bh bm))) 0 g x.zs) := HG.out.kept (Kept.setRow _ _ _) (fun k h e => (HG.out.own.notBox (HF.out.box 0 _ _ _ rfl) (by decide)) ((show k = r from e) ▸ h))
      have HF : Hid (Fq J w (wk4.setRow r (Rv.cells (rvOf {x with ph := 3, wo := true} g ba bc bh bm))) [(r, 56, Rv.cells (rvOf {x with ph := 3, wo := true} g ba bc bh bm)), (ba, 4, (boL (x.qa)).toArray), (bc, 4, (boL (x.qc)).toArray), (bh, 39, (spL (x.qh)).toArray), (bm, 28, (cmL (x.qm)).toArray)]) := HF.out.set 0 rfl _
      generalize wk4.setRow r (Rv.cells (rvOf {x with ph := 3, wo := true} g ba bc bh bm)) = wk5 at HF HG ⊢
      refine WL.nil ?_
      try simp only [pS]
      go_upto_region 6 with fail
      refine WL.start <| uK (.slice none 0 0) <| WL.nil <| ?_
      try simp only [pS]
      go_wp2
      rw [HC.out]
      have hx : begR x = ({ x with wo := true, ph := 3 }, []) := by unfold begR; rw [if_pos (by simpa using q1), if_pos (by simp at q1 q2 q3 q4; omega)]
      rw [hx]
      exact ⟨slZ, rfl, OwM.nil _ _, RfB.mk' (x := { x with wo := true, ph := 3 }) (g := g) (ba := ba) (bc := bc) (bh := bh) (bm := bm) (HF.out) HG.out HJ.out (by simpa using hla) (by simpa using hlc) (by simpa using hlh) (by simpa using hlm) hnn, HF.out.kept⟩
    ·skip
     refine uB .gtr 3 (.int .i64 x.n) (.int .i64 1099511627776) (.bool true) (by rw [b_gtr, q3]; try rfl) <| uK (.bool true) <| uK (.bool true) <| uZ <| uZ <| uZ <| uZ <| uZ <| ?_
     try simp only [pS]
     refine uK (.bool true) <| uK (.bool true) <| uZ <| uZ <| uZ <| uZ <| uZ <| uK (.bool true) <| WL.nil <| ?_
     try simp only [pS]
     go_upto_region 4 with fail
     refine WL.start <| uK (pV r 0) <| uK (pV r 0) <| uK (pV r 36) <| ?_
     try simp only [pS]
     refine uT 4 ⟨r, 36, none⟩ (.bool true) (w.setRow r (Rv.cells (rvOf {x with wo := true} g ba bc bh bm))) (rs (Rv.cs (rvOf x g ba bc bh bm)) ([.bool true]) (Rv.cs (rvOf {x with wo := true} g ba bc bh bm)) (HF.out.box 0 _ _ _ rfl) S4 (by simp [Value.oneCell', Sl.v])) ?_
     try simp only [pS]
     have HG : Hid (OwI (w.setRow r (Rv.cells (rvOf {x with wo := true} g ba bc bh bm))) 0 g x.zs) := HG.out.kept (Kept.setRow _ _ _) (fun k h e => (HG.out.own.notBox (HF.out.box 0 _ _ _ rfl) (by decide)) ((show k = r from e) ▸ h))
     have HF : Hid (Fq J w (w.setRow r (Rv.cells (rvOf {x with wo := true} g ba bc bh bm))) [(r, 56, Rv.cells (rvOf {x with wo := true} g ba bc bh bm)), (ba, 4, (boL (x.qa)).toArray), (bc, 4, (boL (x.qc)).toArray), (bh, 39, (spL (x.qh)).toArray), (bm, 28, (cmL (x.qm)).toArray)]) := HF.out.set 0 rfl _
     generalize w.setRow r (Rv.cells (rvOf {x with wo := true} g ba bc bh bm)) = wk6 at HF HG ⊢
     refine WL.nil ?_
     try simp only [pS]
     go_upto_region 5 with fail
     refine WL.start <| uK (pV r 0) <| uK (pV r 0) <| uK (pV r 28) <| ?_
     try simp only [pS]
     refine uT 3 ⟨r, 28, none⟩ (.int .i64 3) (wk6.setRow r (Rv.cells (rvOf {x with ph := 3, wo := true} g ba bc bh bm))) (rs (Rv.cs (rvOf {x with wo := true} g ba bc bh bm)) ([.int .i64 3]) (Rv.cs (rvOf {x with ph := 3, wo := true} g ba bc bh bm)) (HF.out.box 0 _ _ _ rfl) S3 (by simp [Value.oneCell', Sl.v])) ?_
     try simp only [pS]
     have HG : Hid (OwI (wk6.setRow r (Rv.cells (rvOf {x with ph := 3, wo := true} g ba bc bh bm))) 0 g x.zs) := HG.out.kept (Kept.setRow _ _ _) (fun k h e => (HG.out.own.notBox (HF.out.box 0 _ _ _ rfl) (by decide)) ((show k = r from e) ▸ h))
     have HF : Hid (Fq J w (wk6.setRow r (Rv.cells (rvOf {x with ph := 3, wo := true} g ba bc bh bm))) [(r, 56, Rv.cells (rvOf {x with ph := 3, wo := true} g ba bc bh bm)), (ba, 4, (boL (x.qa)).toArray), (bc, 4, (boL (x.qc)).toArray), (bh, 39, (spL (x.qh)).toArray), (bm, 28, (cmL (x.qm)).toArray)]) := HF.out.set 0 rfl _
     generalize wk6.setRow r (Rv.cells (rvOf {x with ph := 3, wo := true} g ba bc bh bm)) = wk7 at HF HG ⊢
     refine WL.nil ?_
     try simp only [pS]
     go_upto_region 6 with fail
     refine WL.start <| uK (.slice none 0 0) <| WL.nil <| ?_
     try simp only [pS]
     go_wp2
     rw [HC.out]
     have hx : begR x = ({ x with wo := true, ph := 3 }, []) := by unfold begR; rw [if_pos (by simpa using q1), if_pos (by simp at q1 q2 q3; omega)]
     rw [hx]
     exact ⟨slZ, rfl, OwM.nil _ _, RfB.mk' (x := { x with wo := true, ph := 3 }) (g := g) (ba := ba) (bc := bc) (bh := bh) (bm := bm) (HF.out) HG.out HJ.out (by simpa using hla) (by simpa using hlc) (by simpa using hlh) (by simpa using hlm) hnn, HF.out.kept⟩
   ·skip
    refine uB .lss 3 (.int .i64 x.n) (.int .i64 1) (.bool true) (by rw [b_lss, q2]; try rfl) <| uK (.bool true) <| uZ <| uZ <| uZ <| uZ <| uZ <| uK (.bool true) <| ?_
    try simp only [pS]
    refine uK (.bool true) <| uZ <| uZ <| uZ <| uZ <| uZ <| uK (.bool true) <| uK (.bool true) <| ?_
    try simp only [pS]
    refine uZ <| uZ <| uZ <| uZ <| uZ <| uK (.bool true) <| WL.nil <| ?_
    try simp only [pS]
    go_upto_region 4 with fail
    refine WL.start <| uK (pV r 0) <| uK (pV r 0) <| uK (pV r 36) <| ?_
    try simp only [pS]
    refine uT 4 ⟨r, 36, none⟩ (.bool true) (w.setRow r (Rv.cells (rvOf {x with wo := true} g ba bc bh bm))) (rs (Rv.cs (rvOf x g ba bc bh bm)) ([.bool true]) (Rv.cs (rvOf {x with wo := true} g ba bc bh bm)) (HF.out.box 0 _ _ _ rfl) S4 (by simp [Value.oneCell', Sl.v])) ?_
    try simp only [pS]
    have HG : Hid (OwI (w.setRow r (Rv.cells (rvOf {x with wo := true} g ba bc bh bm))) 0 g x.zs) := HG.out.kept (Kept.setRow _ _ _) (fun k h e => (HG.out.own.notBox (HF.out.box 0 _ _ _ rfl) (by decide)) ((show k = r from e) ▸ h))
    have HF : Hid (Fq J w (w.setRow r (Rv.cells (rvOf {x with wo := true} g ba bc bh bm))) [(r, 56, Rv.cells (rvOf {x with wo := true} g ba bc bh bm)), (ba, 4, (boL (x.qa)).toArray), (bc, 4, (boL (x.qc)).toArray), (bh, 39, (spL (x.qh)).toArray), (bm, 28, (cmL (x.qm)).toArray)]) := HF.out.set 0 rfl _
    generalize w.setRow r (Rv.cells (rvOf {x with wo := true} g ba bc bh bm)) = wk8 at HF HG ⊢
    refine WL.nil ?_
    try simp only [pS]
    go_upto_region 5 with fail
    refine WL.start <| uK (pV r 0) <| uK (pV r 0) <| uK (pV r 28) <| ?_
    try simp only [pS]
    refine uT 3 ⟨r, 28, none⟩ (.int .i64 3) (wk8.setRow r (Rv.cells (rvOf {x with ph := 3, wo := true} g ba bc bh bm))) (rs (Rv.cs (rvOf {x with wo := true} g ba bc bh bm)) ([.int .i64 3]) (Rv.cs (rvOf {x with ph := 3, wo := true} g ba bc bh bm)) (HF.out.box 0 _ _ _ rfl) S3 (by simp [Value.oneCell', Sl.v])) ?_
    try simp only [pS]
    have HG : Hid (OwI (wk8.setRow r (Rv.cells (rvOf {x with ph := 3, wo := true} g ba bc bh bm))) 0 g x.zs) := HG.out.kept (Kept.setRow _ _ _) (fun k h e => (HG.out.own.notBox (HF.out.box 0 _ _ _ rfl) (by decide)) ((show k = r from e) ▸ h))
    have HF : Hid (Fq J w (wk8.setRow r (Rv.cells (rvOf {x with ph := 3, wo := true} g ba bc bh bm))) [(r, 56, Rv.cells (rvOf {x with ph := 3, wo := true} g ba bc bh bm)), (ba, 4, (boL (x.qa)).toArray), (bc, 4, (boL (x.qc)).toArray), (bh, 39, (spL (x.qh)).toArray), (bm, 28, (cmL (x.qm)).toArray)]) := HF.out.set 0 rfl _
    generalize wk8.setRow r (Rv.cells (rvOf {x with ph := 3, wo := true} g ba bc bh bm)) = wk9 at HF HG ⊢
    refine WL.nil ?_
    try simp only [pS]
    go_upto_region 6 with fail
    refine WL.start <| uK (.slice none 0 0) <| WL.nil <| ?_
    try simp only [pS]
    go_wp2
    rw [HC.out]
    have hx : begR x = ({ x with wo := true, ph := 3 }, []) := by unfold begR; rw [if_pos (by simpa using q1), if_pos (by simp at q1 q2; omega)]
    rw [hx]
    exact ⟨slZ, rfl, OwM.nil _ _, RfB.mk' (x := { x with wo := true, ph := 3 }) (g := g) (ba := ba) (bc := bc) (bh := bh) (bm := bm) (HF.out) HG.out HJ.out (by simpa using hla) (by simpa using hlc) (by simpa using hlh) (by simpa using hlm) hnn, HF.out.kept⟩
set_option maxRecDepth 100000 in
set_option maxHeartbeats 4000000 in
theorem rTick_any (J : Nat → Prop) (r : Nat) (x : Rs) (g : Sl) (ba bc bh bm : Nat) (w : World) (hB : RfB w J r x g ba bc bh bm) : Calls Try.prog 38 #[.pointer (some ⟨r, 0, none⟩)] w (RfOut w J r (tickR x)) := by
  refine hideC fun C HC => ?_
  have HF : Hid (Fq J w w [(r, 56, Rv.cells (rvOf x g ba bc bh bm)), (ba, 4, (boL (x.qa)).toArray), (bc, 4, (boL (x.qc)).toArray), (bh, 39, (spL (x.qh)).toArray), (bm, 28, (cmL (x.qm)).toArray)]) := hB.fq
  have HG : Hid (OwI w 0 g x.zs) := hB.gr
  have hzl := hB.gr.len
  have hla := hB.la
  have hlc := hB.lc
  have hlh := hB.lh
  have hlm := hB.lm
  have hnn := hB.hn
  have HJ : Hid (∀ k, At g.a k → J k) := hB.gj
  clear hB
  go_enter Try.func38, Try.ntmps38
  go_upto_region 0 with fail
  refine WL.start <| uK (.slice none 0 0) <| WL.nil <| ?_
  try simp only [pS]
  go_upto_region 1 with fail
  refine WL.start <| uK (pV r 0) <| uK (pV r 0) <| uK (pV r 28) <| uL 3 ⟨r, 28, none⟩ (.int .i64 x.ph) (load_one ((HF.out.box 0 _ _ _ rfl).cell 28 |>.trans (by kernel_rfl)) U3 rfl) <| ?_
  try simp only [pS]
  cases q1 : (x.ph == 1)
  ·skip
   refine uB .neq 3 (.int .i64 x.ph) (.int .i64 1) (.bool true) (by rw [b_neq, q1]; try rfl) <| uK (.bool true) <| uK (pV r 0) <| uK (pV r 0) <| uK (pV r 28) <| uL 3 ⟨r, 28, none⟩ (.int .i64 x.ph) (load_one ((HF.out.box 0 _ _ _ rfl).cell 28 |>.trans (by kernel_rfl)) U3 rfl) <| ?_
   try simp only [pS]
   cases q2 : (x.ph == 2)
   ·skip
    refine uB .neq 3 (.int .i64 x.ph) (.int .i64 2) (.bool true) (by rw [b_neq, q2]; try rfl) <| uK (.bool true) <| WL.nil <| ?_
    try simp only [pS]
    go_upto_region 2 with fail
    refine WL.start <| uK (.slice none 0 0) <| WL.nil <| ?_
    try simp only [pS]
    go_wp2
    rw [HC.out]
    have hx : tickR x = (x, []) := by unfold tickR; rw [if_neg (by simp at q1 q2; omega)]
    rw [hx]
    exact ⟨slZ, rfl, OwM.nil _ _, RfB.mk' (x := x) (g := g) (ba := ba) (bc := bc) (bh := bh) (bm := bm) (HF.out) HG.out HJ.out (by simpa using hla) (by simpa using hlc) (by simpa using hlh) (by simpa using hlm) hnn, HF.out.kept⟩
   ·skip
    refine uB .neq 3 (.int .i64 x.ph) (.int .i64 2) (.bool false) (by rw [b_neq, q2]; try rfl) <| uK (.bool false) <| WL.nil <| ?_
    try simp only [pS]
    go_upto_region 3 with fail
    refine WL.start <| uK (pV r 0) <| uK (pV r 0) <| uK (pV r 33) <| uL 4 ⟨r, 33, none⟩ (.bool x.nk) (load_one ((HF.out.box 0 _ _ _ rfl).cell 33 |>.trans (by kernel_rfl)) U4 rfl) <| ?_
    try simp only [pS]
    cases q3 : (x.nk)
    ·skip
     try simp only [q3]
     refine uK (.bool true) <| WL.nil <| ?_
     try simp only [pS]
     go_upto_region 4 with fail
     refine WL.start <| uK (pV r 0) <| ?_
     try simp only [pS]
     have hAt : RfAt w (Jn J w) r (x) := RfB.mk' (x := x) (g := g) (ba := ba) (bc := bc) (bh := bh) (bm := bm) (HF.out) HG.out HJ.out (by simpa using hla) (by simpa using hlc) (by simpa using hlh) (by simpa using hlm) hnn
     have hkw := HF.out.kept
     refine uC 61 #[pV r 0] (send_at hAt) ?_
     rintro e wz hz
     have hz2 := RfOut.behind hkw hz
     have HZ : Hid (RfOut w J r (tickR x) e wz) := by
       have hx : tickR x = (x, sendR x) := by unfold tickR; rw [if_pos (by simp at q1 q2; omega)]; rw [q3]; rfl
       show RfOut w J r (tickR x) e wz
       rw [hx]
       exact hz2
     obtain ⟨sz, rfl, _⟩ := hz
     clear hz2
     refine ⟨sz.v, rfl, ?_⟩
     try simp only [pS]
     refine uK sz.v <| WL.nil <| ?_
     try simp only [pS]
     go_wp2
     rw [HC.out]
     exact HZ.out
    ·skip
     try simp only [q3]
     refine uK (.bool false) <| WL.nil <| ?_
     try simp only [pS]
     go_upto_region 5 with fail
     refine WL.start <| uK (pV r 0) <| uK (pV r 0) <| uK (pV r 27) <| uL 3 ⟨r, 27, none⟩ (.int .i64 x.nt) (load_one ((HF.out.box 0 _ _ _ rfl).cell 27 |>.trans (by kernel_rfl)) U3 rfl) <| ?_
     try simp only [pS]
     cases q4 : (decide (1099511627776 ≤ x.nt))
     ·skip
      refine uB .geq 3 (.int .i64 x.nt) (.int .i64 1099511627776) (.bool false) (by rw [b_geq, q4]; try rfl) <| uK (.bool false) <| uK (pV r 0) <| uK (pV r 0) <| uK (pV r 26) <| uL 3 ⟨r, 26, none⟩ (.int .i64 x.rd) (load_one ((HF.out.box 0 _ _ _ rfl).cell 26 |>.trans (by kernel_rfl)) U3 rfl) <| ?_
      try simp only [pS]
      cases q5 : (decide (1099511627776 ≤ x.rd))
      ·skip
       refine uB .geq 3 (.int .i64 x.rd) (.int .i64 1099511627776) (.bool false) (by rw [b_geq, q5]; try rfl) <| uK (.bool false) <| WL.nil <| ?_
       try simp only [pS]
       go_upto_region 9 with fail
       refine WL.start <| uK (pV r 0) <| uK (pV r 0) <| uK (pV r 0) <| uK (pV r 27) <| uL 3 ⟨r, 27, none⟩ (.int .i64 x.nt) (load_one ((HF.out.box 0 _ _ _ rfl).cell 27 |>.trans (by kernel_rfl)) U3 rfl) <| uB .add 3 (.int .i64 x.nt) (.int .i64 1) (.int .i64 (wr1 x.nt)) (wr_add _ _) <| uK (pV r 0) <| ?_
       try simp only [pS]
       refine uK (pV r 25) ?_
       try simp only [pS]
       refine uT 3 ⟨r, 25, none⟩ (.int .i64 (wr1 x.nt)) (w.setRow r (Rv.cells (rvOf {x with n := (wr1 x.nt)} g ba bc bh bm))) (rs (Rv.cs (rvOf x g ba bc bh bm)) ([.int .i64 (wr1 x.nt)]) (Rv.cs (rvOf {x with n := (wr1 x.nt)} g ba bc bh bm)) (HF.out.box 0 _ _ _ rfl) S3 (by simp [Value.oneCell', Sl.v])) ?_
       try simp only [pS]
       have HG : Hid (OwI (w.setRow r (Rv.cells (rvOf {x with n := (wr1 x.nt)} g ba bc bh bm))) 0 g x.zs) := HG.out.kept (Kept.setRow _ _ _) (fun k h e => (HG.out.own.notBox (HF.out.box 0 _ _ _ rfl) (by decide)) ((show k = r from e) ▸ h))
       have HF : Hid (Fq J w (w.setRow r (Rv.cells (rvOf {x with n := (wr1 x.nt)} g ba bc bh bm))) [(r, 56, Rv.cells (rvOf {x with n := (wr1 x.nt)} g ba bc bh bm)), (ba, 4, (boL (x.qa)).toArray), (bc, 4, (boL (x.qc)).toArray), (bh, 39, (spL (x.qh)).toArray), (bm, 28, (cmL (x.qm)).toArray)]) := HF.out.set 0 rfl _
       generalize w.setRow r (Rv.cells (rvOf {x with n := (wr1 x.nt)} g ba bc bh bm)) = wk1 at HF HG ⊢
       refine WL.nil ?_
       try simp only [pS]
       go_upto_region 10 with fail
       refine WL.start <| uK (pV r 0) <| uK (pV r 0) <| uK (pV r 0) <| uK (pV r 25) <| uL 3 ⟨r, 25, none⟩ (.int .i64 (wr1 x.nt)) (load_one ((HF.out.box 0 _ _ _ rfl).cell 25 |>.trans (by kernel_rfl)) U3 rfl) <| uK (pV r 0) <| uK (pV r 27) <| ?_
       try simp only [pS]
       refine uT 3 ⟨r, 27, none⟩ (.int .i64 (wr1 x.nt)) (wk1.setRow r (Rv.cells (rvOf {x with n := (wr1 x.nt), nt := (wr1 x.nt)} g ba bc bh bm))) (rs (Rv.cs (rvOf {x with n := (wr1 x.nt)} g ba bc bh bm)) ([.int .i64 (wr1 x.nt)]) (Rv.cs (rvOf {x with n := (wr1 x.nt), nt := (wr1 x.nt)} g ba bc bh bm)) (HF.out.box 0 _ _ _ rfl) S3 (by simp [Value.oneCell', Sl.v])) ?_
       try simp only [pS]
       have HG : Hid (OwI (wk1.setRow r (Rv.cells (rvOf {x with n := (wr1 x.nt), nt := (wr1 x.nt)} g ba bc bh bm))) 0 g x.zs) := HG.out.kept (Kept.setRow _ _ _) (fun k h e => (HG.out.own.notBox (HF.out.box 0 _ _ _ rfl) (by decide)) ((show k = r from e) ▸ h))
       have HF : Hid (Fq J w (wk1.setRow r (Rv.cells (rvOf {x with n := (wr1 x.nt), nt := (wr1 x.nt)} g ba bc bh bm))) [(r, 56, Rv.cells (rvOf {x with n := (wr1 x.nt), nt := (wr1 x.nt)} g ba bc bh bm)), (ba, 4, (boL (x.qa)).toArray), (bc, 4, (boL (x.qc)).toArray), (bh, 39, (spL (x.qh)).toArray), (bm, 28, (cmL (x.qm)).toArray)]) := HF.out.set 0 rfl _
       generalize wk1.setRow r (Rv.cells (rvOf {x with n := (wr1 x.nt), nt := (wr1 x.nt)} g ba bc bh bm)) = wk2 at HF HG ⊢
       refine WL.nil ?_
       try simp only [pS]
       go_upto_region 11 with fail
       refine WL.start <| uK (pV r 0) <| uK (pV r 0) <| uK (pV r 28) <| ?_
       try simp only [pS]
       refine uT 3 ⟨r, 28, none⟩ (.int .i64 1) (wk2.setRow r (Rv.cells (rvOf {x with n := (wr1 x.nt), nt := (wr1 x.nt), ph := 1} g ba bc bh bm))) (rs (Rv.cs (rvOf {x with n := (wr1 x.nt), nt := (wr1 x.nt)} g ba bc bh bm)) ([.int .i64 1]) (Rv.cs (rvOf {x with n := (wr1 x.nt), nt := (wr1 x.nt), ph := 1} g ba bc bh bm)) (HF.out.box 0 _ _ _ rfl) S3 (by simp [Value.oneCell', Sl.v])) ?_
       try simp only [pS]
       have HG : Hid (OwI (wk2.setRow r (Rv.cells (rvOf {x with n := (wr1 x.nt), nt := (wr1 x.nt), ph := 1} g ba bc bh bm))) 0 g x.zs) := HG.out.kept (Kept.setRow _ _ _) (fun k h e => (HG.out.own.notBox (HF.out.box 0 _ _ _ rfl) (by decide)) ((show k = r from e) ▸ h))
       have HF : Hid (Fq J w (wk2.setRow r (Rv.cells (rvOf {x with n := (wr1 x.nt), nt := (wr1 x.nt), ph := 1} g ba bc bh bm))) [(r, 56, Rv.cells (rvOf {x with n := (wr1 x.nt), nt := (wr1 x.nt), ph := 1} g ba bc bh bm)), (ba, 4, (boL (x.qa)).toArray), (bc, 4, (boL (x.qc)).toArray), (bh, 39, (spL (x.qh)).toArray), (bm, 28, (cmL (x.qm)).toArray)]) := HF.out.set 0 rfl _
       generalize wk2.setRow r (Rv.cells (rvOf {x with n := (wr1 x.nt), nt := (wr1 x.nt), ph := 1} g ba bc bh bm)) = wk3 at HF HG ⊢
       refine WL.nil ?_
       try simp only [pS]
       go_upto_region 12 with fail
       refine WL.start <| uK (pV r 0) <| ?_
       try simp only [pS]
       have hAt : RfAt wk3 (Jn J w) r ({ x with n := wr1 x.nt, nt := wr1 x.nt, ph := 1 }) := RfB.mk' (x := { x with n := wr1 x.nt, nt := wr1 x.nt, ph := 1 }) (g := g) (ba := ba) (bc := bc) (bh := bh) (bm := bm) (HF.out) HG.out HJ.out (by simpa using hla) (by simpa using hlc) (by simpa using hlh) (by simpa using hlm) hnn
       have hkw := HF.out.kept
       refine uC 62 #[pV r 0] (next_at hAt) ?_
       rintro e wz hz
       have hz2 := RfOut.behind hkw hz
       have HZ : Hid (RfOut w J r (tickR x) e wz) := by
         have hx : tickR x = nextR { x with n := wr1 x.nt, nt := wr1 x.nt, ph := 1 } := by unfold tickR; rw [if_pos (by simp at q1 q2; omega)]; rw [q3, if_pos rfl, if_neg (by simp at q4 q5; omega)]
         show RfOut w J r (tickR x) e wz
         rw [hx]
         exact hz2
       obtain ⟨sz, rfl, _⟩ := hz
       clear hz2
       refine ⟨sz.v, rfl, ?_⟩
       try simp only [pS]
       refine uK sz.v <| WL.nil <| ?_
       try simp only [pS]
       go_wp2
       rw [HC.out]
       exact HZ.out
      ·skip
       refine uB .geq 3 (.int .i64 x.rd) (.int .i64 1099511627776) (.bool true) (by rw [b_geq, q5]; try rfl) <| uK (.bool true) <| WL.nil <| ?_
       try simp only [pS]
       go_upto_region 6 with fail
       refine WL.start <| uK (pV r 0) <| uK (pV r 0) <| uK (pV r 36) <| ?_
       try simp only [pS]
       refine uT 4 ⟨r, 36, none⟩ (.bool true) (w.setRow r (Rv.cells (rvOf {x with wo := true} g ba bc bh bm))) (rs (Rv.cs (rvOf x g ba bc bh bm)) ([.bool true]) (Rv.cs (rvOf {x with wo := true} g ba bc bh bm)) (HF.out.box 0 _ _ _ rfl) S4 (by simp [Value.oneCell', Sl.v])) ?_
       try simp only [pS]
       have HG : Hid (OwI (w.setRow r (Rv.cells (rvOf {x with wo := true} g ba bc bh bm))) 0 g x.zs) := HG.out.kept (Kept.setRow _ _ _) (fun k h e => (HG.out.own.notBox (HF.out.box 0 _ _ _ rfl) (by decide)) ((show k = r from e) ▸ h))
       have HF : Hid (Fq J w (w.setRow r (Rv.cells (rvOf {x with wo := true} g ba bc bh bm))) [(r, 56, Rv.cells (rvOf {x with wo := true} g ba bc bh bm)), (ba, 4, (boL (x.qa)).toArray), (bc, 4, (boL (x.qc)).toArray), (bh, 39, (spL (x.qh)).toArray), (bm, 28, (cmL (x.qm)).toArray)]) := HF.out.set 0 rfl _
       generalize w.setRow r (Rv.cells (rvOf {x with wo := true} g ba bc bh bm)) = wk4 at HF HG ⊢
       refine WL.nil ?_
       try simp only [pS]
       go_upto_region 7 with fail
       refine WL.start <| uK (pV r 0) <| uK (pV r 0) <| uK (pV r 28) <| ?_
       try simp only [pS]
       refine uT 3 ⟨r, 28, none⟩ (.int .i64 3) (wk4.setRow r (Rv.cells (rvOf {x with ph := 3, wo := true} g ba bc bh bm))) (rs (Rv.cs (rvOf {x with wo := true} g ba bc bh bm)) ([.int .i64 3]) (Rv.cs (rvOf {x with ph := 3, wo := true} g ba bc bh bm)) (HF.out.box 0 _ _ _ rfl) S3 (by simp [Value.oneCell', Sl.v])) ?_
       try simp only [pS]
       have HG : Hid (OwI (wk4.setRow r (Rv.cells (rvOf {x with ph := 3, wo := true} g ba bc bh bm))) 0 g x.zs) := HG.out.kept (Kept.setRow _ _ _) (fun k h e => (HG.out.own.notBox (HF.out.box 0 _ _ _ rfl) (by decide)) ((show k = r from e) ▸ h))
       have HF : Hid (Fq J w (wk4.setRow r (Rv.cells (rvOf {x with ph := 3, wo := true} g ba bc bh bm))) [(r, 56, Rv.cells (rvOf {x with ph := 3, wo := true} g ba bc bh bm)), (ba, 4, (boL (x.qa)).toArray), (bc, 4, (boL (x.qc)).toArray), (bh, 39, (spL (x.qh)).toArray), (bm, 28, (cmL (x.qm)).toArray)]) := HF.out.set 0 rfl _
       generalize wk4.setRow r (Rv.cells (rvOf {x with ph := 3, wo := true} g ba bc bh bm)) = wk5 at HF HG ⊢
       refine WL.nil ?_
       try simp only [pS]
       go_upto_region 8 with fail
       refine WL.start <| uK (.slice none 0 0) <| WL.nil <| ?_
       try simp only [pS]
       go_wp2
       rw [HC.out]
       have hx : tickR x = ({ x with wo := true, ph := 3 }, []) := by unfold tickR; rw [if_pos (by simp at q1 q2; omega)]; rw [q3, if_pos rfl, if_pos (by simp at q4 q5; omega)]
       rw [hx]
       exact ⟨slZ, rfl, OwM.nil _ _, RfB.mk' (x := { x with wo := true, ph := 3 }) (g := g) (ba := ba) (bc := bc) (bh := bh) (bm := bm) (HF.out) HG.out HJ.out (by simpa using hla) (by simpa using hlc) (by simpa using hlh) (by simpa using hlm) hnn, HF.out.kept⟩
     ·skip
      refine uB .geq 3 (.int .i64 x.nt) (.int .i64 1099511627776) (.bool true) (by rw [b_geq, q4]; try rfl) <| uK (.bool true) <| uZ <| uZ <| uZ <| uZ <| uZ <| uK (.bool true) <| WL.nil <| ?_
      try simp only [pS]
      go_upto_region 6 with fail
      refine WL.start <| uK (pV r 0) <| uK (pV r 0) <| uK (pV r 36) <| ?_
      try simp only [pS]
      refine uT 4 ⟨r, 36, none⟩ (.bool true) (w.setRow r (Rv.cells (rvOf {x with wo := true} g ba bc bh bm))) (rs (Rv.cs (rvOf x g ba bc bh bm)) ([.bool true]) (Rv.cs (rvOf {x with wo := true} g ba bc bh bm)) (HF.out.box 0 _ _ _ rfl) S4 (by simp [Value.oneCell', Sl.v])) ?_
      try simp only [pS]
      have HG : Hid (OwI (w.setRow r (Rv.cells (rvOf {x with wo := true} g ba bc bh bm))) 0 g x.zs) := HG.out.kept (Kept.setRow _ _ _) (fun k h e => (HG.out.own.notBox (HF.out.box 0 _ _ _ rfl) (by decide)) ((show k = r from e) ▸ h))
      have HF : Hid (Fq J w (w.setRow r (Rv.cells (rvOf {x with wo := true} g ba bc bh bm))) [(r, 56, Rv.cells (rvOf {x with wo := true} g ba bc bh bm)), (ba, 4, (boL (x.qa)).toArray), (bc, 4, (boL (x.qc)).toArray), (bh, 39, (spL (x.qh)).toArray), (bm, 28, (cmL (x.qm)).toArray)]) := HF.out.set 0 rfl _
      generalize w.setRow r (Rv.cells (rvOf {x with wo := true} g ba bc bh bm)) = wk6 at HF HG ⊢
      refine WL.nil ?_
      try simp only [pS]
      go_upto_region 7 with fail
      refine WL.start <| uK (pV r 0) <| uK (pV r 0) <| uK (pV r 28) <| ?_
      try simp only [pS]
      refine uT 3 ⟨r, 28, none⟩ (.int .i64 3) (wk6.setRow r (Rv.cells (rvOf {x with ph := 3, wo := true} g ba bc bh bm))) (rs (Rv.cs (rvOf {x with wo := true} g ba bc bh bm)) ([.int .i64 3]) (Rv.cs (rvOf {x with ph := 3, wo := true} g ba bc bh bm)) (HF.out.box 0 _ _ _ rfl) S3 (by simp [Value.oneCell', Sl.v])) ?_
      try simp only [pS]
      have HG : Hid (OwI (wk6.setRow r (Rv.cells (rvOf {x with ph := 3, wo := true} g ba bc bh bm))) 0 g x.zs) := HG.out.kept (Kept.setRow _ _ _) (fun k h e => (HG.out.own.notBox (HF.out.box 0 _ _ _ rfl) (by decide)) ((show k = r from e) ▸ h))
      have HF : Hid (Fq J w (wk6.setRow r (Rv.cells (rvOf {x with ph := 3, wo := true} g ba bc bh bm))) [(r, 56, Rv.cells (rvOf {x with ph := 3, wo := true} g ba bc bh bm)), (ba, 4, (boL (x.qa)).toArray), (bc, 4, (boL (x.qc)).toArray), (bh, 39, (spL (x.qh)).toArray), (bm, 28, (cmL (x.qm)).toArray)]) := HF.out.set 0 rfl _
      generalize wk6.setRow r (Rv.cells (rvOf {x with ph := 3, wo := true} g ba bc bh bm)) = wk7 at HF HG ⊢
      refine WL.nil ?_
      try simp only [pS]
      go_upto_region 8 with fail
      refine WL.start <| uK (.slice none 0 0) <| WL.nil <| ?_
      try simp only [pS]
      go_wp2
      rw [HC.out]
      have hx : tickR x = ({ x with wo := true, ph := 3 }, []) := by unfold tickR; rw [if_pos (by simp at q1 q2; omega)]; rw [q3, if_pos rfl, if_pos (by simp at q4; omega)]
      rw [hx]
      exact ⟨slZ, rfl, OwM.nil _ _, RfB.mk' (x := { x with wo := true, ph := 3 }) (g := g) (ba := ba) (bc := bc) (bh := bh) (bm := bm) (HF.out) HG.out HJ.out (by simpa using hla) (by simpa using hlc) (by simpa using hlh) (by simpa using hlm) hnn, HF.out.kept⟩
  ·skip
   refine uB .neq 3 (.int .i64 x.ph) (.int .i64 1) (.bool false) (by rw [b_neq, q1]; try rfl) <| uK (.bool false) <| uZ <| uZ <| uZ <| uZ <| uZ <| uK (.bool false) <| WL.nil <| ?_
   try simp only [pS]
   go_upto_region 3 with fail
   refine WL.start <| uK (pV r 0) <| uK (pV r 0) <| uK (pV r 33) <| uL 4 ⟨r, 33, none⟩ (.bool x.nk) (load_one ((HF.out.box 0 _ _ _ rfl).cell 33 |>.trans (by kernel_rfl)) U4 rfl) <| ?_
   try simp only [pS]
   cases q6 : (x.nk)
   ·skip
    try simp only [q6]
    refine uK (.bool true) <| WL.nil <| ?_
    try simp only [pS]
    go_upto_region 4 with fail
    refine WL.start <| uK (pV r 0) <| ?_
    try simp only [pS]
    have hAt : RfAt w (Jn J w) r (x) := RfB.mk' (x := x) (g := g) (ba := ba) (bc := bc) (bh := bh) (bm := bm) (HF.out) HG.out HJ.out (by simpa using hla) (by simpa using hlc) (by simpa using hlh) (by simpa using hlm) hnn
    have hkw := HF.out.kept
    refine uC 61 #[pV r 0] (send_at hAt) ?_
    rintro e wz hz
    have hz2 := RfOut.behind hkw hz
    have HZ : Hid (RfOut w J r (tickR x) e wz) := by
      have hx : tickR x = (x, sendR x) := by unfold tickR; rw [if_pos (by simp at q1; omega)]; rw [q6]; rfl
      show RfOut w J r (tickR x) e wz
      rw [hx]
      exact hz2
    obtain ⟨sz, rfl, _⟩ := hz
    clear hz2
    refine ⟨sz.v, rfl, ?_⟩
    try simp only [pS]
    refine uK sz.v <| WL.nil <| ?_
    try simp only [pS]
    go_wp2
    rw [HC.out]
    exact HZ.out
   ·skip
    try simp only [q6]
    refine uK (.bool false) <| WL.nil <| ?_
    try simp only [pS]
    go_upto_region 5 with fail
    refine WL.start <| uK (pV r 0) <| uK (pV r 0) <| uK (pV r 27) <| uL 3 ⟨r, 27, none⟩ (.int .i64 x.nt) (load_one ((HF.out.box 0 _ _ _ rfl).cell 27 |>.trans (by kernel_rfl)) U3 rfl) <| ?_
    try simp only [pS]
    cases q7 : (decide (1099511627776 ≤ x.nt))
    ·skip
     refine uB .geq 3 (.int .i64 x.nt) (.int .i64 1099511627776) (.bool false) (by rw [b_geq, q7]; try rfl) <| uK (.bool false) <| uK (pV r 0) <| uK (pV r 0) <| uK (pV r 26) <| uL 3 ⟨r, 26, none⟩ (.int .i64 x.rd) (load_one ((HF.out.box 0 _ _ _ rfl).cell 26 |>.trans (by kernel_rfl)) U3 rfl) <| ?_
     try simp only [pS]
     cases q8 : (decide (1099511627776 ≤ x.rd))
     ·skip
      refine uB .geq 3 (.int .i64 x.rd) (.int .i64 1099511627776) (.bool false) (by rw [b_geq, q8]; try rfl) <| uK (.bool false) <| WL.nil <| ?_
      try simp only [pS]
      go_upto_region 9 with fail
      refine WL.start <| uK (pV r 0) <| uK (pV r 0) <| uK (pV r 0) <| uK (pV r 27) <| uL 3 ⟨r, 27, none⟩ (.int .i64 x.nt) (load_one ((HF.out.box 0 _ _ _ rfl).cell 27 |>.trans (by kernel_rfl)) U3 rfl) <| uB .add 3 (.int .i64 x.nt) (.int .i64 1) (.int .i64 (wr1 x.nt)) (wr_add _ _) <| uK (pV r 0) <| ?_
      try simp only [pS]
      refine uK (pV r 25) ?_
      try simp only [pS]
      refine uT 3 ⟨r, 25, none⟩ (.int .i64 (wr1 x.nt)) (w.setRow r (Rv.cells (rvOf {x with n := (wr1 x.nt)} g ba bc bh bm))) (rs (Rv.cs (rvOf x g ba bc bh bm)) ([.int .i64 (wr1 x.nt)]) (Rv.cs (rvOf {x with n := (wr1 x.nt)} g ba bc bh bm)) (HF.out.box 0 _ _ _ rfl) S3 (by simp [Value.oneCell', Sl.v])) ?_
      try simp only [pS]
      have HG : Hid (OwI (w.setRow r (Rv.cells (rvOf {x with n := (wr1 x.nt)} g ba bc bh bm))) 0 g x.zs) := HG.out.kept (Kept.setRow _ _ _) (fun k h e => (HG.out.own.notBox (HF.out.box 0 _ _ _ rfl) (by decide)) ((show k = r from e) ▸ h))
      have HF : Hid (Fq J w (w.setRow r (Rv.cells (rvOf {x with n := (wr1 x.nt)} g ba bc bh bm))) [(r, 56, Rv.cells (rvOf {x with n := (wr1 x.nt)} g ba bc bh bm)), (ba, 4, (boL (x.qa)).toArray), (bc, 4, (boL (x.qc)).toArray), (bh, 39, (spL (x.qh)).toArray), (bm, 28, (cmL (x.qm)).toArray)]) := HF.out.set 0 rfl _
      generalize w.setRow r (Rv.cells (rvOf {x with n := (wr1 x.nt)} g ba bc bh bm)) = wk8 at HF HG ⊢
      refine WL.nil ?_
      try simp only [pS]
      go_upto_region 10 with fail
      refine WL.start <| uK (pV r 0) <| uK (pV r 0) <| uK (pV r 0) <| uK (pV r 25) <| uL 3 ⟨r, 25, none⟩ (.int .i64 (wr1 x.nt)) (load_one ((HF.out.box 0 _ _ _ rfl).cell 25 |>.trans (by kernel_rfl)) U3 rfl) <| uK (pV r 0) <| uK (pV r 27) <| ?_
      try simp only [pS]
      refine uT 3 ⟨r, 27, none⟩ (.int .i64 (wr1 x.nt)) (wk8.setRow r (Rv.cells (rvOf {x with n := (wr1 x.nt), nt := (wr1 x.nt)} g ba bc bh bm))) (rs (Rv.cs (rvOf {x with n := (wr1 x.nt)} g ba bc bh bm)) ([.int .i64 (wr1 x.nt)]) (Rv.cs (rvOf {x with n := (wr1 x.nt), nt := (wr1 x.nt)} g ba bc bh bm)) (HF.out.box 0 _ _ _ rfl) S3 (by simp [Value.oneCell', Sl.v])) ?_
      try simp only [pS]
      have HG : Hid (OwI (wk8.setRow r (Rv.cells (rvOf {x with n := (wr1 x.nt), nt := (wr1 x.nt)} g ba bc bh bm))) 0 g x.zs) := HG.out.kept (Kept.setRow _ _ _) (fun k h e => (HG.out.own.notBox (HF.out.box 0 _ _ _ rfl) (by decide)) ((show k = r from e) ▸ h))
      have HF : Hid (Fq J w (wk8.setRow r (Rv.cells (rvOf {x with n := (wr1 x.nt), nt := (wr1 x.nt)} g ba bc bh bm))) [(r, 56, Rv.cells (rvOf {x with n := (wr1 x.nt), nt := (wr1 x.nt)} g ba bc bh bm)), (ba, 4, (boL (x.qa)).toArray), (bc, 4, (boL (x.qc)).toArray), (bh, 39, (spL (x.qh)).toArray), (bm, 28, (cmL (x.qm)).toArray)]) := HF.out.set 0 rfl _
      generalize wk8.setRow r (Rv.cells (rvOf {x with n := (wr1 x.nt), nt := (wr1 x.nt)} g ba bc bh bm)) = wk9 at HF HG ⊢
      refine WL.nil ?_
      try simp only [pS]
      go_upto_region 11 with fail
      refine WL.start <| uK (pV r 0) <| uK (pV r 0) <| uK (pV r 28) <| ?_
      try simp only [pS]
      refine uT 3 ⟨r, 28, none⟩ (.int .i64 1) (wk9.setRow r (Rv.cells (rvOf {x with n := (wr1 x.nt), nt := (wr1 x.nt), ph := 1} g ba bc bh bm))) (rs (Rv.cs (rvOf {x with n := (wr1 x.nt), nt := (wr1 x.nt)} g ba bc bh bm)) ([.int .i64 1]) (Rv.cs (rvOf {x with n := (wr1 x.nt), nt := (wr1 x.nt), ph := 1} g ba bc bh bm)) (HF.out.box 0 _ _ _ rfl) S3 (by simp [Value.oneCell', Sl.v])) ?_
      try simp only [pS]
      have HG : Hid (OwI (wk9.setRow r (Rv.cells (rvOf {x with n := (wr1 x.nt), nt := (wr1 x.nt), ph := 1} g ba bc bh bm))) 0 g x.zs) := HG.out.kept (Kept.setRow _ _ _) (fun k h e => (HG.out.own.notBox (HF.out.box 0 _ _ _ rfl) (by decide)) ((show k = r from e) ▸ h))
      have HF : Hid (Fq J w (wk9.setRow r (Rv.cells (rvOf {x with n := (wr1 x.nt), nt := (wr1 x.nt), ph := 1} g ba bc bh bm))) [(r, 56, Rv.cells (rvOf {x with n := (wr1 x.nt), nt := (wr1 x.nt), ph := 1} g ba bc bh bm)), (ba, 4, (boL (x.qa)).toArray), (bc, 4, (boL (x.qc)).toArray), (bh, 39, (spL (x.qh)).toArray), (bm, 28, (cmL (x.qm)).toArray)]) := HF.out.set 0 rfl _
      generalize wk9.setRow r (Rv.cells (rvOf {x with n := (wr1 x.nt), nt := (wr1 x.nt), ph := 1} g ba bc bh bm)) = wk10 at HF HG ⊢
      refine WL.nil ?_
      try simp only [pS]
      go_upto_region 12 with fail
      refine WL.start <| uK (pV r 0) <| ?_
      try simp only [pS]
      have hAt : RfAt wk10 (Jn J w) r ({ x with n := wr1 x.nt, nt := wr1 x.nt, ph := 1 }) := RfB.mk' (x := { x with n := wr1 x.nt, nt := wr1 x.nt, ph := 1 }) (g := g) (ba := ba) (bc := bc) (bh := bh) (bm := bm) (HF.out) HG.out HJ.out (by simpa using hla) (by simpa using hlc) (by simpa using hlh) (by simpa using hlm) hnn
      have hkw := HF.out.kept
      refine uC 62 #[pV r 0] (next_at hAt) ?_
      rintro e wz hz
      have hz2 := RfOut.behind hkw hz
      have HZ : Hid (RfOut w J r (tickR x) e wz) := by
        have hx : tickR x = nextR { x with n := wr1 x.nt, nt := wr1 x.nt, ph := 1 } := by unfold tickR; rw [if_pos (by simp at q1; omega)]; rw [q6, if_pos rfl, if_neg (by simp at q7 q8; omega)]
        show RfOut w J r (tickR x) e wz
        rw [hx]
        exact hz2
      obtain ⟨sz, rfl, _⟩ := hz
      clear hz2
      refine ⟨sz.v, rfl, ?_⟩
      try simp only [pS]
      refine uK sz.v <| WL.nil <| ?_
      try simp only [pS]
      go_wp2
      rw [HC.out]
      exact HZ.out
     ·skip
      refine uB .geq 3 (.int .i64 x.rd) (.int .i64 1099511627776) (.bool true) (by rw [b_geq, q8]; try rfl) <| uK (.bool true) <| WL.nil <| ?_
      try simp only [pS]
      go_upto_region 6 with fail
      refine WL.start <| uK (pV r 0) <| uK (pV r 0) <| uK (pV r 36) <| ?_
      try simp only [pS]
      refine uT 4 ⟨r, 36, none⟩ (.bool true) (w.setRow r (Rv.cells (rvOf {x with wo := true} g ba bc bh bm))) (rs (Rv.cs (rvOf x g ba bc bh bm)) ([.bool true]) (Rv.cs (rvOf {x with wo := true} g ba bc bh bm)) (HF.out.box 0 _ _ _ rfl) S4 (by simp [Value.oneCell', Sl.v])) ?_
      try simp only [pS]
      have HG : Hid (OwI (w.setRow r (Rv.cells (rvOf {x with wo := true} g ba bc bh bm))) 0 g x.zs) := HG.out.kept (Kept.setRow _ _ _) (fun k h e => (HG.out.own.notBox (HF.out.box 0 _ _ _ rfl) (by decide)) ((show k = r from e) ▸ h))
      have HF : Hid (Fq J w (w.setRow r (Rv.cells (rvOf {x with wo := true} g ba bc bh bm))) [(r, 56, Rv.cells (rvOf {x with wo := true} g ba bc bh bm)), (ba, 4, (boL (x.qa)).toArray), (bc, 4, (boL (x.qc)).toArray), (bh, 39, (spL (x.qh)).toArray), (bm, 28, (cmL (x.qm)).toArray)]) := HF.out.set 0 rfl _
      generalize w.setRow r (Rv.cells (rvOf {x with wo := true} g ba bc bh bm)) = wk11 at HF HG ⊢
      refine WL.nil ?_
      try simp only [pS]
      go_upto_region 7 with fail
      refine WL.start <| uK (pV r 0) <| uK (pV r 0) <| uK (pV r 28) <| ?_
      try simp only [pS]
      refine uT 3 ⟨r, 28, none⟩ (.int .i64 3) (wk11.setRow r (Rv.cells (rvOf {x with ph := 3, wo := true} g ba bc bh bm))) (rs (Rv.cs (rvOf {x with wo := true} g ba bc bh bm)) ([.int .i64 3]) (Rv.cs (rvOf {x with ph := 3, wo := true} g ba bc bh bm)) (HF.out.box 0 _ _ _ rfl) S3 (by simp [Value.oneCell', Sl.v])) ?_
      try simp only [pS]
      have HG : Hid (OwI (wk11.setRow r (Rv.cells (rvOf {x with ph := 3, wo := true} g ba bc bh bm))) 0 g x.zs) := HG.out.kept (Kept.setRow _ _ _) (fun k h e => (HG.out.own.notBox (HF.out.box 0 _ _ _ rfl) (by decide)) ((show k = r from e) ▸ h))
      have HF : Hid (Fq J w (wk11.setRow r (Rv.cells (rvOf {x with ph := 3, wo := true} g ba bc bh bm))) [(r, 56, Rv.cells (rvOf {x with ph := 3, wo := true} g ba bc bh bm)), (ba, 4, (boL (x.qa)).toArray), (bc, 4, (boL (x.qc)).toArray), (bh, 39, (spL (x.qh)).toArray), (bm, 28, (cmL (x.qm)).toArray)]) := HF.out.set 0 rfl _
      generalize wk11.setRow r (Rv.cells (rvOf {x with ph := 3, wo := true} g ba bc bh bm)) = wk12 at HF HG ⊢
      refine WL.nil ?_
      try simp only [pS]
      go_upto_region 8 with fail
      refine WL.start <| uK (.slice none 0 0) <| WL.nil <| ?_
      try simp only [pS]
      go_wp2
      rw [HC.out]
      have hx : tickR x = ({ x with wo := true, ph := 3 }, []) := by unfold tickR; rw [if_pos (by simp at q1; omega)]; rw [q6, if_pos rfl, if_pos (by simp at q7 q8; omega)]
      rw [hx]
      exact ⟨slZ, rfl, OwM.nil _ _, RfB.mk' (x := { x with wo := true, ph := 3 }) (g := g) (ba := ba) (bc := bc) (bh := bh) (bm := bm) (HF.out) HG.out HJ.out (by simpa using hla) (by simpa using hlc) (by simpa using hlh) (by simpa using hlm) hnn, HF.out.kept⟩
    ·skip
     refine uB .geq 3 (.int .i64 x.nt) (.int .i64 1099511627776) (.bool true) (by rw [b_geq, q7]; try rfl) <| uK (.bool true) <| uZ <| uZ <| uZ <| uZ <| uZ <| uK (.bool true) <| WL.nil <| ?_
     try simp only [pS]
     go_upto_region 6 with fail
     refine WL.start <| uK (pV r 0) <| uK (pV r 0) <| uK (pV r 36) <| ?_
     try simp only [pS]
     refine uT 4 ⟨r, 36, none⟩ (.bool true) (w.setRow r (Rv.cells (rvOf {x with wo := true} g ba bc bh bm))) (rs (Rv.cs (rvOf x g ba bc bh bm)) ([.bool true]) (Rv.cs (rvOf {x with wo := true} g ba bc bh bm)) (HF.out.box 0 _ _ _ rfl) S4 (by simp [Value.oneCell', Sl.v])) ?_
     try simp only [pS]
     have HG : Hid (OwI (w.setRow r (Rv.cells (rvOf {x with wo := true} g ba bc bh bm))) 0 g x.zs) := HG.out.kept (Kept.setRow _ _ _) (fun k h e => (HG.out.own.notBox (HF.out.box 0 _ _ _ rfl) (by decide)) ((show k = r from e) ▸ h))
     have HF : Hid (Fq J w (w.setRow r (Rv.cells (rvOf {x with wo := true} g ba bc bh bm))) [(r, 56, Rv.cells (rvOf {x with wo := true} g ba bc bh bm)), (ba, 4, (boL (x.qa)).toArray), (bc, 4, (boL (x.qc)).toArray), (bh, 39, (spL (x.qh)).toArray), (bm, 28, (cmL (x.qm)).toArray)]) := HF.out.set 0 rfl _
     generalize w.setRow r (Rv.cells (rvOf {x with wo := true} g ba bc bh bm)) = wk13 at HF HG ⊢
     refine WL.nil ?_
     try simp only [pS]
     go_upto_region 7 with fail
     refine WL.start <| uK (pV r 0) <| uK (pV r 0) <| uK (pV r 28) <| ?_
     try simp only [pS]
     refine uT 3 ⟨r, 28, none⟩ (.int .i64 3) (wk13.setRow r (Rv.cells (rvOf {x with ph := 3, wo := true} g ba bc bh bm))) (rs (Rv.cs (rvOf {x with wo := true} g ba bc bh bm)) ([.int .i64 3]) (Rv.cs (rvOf {x with ph := 3, wo := true} g ba bc bh bm)) (HF.out.box 0 _ _ _ rfl) S3 (by simp [Value.oneCell', Sl.v])) ?_
     try simp only [pS]
     have HG : Hid (OwI (wk13.setRow r (Rv.cells (rvOf {x with ph := 3, wo := true} g ba bc bh bm))) 0 g x.zs) := HG.out.kept (Kept.setRow _ _ _) (fun k h e => (HG.out.own.notBox (HF.out.box 0 _ _ _ rfl) (by decide)) ((show k = r from e) ▸ h))
     have HF : Hid (Fq J w (wk13.setRow r (Rv.cells (rvOf {x with ph := 3, wo := true} g ba bc bh bm))) [(r, 56, Rv.cells (rvOf {x with ph := 3, wo := true} g ba bc bh bm)), (ba, 4, (boL (x.qa)).toArray), (bc, 4, (boL (x.qc)).toArray), (bh, 39, (spL (x.qh)).toArray), (bm, 28, (cmL (x.qm)).toArray)]) := HF.out.set 0 rfl _
     generalize wk13.setRow r (Rv.cells (rvOf {x with ph := 3, wo := true} g ba bc bh bm)) = wk14 at HF HG ⊢
     refine WL.nil ?_
     try simp only [pS]
     go_upto_region 8 with fail
     refine WL.start <| uK (.slice none 0 0) <| WL.nil <| ?_
     try simp only [pS]
     go_wp2
     rw [HC.out]
     have hx : tickR x = ({ x with wo := true, ph := 3 }, []) := by unfold tickR; rw [if_pos (by simp at q1; omega)]; rw [q6, if_pos rfl, if_pos (by simp at q7; omega)]
     rw [hx]
     exact ⟨slZ, rfl, OwM.nil _ _, RfB.mk' (x := { x with wo := true, ph := 3 }) (g := g) (ba := ba) (bc := bc) (bh := bh) (bm := bm) (HF.out) HG.out HJ.out (by simpa using hla) (by simpa using hlc) (by simpa using hlh) (by simpa using hlm) hnn, HF.out.kept⟩

end Go.Proofs.Ytpabpeppgpeaoaa.Md
