import Derived.Test.YtgiokkcdgoloaaaYc
namespace Go.Proofs.Ytgiokkcdgoloaaa.Md
open Go.RowKit
set_option linter.unusedVariables false
set_option linter.unusedSimpArgs false

/-- A message and what its lists hold. -/
structure MgIn (w : World) (m : Mg) (zs : List Int) (es : List En) (ls : List La) (cs : List Cm) : Prop where
  b : RdB w m.bl zs
  e : RdE w m.bk.e es
  l : RdL w m.bk.l ls
  c : RdC w m.cm cs
  nb : m.bl.l ≤ 140737488351232
  ne : m.bk.e.l ≤ 3518437208780
  nl : m.bk.l.l ≤ 2513169434843
  nc : m.cm.l ≤ 1759218604390
theorem MgIn.no {w w' : World} {m : Mg} {zs : List Int} {es : List En} {ls : List La} {cs : List Cm} (H : MgIn w m zs es ls cs) (hk : Kept No w w') : MgIn w' m zs es ls cs := ⟨H.b.no hk, H.e.no hk, H.l.no hk, H.c.no hk, H.nb, H.ne, H.nl, H.nc⟩
/-- A message that was lent: its lists in memory of their own. -/
def lenM (m : Mg) (gb : Nat) (e l c : Sl) : Mg := { m with bl := ⟨some ⟨gb, 0, none⟩, m.bl.l, m.bl.l + 5⟩, bk := ⟨m.bk.up, e, l⟩, cm := c }
structure Len (w : World) (base : Nat) (m : Mg) (zs : List Int) (es : List En) (ls : List La) (cs : List Cm) (gb : Nat) (e l c : Sl) : Prop where
  b : Blk w gb (lent zs 5)
  bb : base ≤ gb
  e : OwE w base e es
  l : OwL w base l ls
  c : OwC w base c cs
theorem Len.kept {S : Nat → Prop} {w w' : World} {base : Nat} {m : Mg} {zs : List Int} {es : List En} {ls : List La} {cs : List Cm} {gb : Nat} {e l c : Sl} (h : Len w base m zs es ls cs gb e l c) (hk : Kept S w w') (hS : ∀ k, base ≤ k → ¬ S k) : Len w' base m zs es ls cs gb e l c :=
  ⟨(hk.block gb (Array.getElem?_eq_some_iff.1 h.b).1 (hS gb h.bb)).trans h.b, h.bb, h.e.kept hk (fun k e => hS k (h.e.own.base e)), h.l.kept hk (fun k e => hS k (h.l.own.base e)), ⟨h.c.own.kept hk (fun k e => hS k (h.c.own.base e)), h.c.len⟩⟩
set_option maxRecDepth 100000 in
set_option maxHeartbeats 4000000 in
theorem lendM (m : Mg) (zs : List Int) (es : List En) (ls : List La) (cs : List Cm) (w : World) (hm : MgIn w m zs es ls cs) : Calls Try.prog 35 #[.agg (Mg.cells m)] w (fun e w' => ∃ (gb : Nat) (E L C : Sl), e = .returned (.agg (Mg.cells (lenM m gb E L C))) ∧ Len w' w.heap.size m zs es ls cs gb E L C ∧ Kept No w w') := by
  obtain ⟨C, hC⟩ : ∃ C : Ending → World → Prop, C = (fun e w' => ∃ (gb : Nat) (E L C : Sl), e = .returned (.agg (Mg.cells (lenM m gb E L C))) ∧ Len w' w.heap.size m zs es ls cs gb E L C ∧ Kept No w w') := ⟨_, rfl⟩
  have HC : Hid (C = (fun e w' => ∃ (gb : Nat) (E L C : Sl), e = .returned (.agg (Mg.cells (lenM m gb E L C))) ∧ Len w' w.heap.size m zs es ls cs gb E L C ∧ Kept No w w')) := hC
  rw [← hC]
  clear hC
  have HM : Hid (MgIn w m zs es ls cs) := hm
  obtain ⟨k, fr, too, op, rd, ky, st, hd, ⟨ba, bn, bk⟩, c, ⟨up, ⟨ea, en, ek⟩, ⟨la, ln, lk⟩⟩, ⟨ca, cn, ck⟩, mo⟩ := m
  have n1 : bn ≤ 140737488351232 := hm.nb
  have n2 : en ≤ 3518437208780 := hm.ne
  have n3 : ln ≤ 2513169434843 := hm.nl
  have n4 : cn ≤ 1759218604390 := hm.nc
  have hz : zs.length = bn := hm.b.len
  clear hm
  have HF : Hid (Fq No w w []) := Fq.start _ _
  go_enter Try.func35, Try.ntmps35
  go_upto_region 0 with fail
  refine WL.start ?_
  refine uR (.pointer (some ⟨w.heap.size, 0, none⟩)) (w.alloc (.cells (Mg.cells ⟨k, fr, too, op, rd, ky, st, hd, ⟨ba, bn, bk⟩, c, ⟨up, ⟨ea, en, ek⟩, ⟨la, ln, lk⟩⟩, ⟨ca, cn, ck⟩, mo⟩) 52)) (exec_box 52 _ rfl (Mg.cells ⟨k, fr, too, op, rd, ky, st, hd, ⟨ba, bn, bk⟩, c, ⟨up, ⟨ea, en, ek⟩, ⟨la, ln, lk⟩⟩, ⟨ca, cn, ck⟩, mo⟩) (by kernel_rfl)) ?_
  try simp only [pS]
  have HF' : Hid (Fq No w (w.alloc (.cells (Mg.cells ⟨k, fr, too, op, rd, ky, st, hd, ⟨ba, bn, bk⟩, c, ⟨up, ⟨ea, en, ek⟩, ⟨la, ln, lk⟩⟩, ⟨ca, cn, ck⟩, mo⟩) 52)) [(w.heap.size, 52, Mg.cells ⟨k, fr, too, op, rd, ky, st, hd, ⟨ba, bn, bk⟩, c, ⟨up, ⟨ea, en, ek⟩, ⟨la, ln, lk⟩⟩, ⟨ca, cn, ck⟩, mo⟩)]) := HF.out.alloc _ _
  clear HF
  have HF := HF'
  clear HF'
  generalize w.alloc (.cells (Mg.cells ⟨k, fr, too, op, rd, ky, st, hd, ⟨ba, bn, bk⟩, c, ⟨up, ⟨ea, en, ek⟩, ⟨la, ln, lk⟩⟩, ⟨ca, cn, ck⟩, mo⟩) 52) = wk2 at HF ⊢
  generalize w.heap.size = gk1 at HF ⊢
  refine uR (.pointer (some ⟨wk2.heap.size, 0, none⟩)) (wk2.alloc (.cells (Mg.cells mgZ) 52)) (exec_alloc 52 rfl (Mg.cells mgZ) Z52) ?_
  try simp only [pS]
  have HF' : Hid (Fq No w (wk2.alloc (.cells (Mg.cells mgZ) 52)) [(gk1, 52, Mg.cells ⟨k, fr, too, op, rd, ky, st, hd, ⟨ba, bn, bk⟩, c, ⟨up, ⟨ea, en, ek⟩, ⟨la, ln, lk⟩⟩, ⟨ca, cn, ck⟩, mo⟩), (wk2.heap.size, 52, Mg.cells mgZ)]) := HF.out.alloc _ _
  clear HF
  have HF := HF'
  clear HF'
  generalize wk2.alloc (.cells (Mg.cells mgZ) 52) = wk4 at HF ⊢
  generalize wk2.heap.size = gk3 at HF ⊢
  refine WL.nil ?_
  try simp only [pS]
  go_upto_region 1 with fail
  refine WL.start <| uK (.pointer (some ⟨gk1, 15, none⟩)) <| uL 25 ⟨gk1, 15, none⟩ (.slice ba bn bk) (load_one ((HF.out.box 0 _ _ _ rfl).cell 15 |>.trans (by kernel_rfl)) U25 rfl) <| ?_
  try simp only [pS]
  refine uC 13 #[.slice ba bn bk] (lend_l ba bk bn zs wk4 hz (by omega) (Nums.kept HM.out.b.row HF.out.kept (fun _ _ _ e => e))) ?_
  rintro e wk5 ⟨rfl, hB, hk⟩
  have HB : Hid (Blk wk5 wk4.heap.size (lent zs 5)) := hB
  have HBB : Hid (w.heap.size ≤ wk4.heap.size) := HF.out.kept.size
  have HF : Hid (Fq No w (wk5) [(gk1, 52, Mg.cells ⟨k, fr, too, op, rd, ky, st, hd, ⟨ba, bn, bk⟩, c, ⟨up, ⟨ea, en, ek⟩, ⟨la, ln, lk⟩⟩, ⟨ca, cn, ck⟩, mo⟩), (gk3, 52, Mg.cells mgZ)]) := HF.out.no hk
  clear hk hB
  generalize wk4.heap.size = gb at HB HBB ⊢
  refine ⟨.slice (some ⟨gb, 0, none⟩) bn (bn + 5), rfl, ?_⟩
  try simp only [pS]
  refine uK (.pointer (some ⟨gk1, 15, none⟩)) ?_
  try simp only [pS]
  refine uT 25 ⟨gk1, 15, none⟩ (.slice (some ⟨gb, 0, none⟩) bn (bn + 5)) (wk5.setRow gk1 (Mg.cells ⟨k, fr, too, op, rd, ky, st, hd, ⟨(some ⟨gb, 0, none⟩), bn, (bn + 5)⟩, c, ⟨up, ⟨ea, en, ek⟩, ⟨la, ln, lk⟩⟩, ⟨ca, cn, ck⟩, mo⟩)) (rs (Mg.cs ⟨k, fr, too, op, rd, ky, st, hd, ⟨ba, bn, bk⟩, c, ⟨up, ⟨ea, en, ek⟩, ⟨la, ln, lk⟩⟩, ⟨ca, cn, ck⟩, mo⟩) ([.slice (some ⟨gb, 0, none⟩) bn (bn + 5)]) (Mg.cs ⟨k, fr, too, op, rd, ky, st, hd, ⟨(some ⟨gb, 0, none⟩), bn, (bn + 5)⟩, c, ⟨up, ⟨ea, en, ek⟩, ⟨la, ln, lk⟩⟩, ⟨ca, cn, ck⟩, mo⟩) (HF.out.box 0 _ _ _ rfl) S25 (by simp [Value.oneCell', Sl.v])) ?_
  try simp only [pS]
  have HB' : Hid (Blk (wk5.setRow gk1 (Mg.cells ⟨k, fr, too, op, rd, ky, st, hd, ⟨(some ⟨gb, 0, none⟩), bn, (bn + 5)⟩, c, ⟨up, ⟨ea, en, ek⟩, ⟨la, ln, lk⟩⟩, ⟨ca, cn, ck⟩, mo⟩)) gb (lent zs 5)) := ((Kept.setRow _ _ _).block gb (Array.getElem?_eq_some_iff.1 HB.out).1 (fun e => box_ne HB.out (HF.out.box 0 _ _ _ rfl) (by decide) e)).trans HB.out
  have HF' : Hid (Fq No w (wk5.setRow gk1 (Mg.cells ⟨k, fr, too, op, rd, ky, st, hd, ⟨(some ⟨gb, 0, none⟩), bn, (bn + 5)⟩, c, ⟨up, ⟨ea, en, ek⟩, ⟨la, ln, lk⟩⟩, ⟨ca, cn, ck⟩, mo⟩)) [(gk1, 52, Mg.cells ⟨k, fr, too, op, rd, ky, st, hd, ⟨(some ⟨gb, 0, none⟩), bn, (bn + 5)⟩, c, ⟨up, ⟨ea, en, ek⟩, ⟨la, ln, lk⟩⟩, ⟨ca, cn, ck⟩, mo⟩), (gk3, 52, Mg.cells mgZ)]) := HF.out.set 0 rfl _
  clear HB
  have HB := HB'
  clear HB'
  clear HF
  have HF := HF'
  clear HF'
  generalize wk5.setRow gk1 (Mg.cells ⟨k, fr, too, op, rd, ky, st, hd, ⟨(some ⟨gb, 0, none⟩), bn, (bn + 5)⟩, c, ⟨up, ⟨ea, en, ek⟩, ⟨la, ln, lk⟩⟩, ⟨ca, cn, ck⟩, mo⟩) = wk6 at HF HB ⊢
  refine WL.nil ?_
  try simp only [pS]
  go_upto_region 2 with fail
  refine WL.start ?_
  refine uR (.slice (some ⟨wk6.heap.size, 0, none⟩) 0 0) (wk6.alloc (.cells #[] 88)) (exec_sl0 46 88 rfl (sl0_88 _)) ?_
  try simp only [pS]
  refine uK (.pointer (some ⟨gk1, 25, none⟩)) <| uK (.pointer (some ⟨gk1, 26, none⟩)) <| uL 46 ⟨gk1, 26, none⟩ (.slice ea en ek) (load_one (((HF.out.box 0 _ _ _ rfl).alloc _).cell 26 |>.trans (by kernel_rfl)) U46 rfl) <| ?_
  try simp only [pS]
  obtain ⟨ea', ek', wk7, hr, ho, hk⟩ := run_cpy (w := wk6) 46 46 88 4 40 (.agg enZ.cells) U46 I88 rfl (by omega) ea en ek (enL es) (by rw [enL_len]; exact congrArg (· * 4) HM.out.e.len) HM.out.e.cap (fun j u hj => (HM.out.e.no HF.out.kept).src j u hj) (enL_one _) (by omega) (by omega)
  refine uR (.slice ea' en ek') wk7 (exec_appN _ _ 46 46 rfl _ _ (by kernel_rfl) (by kernel_rfl) hr) ?_
  try simp only [pS]
  have HB : Hid (Blk wk7 gb (lent zs 5)) := (hk.block gb (Array.getElem?_eq_some_iff.1 HB.out).1 (fun e => e)).trans HB.out
  have HE : Hid (OwE wk7 w.heap.size ⟨ea', en, ek'⟩ es) := ⟨ho.lower HF.out.kept.size, HM.out.e.len⟩
  have HF : Hid (Fq No w (wk7) [(gk1, 52, Mg.cells ⟨k, fr, too, op, rd, ky, st, hd, ⟨(some ⟨gb, 0, none⟩), bn, (bn + 5)⟩, c, ⟨up, ⟨ea, en, ek⟩, ⟨la, ln, lk⟩⟩, ⟨ca, cn, ck⟩, mo⟩), (gk3, 52, Mg.cells mgZ)]) := HF.out.no hk
  clear hk ho hr
  refine uK (.pointer (some ⟨gk1, 25, none⟩)) <| uK (.pointer (some ⟨gk1, 26, none⟩)) <| ?_
  try simp only [pS]
  refine uT 46 ⟨gk1, 26, none⟩ (.slice ea' en ek') (wk7.setRow gk1 (Mg.cells ⟨k, fr, too, op, rd, ky, st, hd, ⟨(some ⟨gb, 0, none⟩), bn, (bn + 5)⟩, c, ⟨up, ⟨ea', en, ek'⟩, ⟨la, ln, lk⟩⟩, ⟨ca, cn, ck⟩, mo⟩)) (rs (Mg.cs ⟨k, fr, too, op, rd, ky, st, hd, ⟨(some ⟨gb, 0, none⟩), bn, (bn + 5)⟩, c, ⟨up, ⟨ea, en, ek⟩, ⟨la, ln, lk⟩⟩, ⟨ca, cn, ck⟩, mo⟩) ([.slice ea' en ek']) (Mg.cs ⟨k, fr, too, op, rd, ky, st, hd, ⟨(some ⟨gb, 0, none⟩), bn, (bn + 5)⟩, c, ⟨up, ⟨ea', en, ek'⟩, ⟨la, ln, lk⟩⟩, ⟨ca, cn, ck⟩, mo⟩) (HF.out.box 0 _ _ _ rfl) S46 (by simp [Value.oneCell', Sl.v])) ?_
  try simp only [pS]
  have HB' : Hid (Blk (wk7.setRow gk1 (Mg.cells ⟨k, fr, too, op, rd, ky, st, hd, ⟨(some ⟨gb, 0, none⟩), bn, (bn + 5)⟩, c, ⟨up, ⟨ea', en, ek'⟩, ⟨la, ln, lk⟩⟩, ⟨ca, cn, ck⟩, mo⟩)) gb (lent zs 5)) := ((Kept.setRow _ _ _).block gb (Array.getElem?_eq_some_iff.1 HB.out).1 (fun e => box_ne HB.out (HF.out.box 0 _ _ _ rfl) (by decide) e)).trans HB.out
  have HE' : Hid (OwE (wk7.setRow gk1 (Mg.cells ⟨k, fr, too, op, rd, ky, st, hd, ⟨(some ⟨gb, 0, none⟩), bn, (bn + 5)⟩, c, ⟨up, ⟨ea', en, ek'⟩, ⟨la, ln, lk⟩⟩, ⟨ca, cn, ck⟩, mo⟩)) w.heap.size ⟨ea', en, ek'⟩ es) := HE.out.kept (Kept.setRow _ _ _) (fun k h e => HE.out.own.notBox (HF.out.box 0 _ _ _ rfl) (by decide) (e ▸ h))
  have HF' : Hid (Fq No w (wk7.setRow gk1 (Mg.cells ⟨k, fr, too, op, rd, ky, st, hd, ⟨(some ⟨gb, 0, none⟩), bn, (bn + 5)⟩, c, ⟨up, ⟨ea', en, ek'⟩, ⟨la, ln, lk⟩⟩, ⟨ca, cn, ck⟩, mo⟩)) [(gk1, 52, Mg.cells ⟨k, fr, too, op, rd, ky, st, hd, ⟨(some ⟨gb, 0, none⟩), bn, (bn + 5)⟩, c, ⟨up, ⟨ea', en, ek'⟩, ⟨la, ln, lk⟩⟩, ⟨ca, cn, ck⟩, mo⟩), (gk3, 52, Mg.cells mgZ)]) := HF.out.set 0 rfl _
  clear HB
  have HB := HB'
  clear HB'
  clear HE
  have HE := HE'
  clear HE'
  clear HF
  have HF := HF'
  clear HF'
  generalize wk7.setRow gk1 (Mg.cells ⟨k, fr, too, op, rd, ky, st, hd, ⟨(some ⟨gb, 0, none⟩), bn, (bn + 5)⟩, c, ⟨up, ⟨ea', en, ek'⟩, ⟨la, ln, lk⟩⟩, ⟨ca, cn, ck⟩, mo⟩) = wk8 at HF HB HE ⊢
  refine WL.nil ?_
  try simp only [pS]
  go_upto_region 3 with fail
  refine WL.start ?_
  refine uR (.slice (some ⟨wk8.heap.size, 0, none⟩) 0 0) (wk8.alloc (.cells #[] 126)) (exec_sl0 47 126 rfl (sl0_126 _)) ?_
  try simp only [pS]
  refine uK (.pointer (some ⟨gk1, 25, none⟩)) <| uK (.pointer (some ⟨gk1, 27, none⟩)) <| uL 47 ⟨gk1, 27, none⟩ (.slice la ln lk) (load_one (((HF.out.box 0 _ _ _ rfl).alloc _).cell 27 |>.trans (by kernel_rfl)) U47 rfl) <| ?_
  try simp only [pS]
  obtain ⟨la', lk', wk9, hr, ho, hk⟩ := run_cpy (w := wk8) 47 47 126 7 56 (.agg laZ.cells) U47 I126 rfl (by omega) la ln lk (laL ls) (by rw [laL_len]; exact congrArg (· * 7) HM.out.l.len) HM.out.l.cap (fun j u hj => (HM.out.l.no HF.out.kept).src j u hj) (laL_one _) (by omega) (by omega)
  refine uR (.slice la' ln lk') wk9 (exec_appN _ _ 47 47 rfl _ _ (by kernel_rfl) (by kernel_rfl) hr) ?_
  try simp only [pS]
  have HB : Hid (Blk wk9 gb (lent zs 5)) := (hk.block gb (Array.getElem?_eq_some_iff.1 HB.out).1 (fun e => e)).trans HB.out
  have HE : Hid (OwE wk9 w.heap.size ⟨ea', en, ek'⟩ es) := HE.out.no hk
  have HL : Hid (OwL wk9 w.heap.size ⟨la', ln, lk'⟩ ls) := ⟨ho.lower HF.out.kept.size, HM.out.l.len⟩
  have HF : Hid (Fq No w (wk9) [(gk1, 52, Mg.cells ⟨k, fr, too, op, rd, ky, st, hd, ⟨(some ⟨gb, 0, none⟩), bn, (bn + 5)⟩, c, ⟨up, ⟨ea', en, ek'⟩, ⟨la, ln, lk⟩⟩, ⟨ca, cn, ck⟩, mo⟩), (gk3, 52, Mg.cells mgZ)]) := HF.out.no hk
  clear hk ho hr
  refine uK (.pointer (some ⟨gk1, 25, none⟩)) <| uK (.pointer (some ⟨gk1, 27, none⟩)) <| ?_
  try simp only [pS]
  refine uT 47 ⟨gk1, 27, none⟩ (.slice la' ln lk') (wk9.setRow gk1 (Mg.cells ⟨k, fr, too, op, rd, ky, st, hd, ⟨(some ⟨gb, 0, none⟩), bn, (bn + 5)⟩, c, ⟨up, ⟨ea', en, ek'⟩, ⟨la', ln, lk'⟩⟩, ⟨ca, cn, ck⟩, mo⟩)) (rs (Mg.cs ⟨k, fr, too, op, rd, ky, st, hd, ⟨(some ⟨gb, 0, none⟩), bn, (bn + 5)⟩, c, ⟨up, ⟨ea', en, ek'⟩, ⟨la, ln, lk⟩⟩, ⟨ca, cn, ck⟩, mo⟩) ([.slice la' ln lk']) (Mg.cs ⟨k, fr, too, op, rd, ky, st, hd, ⟨(some ⟨gb, 0, none⟩), bn, (bn + 5)⟩, c, ⟨up, ⟨ea', en, ek'⟩, ⟨la', ln, lk'⟩⟩, ⟨ca, cn, ck⟩, mo⟩) (HF.out.box 0 _ _ _ rfl) S47 (by simp [Value.oneCell', Sl.v])) ?_
  try simp only [pS]
  have HB' : Hid (Blk (wk9.setRow gk1 (Mg.cells ⟨k, fr, too, op, rd, ky, st, hd, ⟨(some ⟨gb, 0, none⟩), bn, (bn + 5)⟩, c, ⟨up, ⟨ea', en, ek'⟩, ⟨la', ln, lk'⟩⟩, ⟨ca, cn, ck⟩, mo⟩)) gb (lent zs 5)) := ((Kept.setRow _ _ _).block gb (Array.getElem?_eq_some_iff.1 HB.out).1 (fun e => box_ne HB.out (HF.out.box 0 _ _ _ rfl) (by decide) e)).trans HB.out
  have HE' : Hid (OwE (wk9.setRow gk1 (Mg.cells ⟨k, fr, too, op, rd, ky, st, hd, ⟨(some ⟨gb, 0, none⟩), bn, (bn + 5)⟩, c, ⟨up, ⟨ea', en, ek'⟩, ⟨la', ln, lk'⟩⟩, ⟨ca, cn, ck⟩, mo⟩)) w.heap.size ⟨ea', en, ek'⟩ es) := HE.out.kept (Kept.setRow _ _ _) (fun k h e => HE.out.own.notBox (HF.out.box 0 _ _ _ rfl) (by decide) (e ▸ h))
  have HL' : Hid (OwL (wk9.setRow gk1 (Mg.cells ⟨k, fr, too, op, rd, ky, st, hd, ⟨(some ⟨gb, 0, none⟩), bn, (bn + 5)⟩, c, ⟨up, ⟨ea', en, ek'⟩, ⟨la', ln, lk'⟩⟩, ⟨ca, cn, ck⟩, mo⟩)) w.heap.size ⟨la', ln, lk'⟩ ls) := HL.out.kept (Kept.setRow _ _ _) (fun k h e => HL.out.own.notBox (HF.out.box 0 _ _ _ rfl) (by decide) (e ▸ h))
  have HF' : Hid (Fq No w (wk9.setRow gk1 (Mg.cells ⟨k, fr, too, op, rd, ky, st, hd, ⟨(some ⟨gb, 0, none⟩), bn, (bn + 5)⟩, c, ⟨up, ⟨ea', en, ek'⟩, ⟨la', ln, lk'⟩⟩, ⟨ca, cn, ck⟩, mo⟩)) [(gk1, 52, Mg.cells ⟨k, fr, too, op, rd, ky, st, hd, ⟨(some ⟨gb, 0, none⟩), bn, (bn + 5)⟩, c, ⟨up, ⟨ea', en, ek'⟩, ⟨la', ln, lk'⟩⟩, ⟨ca, cn, ck⟩, mo⟩), (gk3, 52, Mg.cells mgZ)]) := HF.out.set 0 rfl _
  clear HB
  have HB := HB'
  clear HB'
  clear HE
  have HE := HE'
  clear HE'
  clear HL
  have HL := HL'
  clear HL'
  clear HF
  have HF := HF'
  clear HF'
  generalize wk9.setRow gk1 (Mg.cells ⟨k, fr, too, op, rd, ky, st, hd, ⟨(some ⟨gb, 0, none⟩), bn, (bn + 5)⟩, c, ⟨up, ⟨ea', en, ek'⟩, ⟨la', ln, lk'⟩⟩, ⟨ca, cn, ck⟩, mo⟩) = wk10 at HF HB HE HL ⊢
  refine WL.nil ?_
  try simp only [pS]
  go_upto_region 4 with fail
  refine WL.start ?_
  refine uR (.slice (some ⟨wk10.heap.size, 0, none⟩) 0 0) (wk10.alloc (.cells #[] 45)) (exec_sl0 50 45 rfl (sl0_45 _)) ?_
  try simp only [pS]
  refine uK (.pointer (some ⟨gk1, 28, none⟩)) <| uL 50 ⟨gk1, 28, none⟩ (.slice ca cn ck) (load_one (((HF.out.box 0 _ _ _ rfl).alloc _).cell 28 |>.trans (by kernel_rfl)) U50 rfl) <| ?_
  try simp only [pS]
  obtain ⟨ca', ck', wk11, hr, ho, hk⟩ := run_cpy (w := wk10) 50 50 45 9 80 (.agg cZ.cells) U50 I45 rfl (by omega) ca cn ck (cmL cs) (by rw [cmL_len]; exact congrArg (· * 9) HM.out.c.len) HM.out.c.cap (fun j u hj => (HM.out.c.no HF.out.kept).src j u hj) (cmL_one _) (by omega) (by omega)
  refine uR (.slice ca' cn ck') wk11 (exec_appN _ _ 50 50 rfl _ _ (by kernel_rfl) (by kernel_rfl) hr) ?_
  try simp only [pS]
  have HB : Hid (Blk wk11 gb (lent zs 5)) := (hk.block gb (Array.getElem?_eq_some_iff.1 HB.out).1 (fun e => e)).trans HB.out
  have HE : Hid (OwE wk11 w.heap.size ⟨ea', en, ek'⟩ es) := HE.out.no hk
  have HL : Hid (OwL wk11 w.heap.size ⟨la', ln, lk'⟩ ls) := HL.out.no hk
  have HCm : Hid (OwC wk11 w.heap.size ⟨ca', cn, ck'⟩ cs) := ⟨ho.lower HF.out.kept.size, HM.out.c.len⟩
  have HF : Hid (Fq No w (wk11) [(gk1, 52, Mg.cells ⟨k, fr, too, op, rd, ky, st, hd, ⟨(some ⟨gb, 0, none⟩), bn, (bn + 5)⟩, c, ⟨up, ⟨ea', en, ek'⟩, ⟨la', ln, lk'⟩⟩, ⟨ca, cn, ck⟩, mo⟩), (gk3, 52, Mg.cells mgZ)]) := HF.out.no hk
  clear hk ho hr
  refine uK (.pointer (some ⟨gk1, 28, none⟩)) ?_
  try simp only [pS]
  refine uT 50 ⟨gk1, 28, none⟩ (.slice ca' cn ck') (wk11.setRow gk1 (Mg.cells ⟨k, fr, too, op, rd, ky, st, hd, ⟨(some ⟨gb, 0, none⟩), bn, (bn + 5)⟩, c, ⟨up, ⟨ea', en, ek'⟩, ⟨la', ln, lk'⟩⟩, ⟨ca', cn, ck'⟩, mo⟩)) (rs (Mg.cs ⟨k, fr, too, op, rd, ky, st, hd, ⟨(some ⟨gb, 0, none⟩), bn, (bn + 5)⟩, c, ⟨up, ⟨ea', en, ek'⟩, ⟨la', ln, lk'⟩⟩, ⟨ca, cn, ck⟩, mo⟩) ([.slice ca' cn ck']) (Mg.cs ⟨k, fr, too, op, rd, ky, st, hd, ⟨(some ⟨gb, 0, none⟩), bn, (bn + 5)⟩, c, ⟨up, ⟨ea', en, ek'⟩, ⟨la', ln, lk'⟩⟩, ⟨ca', cn, ck'⟩, mo⟩) (HF.out.box 0 _ _ _ rfl) S50 (by simp [Value.oneCell', Sl.v])) ?_
  try simp only [pS]
  have HB' : Hid (Blk (wk11.setRow gk1 (Mg.cells ⟨k, fr, too, op, rd, ky, st, hd, ⟨(some ⟨gb, 0, none⟩), bn, (bn + 5)⟩, c, ⟨up, ⟨ea', en, ek'⟩, ⟨la', ln, lk'⟩⟩, ⟨ca', cn, ck'⟩, mo⟩)) gb (lent zs 5)) := ((Kept.setRow _ _ _).block gb (Array.getElem?_eq_some_iff.1 HB.out).1 (fun e => box_ne HB.out (HF.out.box 0 _ _ _ rfl) (by decide) e)).trans HB.out
  have HE' : Hid (OwE (wk11.setRow gk1 (Mg.cells ⟨k, fr, too, op, rd, ky, st, hd, ⟨(some ⟨gb, 0, none⟩), bn, (bn + 5)⟩, c, ⟨up, ⟨ea', en, ek'⟩, ⟨la', ln, lk'⟩⟩, ⟨ca', cn, ck'⟩, mo⟩)) w.heap.size ⟨ea', en, ek'⟩ es) := HE.out.kept (Kept.setRow _ _ _) (fun k h e => HE.out.own.notBox (HF.out.box 0 _ _ _ rfl) (by decide) (e ▸ h))
  have HL' : Hid (OwL (wk11.setRow gk1 (Mg.cells ⟨k, fr, too, op, rd, ky, st, hd, ⟨(some ⟨gb, 0, none⟩), bn, (bn + 5)⟩, c, ⟨up, ⟨ea', en, ek'⟩, ⟨la', ln, lk'⟩⟩, ⟨ca', cn, ck'⟩, mo⟩)) w.heap.size ⟨la', ln, lk'⟩ ls) := HL.out.kept (Kept.setRow _ _ _) (fun k h e => HL.out.own.notBox (HF.out.box 0 _ _ _ rfl) (by decide) (e ▸ h))
  have HCm' : Hid (OwC (wk11.setRow gk1 (Mg.cells ⟨k, fr, too, op, rd, ky, st, hd, ⟨(some ⟨gb, 0, none⟩), bn, (bn + 5)⟩, c, ⟨up, ⟨ea', en, ek'⟩, ⟨la', ln, lk'⟩⟩, ⟨ca', cn, ck'⟩, mo⟩)) w.heap.size ⟨ca', cn, ck'⟩ cs) := ⟨HCm.out.own.kept (Kept.setRow _ _ _) (fun k h e => HCm.out.own.notBox (HF.out.box 0 _ _ _ rfl) (by decide) (e ▸ h)), HCm.out.len⟩
  have HF' : Hid (Fq No w (wk11.setRow gk1 (Mg.cells ⟨k, fr, too, op, rd, ky, st, hd, ⟨(some ⟨gb, 0, none⟩), bn, (bn + 5)⟩, c, ⟨up, ⟨ea', en, ek'⟩, ⟨la', ln, lk'⟩⟩, ⟨ca', cn, ck'⟩, mo⟩)) [(gk1, 52, Mg.cells ⟨k, fr, too, op, rd, ky, st, hd, ⟨(some ⟨gb, 0, none⟩), bn, (bn + 5)⟩, c, ⟨up, ⟨ea', en, ek'⟩, ⟨la', ln, lk'⟩⟩, ⟨ca', cn, ck'⟩, mo⟩), (gk3, 52, Mg.cells mgZ)]) := HF.out.set 0 rfl _
  clear HB
  have HB := HB'
  clear HB'
  clear HE
  have HE := HE'
  clear HE'
  clear HL
  have HL := HL'
  clear HL'
  clear HCm
  have HCm := HCm'
  clear HCm'
  clear HF
  have HF := HF'
  clear HF'
  generalize wk11.setRow gk1 (Mg.cells ⟨k, fr, too, op, rd, ky, st, hd, ⟨(some ⟨gb, 0, none⟩), bn, (bn + 5)⟩, c, ⟨up, ⟨ea', en, ek'⟩, ⟨la', ln, lk'⟩⟩, ⟨ca', cn, ck'⟩, mo⟩) = wk12 at HF HB HE HL HCm ⊢
  refine WL.nil ?_
  try simp only [pS]
  go_upto_region 5 with fail
  refine WL.start <| uL 52 ⟨gk1, 0, none⟩ (.agg (Mg.cells ⟨k, fr, too, op, rd, ky, st, hd, ⟨(some ⟨gb, 0, none⟩), bn, (bn + 5)⟩, c, ⟨up, ⟨ea', en, ek'⟩, ⟨la', ln, lk'⟩⟩, ⟨ca', cn, ck'⟩, mo⟩)) (run_load_part (cs := Mg.cs ⟨k, fr, too, op, rd, ky, st, hd, ⟨(some ⟨gb, 0, none⟩), bn, (bn + 5)⟩, c, ⟨up, ⟨ea', en, ek'⟩, ⟨la', ln, lk'⟩⟩, ⟨ca', cn, ck'⟩, mo⟩) (sub := Mg.cs ⟨k, fr, too, op, rd, ky, st, hd, ⟨(some ⟨gb, 0, none⟩), bn, (bn + 5)⟩, c, ⟨up, ⟨ea', en, ek'⟩, ⟨la', ln, lk'⟩⟩, ⟨ca', cn, ck'⟩, mo⟩) (HF.out.box 0 _ _ _ rfl) (Part.all _) U52 rfl S52) <| ?_
  try simp only [pS]
  refine uT 52 ⟨gk3, 0, none⟩ (.agg (Mg.cells ⟨k, fr, too, op, rd, ky, st, hd, ⟨(some ⟨gb, 0, none⟩), bn, (bn + 5)⟩, c, ⟨up, ⟨ea', en, ek'⟩, ⟨la', ln, lk'⟩⟩, ⟨ca', cn, ck'⟩, mo⟩)) (wk12.setRow gk3 (Mg.cells ⟨k, fr, too, op, rd, ky, st, hd, ⟨(some ⟨gb, 0, none⟩), bn, (bn + 5)⟩, c, ⟨up, ⟨ea', en, ek'⟩, ⟨la', ln, lk'⟩⟩, ⟨ca', cn, ck'⟩, mo⟩)) (rs (Mg.cs mgZ) (Mg.cs ⟨k, fr, too, op, rd, ky, st, hd, ⟨(some ⟨gb, 0, none⟩), bn, (bn + 5)⟩, c, ⟨up, ⟨ea', en, ek'⟩, ⟨la', ln, lk'⟩⟩, ⟨ca', cn, ck'⟩, mo⟩) (Mg.cs ⟨k, fr, too, op, rd, ky, st, hd, ⟨(some ⟨gb, 0, none⟩), bn, (bn + 5)⟩, c, ⟨up, ⟨ea', en, ek'⟩, ⟨la', ln, lk'⟩⟩, ⟨ca', cn, ck'⟩, mo⟩) (HF.out.box 1 _ _ _ rfl) S52 (Mg.oneL _)) ?_
  try simp only [pS]
  have HB' : Hid (Blk (wk12.setRow gk3 (Mg.cells ⟨k, fr, too, op, rd, ky, st, hd, ⟨(some ⟨gb, 0, none⟩), bn, (bn + 5)⟩, c, ⟨up, ⟨ea', en, ek'⟩, ⟨la', ln, lk'⟩⟩, ⟨ca', cn, ck'⟩, mo⟩)) gb (lent zs 5)) := ((Kept.setRow _ _ _).block gb (Array.getElem?_eq_some_iff.1 HB.out).1 (fun e => box_ne HB.out (HF.out.box 1 _ _ _ rfl) (by decide) e)).trans HB.out
  have HE' : Hid (OwE (wk12.setRow gk3 (Mg.cells ⟨k, fr, too, op, rd, ky, st, hd, ⟨(some ⟨gb, 0, none⟩), bn, (bn + 5)⟩, c, ⟨up, ⟨ea', en, ek'⟩, ⟨la', ln, lk'⟩⟩, ⟨ca', cn, ck'⟩, mo⟩)) w.heap.size ⟨ea', en, ek'⟩ es) := HE.out.kept (Kept.setRow _ _ _) (fun k h e => HE.out.own.notBox (HF.out.box 1 _ _ _ rfl) (by decide) (e ▸ h))
  have HL' : Hid (OwL (wk12.setRow gk3 (Mg.cells ⟨k, fr, too, op, rd, ky, st, hd, ⟨(some ⟨gb, 0, none⟩), bn, (bn + 5)⟩, c, ⟨up, ⟨ea', en, ek'⟩, ⟨la', ln, lk'⟩⟩, ⟨ca', cn, ck'⟩, mo⟩)) w.heap.size ⟨la', ln, lk'⟩ ls) := HL.out.kept (Kept.setRow _ _ _) (fun k h e => HL.out.own.notBox (HF.out.box 1 _ _ _ rfl) (by decide) (e ▸ h))
  have HCm' : Hid (OwC (wk12.setRow gk3 (Mg.cells ⟨k, fr, too, op, rd, ky, st, hd, ⟨(some ⟨gb, 0, none⟩), bn, (bn + 5)⟩, c, ⟨up, ⟨ea', en, ek'⟩, ⟨la', ln, lk'⟩⟩, ⟨ca', cn, ck'⟩, mo⟩)) w.heap.size ⟨ca', cn, ck'⟩ cs) := ⟨HCm.out.own.kept (Kept.setRow _ _ _) (fun k h e => HCm.out.own.notBox (HF.out.box 1 _ _ _ rfl) (by decide) (e ▸ h)), HCm.out.len⟩
  have HF' : Hid (Fq No w (wk12.setRow gk3 (Mg.cells ⟨k, fr, too, op, rd, ky, st, hd, ⟨(some ⟨gb, 0, none⟩), bn, (bn + 5)⟩, c, ⟨up, ⟨ea', en, ek'⟩, ⟨la', ln, lk'⟩⟩, ⟨ca', cn, ck'⟩, mo⟩)) [(gk1, 52, Mg.cells ⟨k, fr, too, op, rd, ky, st, hd, ⟨(some ⟨gb, 0, none⟩), bn, (bn + 5)⟩, c, ⟨up, ⟨ea', en, ek'⟩, ⟨la', ln, lk'⟩⟩, ⟨ca', cn, ck'⟩, mo⟩), (gk3, 52, Mg.cells ⟨k, fr, too, op, rd, ky, st, hd, ⟨(some ⟨gb, 0, none⟩), bn, (bn + 5)⟩, c, ⟨up, ⟨ea', en, ek'⟩, ⟨la', ln, lk'⟩⟩, ⟨ca', cn, ck'⟩, mo⟩)]) := HF.out.set 1 rfl _
  clear HB
  have HB := HB'
  clear HB'
  clear HE
  have HE := HE'
  clear HE'
  clear HL
  have HL := HL'
  clear HL'
  clear HCm
  have HCm := HCm'
  clear HCm'
  clear HF
  have HF := HF'
  clear HF'
  generalize wk12.setRow gk3 (Mg.cells ⟨k, fr, too, op, rd, ky, st, hd, ⟨(some ⟨gb, 0, none⟩), bn, (bn + 5)⟩, c, ⟨up, ⟨ea', en, ek'⟩, ⟨la', ln, lk'⟩⟩, ⟨ca', cn, ck'⟩, mo⟩) = wk13 at HF HB HE HL HCm ⊢
  refine WL.nil ?_
  try simp only [pS]
  go_wp2
  rw [HC.out]
  refine bodyPost_ret (results_row1 (by rfl) _ _ gk3 (Mg.cells ⟨k, fr, too, op, rd, ky, st, hd, ⟨(some ⟨gb, 0, none⟩), bn, (bn + 5)⟩, c, ⟨up, ⟨ea', en, ek'⟩, ⟨la', ln, lk'⟩⟩, ⟨ca', cn, ck'⟩, mo⟩) (by rfl) (run_load_part (cs := Mg.cs ⟨k, fr, too, op, rd, ky, st, hd, ⟨(some ⟨gb, 0, none⟩), bn, (bn + 5)⟩, c, ⟨up, ⟨ea', en, ek'⟩, ⟨la', ln, lk'⟩⟩, ⟨ca', cn, ck'⟩, mo⟩) (sub := Mg.cs ⟨k, fr, too, op, rd, ky, st, hd, ⟨(some ⟨gb, 0, none⟩), bn, (bn + 5)⟩, c, ⟨up, ⟨ea', en, ek'⟩, ⟨la', ln, lk'⟩⟩, ⟨ca', cn, ck'⟩, mo⟩) (HF.out.box 1 _ _ _ rfl) (Part.all _) U52 rfl S52)) rfl ?_
  exact ⟨gb, _, _, _, rfl, ⟨HB.out, HBB.out, HE.out, HL.out, HCm.out⟩, HF.out.kept⟩

end Go.Proofs.Ytgiokkcdgoloaaa.Md
