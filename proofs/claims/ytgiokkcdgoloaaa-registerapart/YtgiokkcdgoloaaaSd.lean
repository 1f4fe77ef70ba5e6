import Derived.Test.YtgiokkcdgoloaaaSc
namespace Go.Proofs.Ytgiokkcdgoloaaa.Md
open Go.RowKit
set_option linter.unusedVariables false
set_option linter.unusedSimpArgs false

theorem OwC.rd {w : World} {base : Nat} {s : Sl} {es : List Cm} (h : OwC w base s es) : RdC w s es := ⟨Own.rows h.own (cmL_c es) (by omega), h.len, h.own.cap0⟩
theorem _root_.Go.Proofs.Ytgiokkcdgoloaaa.Nums.kept0 {q : IntKind} {S : Nat → Prop} {w w' : World} {a : Option Addr} {zs : List Int} (h : Nums q w a zs) (hk : Kept S w w') (hS : zs ≠ [] → ∀ b off, a = some ⟨b, off, none⟩ → ¬ S b) : Nums q w' a zs := by
  cases zs with
  | nil => intro i hi; simp at hi
  | cons z l => exact h.kept hk (hS (by simp))
theorem RowsAt.kept0 {n : Nat} {S : Nat → Prop} {w w' : World} {a : Option Addr} {xs : List (List Value)} (h : RowsAt n w a xs) (hk : Kept S w w') (hS : xs ≠ [] → ∀ k, At a k → ¬ S k) : RowsAt n w' a xs := by
  cases xs with
  | nil => intro i it hi; simp at hi
  | cons z l => exact h.kept hk (hS (by simp))
theorem RdB.kept0 {S : Nat → Prop} {w w' : World} {s : Sl} {bs : List Int} (h : RdB w s bs) (hk : Kept S w w') (hS : bs ≠ [] → ∀ k, At s.a k → ¬ S k) : RdB w' s bs := ⟨h.row.kept0 hk (fun hne b off e => hS hne b ⟨_, e, rfl⟩), h.len, h.cap⟩
def LB (gb : Nat) (E L C : Sl) : Nat → Prop := fun k => k = gb ∨ At E.a k ∨ At L.a k ∨ At C.a k
theorem Fq.wr {S : Nat → Prop} {w0 w : World} {l : List (Nat × TypeId × Array Value)} (h : Fq S w0 w l) {g : Nat} {T : TypeId} {c0 : Array Value} (hb : Box w g T c0) (hg : S g) (hT : ∀ x ∈ l, x.2.1 ≠ T) (cs : Array Value) : Fq S w0 (w.setRow g cs) l :=
  ⟨kept_row h.kept (.inr hg) cs, fun i g' T' cs' hi => (h.box i g' T' cs' hi).rowNe (box_ne (h.box i g' T' cs' hi) hb (hT _ (List.mem_of_getElem? hi))) _, h.low, h.inj⟩
set_option maxRecDepth 100000 in
set_option maxHeartbeats 4000000 in
theorem backM0 (k op rd up : Int) (fr too : Ad) (ky : Ky) (st hd : Sp) (c : Cm) (mo : Bool) (gb base : Nat) (bb ea eb la lb ca cb : Option Addr) (bn bj en ek ej ln lk lj cn ck cj : Nat) (zs : List Int) (es : List En) (ls : List La) (cs : List Cm) (w : World) (hm : MgIn w ⟨k, fr, too, op, rd, ky, st, hd, ⟨bb, bn, bj⟩, c, ⟨up, ⟨eb, en, ej⟩, ⟨lb, ln, lj⟩⟩, ⟨cb, cn, cj⟩, mo⟩ zs es ls cs) (hL : Len w base ⟨k, fr, too, op, rd, ky, st, hd, ⟨bb, bn, bj⟩, c, ⟨up, ⟨eb, en, ej⟩, ⟨lb, ln, lj⟩⟩, ⟨cb, cn, cj⟩, mo⟩ zs es ls cs gb ⟨ea, en, ek⟩ ⟨la, ln, lk⟩ ⟨ca, cn, ck⟩) (off : zs ≠ [] → ∀ x, At bb x → x ≠ gb) (offE : zs ≠ [] → ∀ x, At bb x → ¬ At ea x) (offL : zs ≠ [] → ∀ x, At bb x → ¬ At la x) (offC : zs ≠ [] → ∀ x, At bb x → ¬ At ca x) : Calls Try.prog 36 #[.agg (Mg.cells ⟨k, fr, too, op, rd, ky, st, hd, ⟨(some ⟨gb, 0, none⟩), bn, (bn + 5)⟩, c, ⟨up, ⟨ea, en, ek⟩, ⟨la, ln, lk⟩⟩, ⟨ca, cn, ck⟩, mo⟩), .agg (Mg.cells ⟨k, fr, too, op, rd, ky, st, hd, ⟨bb, bn, bj⟩, c, ⟨up, ⟨eb, en, ej⟩, ⟨lb, ln, lj⟩⟩, ⟨cb, cn, cj⟩, mo⟩)] w (fun e w' => e = .returned (.bool true) ∧ Kept (LB gb ⟨ea, en, ek⟩ ⟨la, ln, lk⟩ ⟨ca, cn, ck⟩) w w') := by
  obtain ⟨C, hC⟩ : ∃ C : Ending → World → Prop, C = (fun e w' => e = .returned (.bool true) ∧ Kept (LB gb ⟨ea, en, ek⟩ ⟨la, ln, lk⟩ ⟨ca, cn, ck⟩) w w') := ⟨_, rfl⟩
  have HC : Hid (C = (fun e w' => e = .returned (.bool true) ∧ Kept (LB gb ⟨ea, en, ek⟩ ⟨la, ln, lk⟩ ⟨ca, cn, ck⟩) w w')) := hC
  rw [← hC]
  clear hC
  have n1 : bn ≤ 140737488351232 := hm.nb
  have n2 : en ≤ 3518437208780 := hm.ne
  have n3 : ln ≤ 2513169434843 := hm.nl
  have n4 : cn ≤ 1759218604390 := hm.nc
  have hz : zs.length = bn := hm.b.len
  have HM : Hid (MgIn w ⟨k, fr, too, op, rd, ky, st, hd, ⟨bb, bn, bj⟩, c, ⟨up, ⟨eb, en, ej⟩, ⟨lb, ln, lj⟩⟩, ⟨cb, cn, cj⟩, mo⟩ zs es ls cs) := hm
  have HB : Hid (Blk w gb (lent zs 5)) := hL.b
  have HE : Hid (OwE w base ⟨ea, en, ek⟩ es) := hL.e
  have HL : Hid (OwL w base ⟨la, ln, lk⟩ ls) := hL.l
  have HCm : Hid (OwC w base ⟨ca, cn, ck⟩ cs) := hL.c
  have HO : Hid (zs ≠ [] → ∀ x, At bb x → ¬ LB gb ⟨ea, en, ek⟩ ⟨la, ln, lk⟩ ⟨ca, cn, ck⟩ x) := fun hne x hx h => by
    rcases h with h | h | h | h
    · exact off hne x hx h
    · exact offE hne x hx h
    · exact offL hne x hx h
    · exact offC hne x hx h
  clear hm hL off offE offL offC
  have HF : Hid (Fq (LB gb ⟨ea, en, ek⟩ ⟨la, ln, lk⟩ ⟨ca, cn, ck⟩) w w []) := Fq.start _ _
  go_enter Try.func36, Try.ntmps36
  have HFN : Hid (Fq No w w []) := Fq.start _ _
  clear HF
  have HF := HFN
  clear HFN
  go_upto_region 0 with fail
  refine WL.start ?_
  refine uR (.pointer (some ⟨w.heap.size, 0, none⟩)) (w.alloc (.cells (Mg.cells ⟨k, fr, too, op, rd, ky, st, hd, ⟨(some ⟨gb, 0, none⟩), bn, (bn + 5)⟩, c, ⟨up, ⟨ea, en, ek⟩, ⟨la, ln, lk⟩⟩, ⟨ca, cn, ck⟩, mo⟩) 52)) (exec_box 52 _ rfl (Mg.cells ⟨k, fr, too, op, rd, ky, st, hd, ⟨(some ⟨gb, 0, none⟩), bn, (bn + 5)⟩, c, ⟨up, ⟨ea, en, ek⟩, ⟨la, ln, lk⟩⟩, ⟨ca, cn, ck⟩, mo⟩) (by kernel_rfl)) ?_
  try simp only [pS]
  have HB' : Hid (Blk (w.alloc (.cells (Mg.cells ⟨k, fr, too, op, rd, ky, st, hd, ⟨(some ⟨gb, 0, none⟩), bn, (bn + 5)⟩, c, ⟨up, ⟨ea, en, ek⟩, ⟨la, ln, lk⟩⟩, ⟨ca, cn, ck⟩, mo⟩) 52)) gb (lent zs 5)) := (((Kept.refl No _).alloc _).block gb (Array.getElem?_eq_some_iff.1 HB.out).1 (fun e => e)).trans HB.out
  have HE' : Hid (OwE (w.alloc (.cells (Mg.cells ⟨k, fr, too, op, rd, ky, st, hd, ⟨(some ⟨gb, 0, none⟩), bn, (bn + 5)⟩, c, ⟨up, ⟨ea, en, ek⟩, ⟨la, ln, lk⟩⟩, ⟨ca, cn, ck⟩, mo⟩) 52)) base ⟨ea, en, ek⟩ es) := ⟨HE.out.own.no ((Kept.refl No _).alloc _), HE.out.len⟩
  have HL' : Hid (OwL (w.alloc (.cells (Mg.cells ⟨k, fr, too, op, rd, ky, st, hd, ⟨(some ⟨gb, 0, none⟩), bn, (bn + 5)⟩, c, ⟨up, ⟨ea, en, ek⟩, ⟨la, ln, lk⟩⟩, ⟨ca, cn, ck⟩, mo⟩) 52)) base ⟨la, ln, lk⟩ ls) := ⟨HL.out.own.no ((Kept.refl No _).alloc _), HL.out.len⟩
  have HCm' : Hid (OwC (w.alloc (.cells (Mg.cells ⟨k, fr, too, op, rd, ky, st, hd, ⟨(some ⟨gb, 0, none⟩), bn, (bn + 5)⟩, c, ⟨up, ⟨ea, en, ek⟩, ⟨la, ln, lk⟩⟩, ⟨ca, cn, ck⟩, mo⟩) 52)) base ⟨ca, cn, ck⟩ cs) := ⟨HCm.out.own.no ((Kept.refl No _).alloc _), HCm.out.len⟩
  have HF' : Hid (Fq No w (w.alloc (.cells (Mg.cells ⟨k, fr, too, op, rd, ky, st, hd, ⟨(some ⟨gb, 0, none⟩), bn, (bn + 5)⟩, c, ⟨up, ⟨ea, en, ek⟩, ⟨la, ln, lk⟩⟩, ⟨ca, cn, ck⟩, mo⟩) 52)) [(w.heap.size, 52, Mg.cells ⟨k, fr, too, op, rd, ky, st, hd, ⟨(some ⟨gb, 0, none⟩), bn, (bn + 5)⟩, c, ⟨up, ⟨ea, en, ek⟩, ⟨la, ln, lk⟩⟩, ⟨ca, cn, ck⟩, mo⟩)]) := HF.out.alloc _ _
  clear HB
  have HB := HB'
  clear HB'
  clear HE
  have HE := HE'
  clear HE'
  clear HL
  have HL := HL'
  clear HL'
  clear HCm
  have HCm := HCm'
  clear HCm'
  clear HF
  have HF := HF'
  clear HF'
  generalize w.alloc (.cells (Mg.cells ⟨k, fr, too, op, rd, ky, st, hd, ⟨(some ⟨gb, 0, none⟩), bn, (bn + 5)⟩, c, ⟨up, ⟨ea, en, ek⟩, ⟨la, ln, lk⟩⟩, ⟨ca, cn, ck⟩, mo⟩) 52) = wk2 at HF HB HE HL HCm ⊢
  generalize w.heap.size = gk1 at HF ⊢
  refine uR (.pointer (some ⟨wk2.heap.size, 0, none⟩)) (wk2.alloc (.cells (Mg.cells ⟨k, fr, too, op, rd, ky, st, hd, ⟨bb, bn, bj⟩, c, ⟨up, ⟨eb, en, ej⟩, ⟨lb, ln, lj⟩⟩, ⟨cb, cn, cj⟩, mo⟩) 52)) (exec_box 52 _ rfl (Mg.cells ⟨k, fr, too, op, rd, ky, st, hd, ⟨bb, bn, bj⟩, c, ⟨up, ⟨eb, en, ej⟩, ⟨lb, ln, lj⟩⟩, ⟨cb, cn, cj⟩, mo⟩) (by kernel_rfl)) ?_
  try simp only [pS]
  have HB' : Hid (Blk (wk2.alloc (.cells (Mg.cells ⟨k, fr, too, op, rd, ky, st, hd, ⟨bb, bn, bj⟩, c, ⟨up, ⟨eb, en, ej⟩, ⟨lb, ln, lj⟩⟩, ⟨cb, cn, cj⟩, mo⟩) 52)) gb (lent zs 5)) := (((Kept.refl No _).alloc _).block gb (Array.getElem?_eq_some_iff.1 HB.out).1 (fun e => e)).trans HB.out
  have HE' : Hid (OwE (wk2.alloc (.cells (Mg.cells ⟨k, fr, too, op, rd, ky, st, hd, ⟨bb, bn, bj⟩, c, ⟨up, ⟨eb, en, ej⟩, ⟨lb, ln, lj⟩⟩, ⟨cb, cn, cj⟩, mo⟩) 52)) base ⟨ea, en, ek⟩ es) := ⟨HE.out.own.no ((Kept.refl No _).alloc _), HE.out.len⟩
  have HL' : Hid (OwL (wk2.alloc (.cells (Mg.cells ⟨k, fr, too, op, rd, ky, st, hd, ⟨bb, bn, bj⟩, c, ⟨up, ⟨eb, en, ej⟩, ⟨lb, ln, lj⟩⟩, ⟨cb, cn, cj⟩, mo⟩) 52)) base ⟨la, ln, lk⟩ ls) := ⟨HL.out.own.no ((Kept.refl No _).alloc _), HL.out.len⟩
  have HCm' : Hid (OwC (wk2.alloc (.cells (Mg.cells ⟨k, fr, too, op, rd, ky, st, hd, ⟨bb, bn, bj⟩, c, ⟨up, ⟨eb, en, ej⟩, ⟨lb, ln, lj⟩⟩, ⟨cb, cn, cj⟩, mo⟩) 52)) base ⟨ca, cn, ck⟩ cs) := ⟨HCm.out.own.no ((Kept.refl No _).alloc _), HCm.out.len⟩
  have HF' : Hid (Fq No w (wk2.alloc (.cells (Mg.cells ⟨k, fr, too, op, rd, ky, st, hd, ⟨bb, bn, bj⟩, c, ⟨up, ⟨eb, en, ej⟩, ⟨lb, ln, lj⟩⟩, ⟨cb, cn, cj⟩, mo⟩) 52)) [(gk1, 52, Mg.cells ⟨k, fr, too, op, rd, ky, st, hd, ⟨(some ⟨gb, 0, none⟩), bn, (bn + 5)⟩, c, ⟨up, ⟨ea, en, ek⟩, ⟨la, ln, lk⟩⟩, ⟨ca, cn, ck⟩, mo⟩), (wk2.heap.size, 52, Mg.cells ⟨k, fr, too, op, rd, ky, st, hd, ⟨bb, bn, bj⟩, c, ⟨up, ⟨eb, en, ej⟩, ⟨lb, ln, lj⟩⟩, ⟨cb, cn, cj⟩, mo⟩)]) := HF.out.alloc _ _
  clear HB
  have HB := HB'
  clear HB'
  clear HE
  have HE := HE'
  clear HE'
  clear HL
  have HL := HL'
  clear HL'
  clear HCm
  have HCm := HCm'
  clear HCm'
  clear HF
  have HF := HF'
  clear HF'
  generalize wk2.alloc (.cells (Mg.cells ⟨k, fr, too, op, rd, ky, st, hd, ⟨bb, bn, bj⟩, c, ⟨up, ⟨eb, en, ej⟩, ⟨lb, ln, lj⟩⟩, ⟨cb, cn, cj⟩, mo⟩) 52) = wk4 at HF HB HE HL HCm ⊢
  generalize wk2.heap.size = gk3 at HF ⊢
  refine uK (.bool false) <| WL.nil <| ?_
  try simp only [pS]
  go_upto_region 1 with fail
  refine WL.start <| uK (.pointer (some ⟨gk1, 15, none⟩)) <| uL 25 ⟨gk1, 15, none⟩ (.slice (some ⟨gb, 0, none⟩) bn (bn + 5)) (load_one ((HF.out.box 0 _ _ _ rfl).cell 15 |>.trans (by kernel_rfl)) U25 rfl) <| uK (.slice (some ⟨gb, 0, none⟩) bn (bn + 5)) <| WL.nil <| ?_
  try simp only [pS]
  go_upto_region 2 with fail
  refine WL.start <| uK (.pointer (some ⟨gk3, 15, none⟩)) <| uL 25 ⟨gk3, 15, none⟩ (.slice bb bn bj) (load_one ((HF.out.box 1 _ _ _ rfl).cell 15 |>.trans (by kernel_rfl)) U25 rfl) <| uK (.pointer (some ⟨gk1, 15, none⟩)) <| ?_
  try simp only [pS]
  refine uT 25 ⟨gk1, 15, none⟩ (.slice bb bn bj) (wk4.setRow gk1 (Mg.cells ⟨k, fr, too, op, rd, ky, st, hd, ⟨bb, bn, bj⟩, c, ⟨up, ⟨ea, en, ek⟩, ⟨la, ln, lk⟩⟩, ⟨ca, cn, ck⟩, mo⟩)) (rs (Mg.cs ⟨k, fr, too, op, rd, ky, st, hd, ⟨(some ⟨gb, 0, none⟩), bn, (bn + 5)⟩, c, ⟨up, ⟨ea, en, ek⟩, ⟨la, ln, lk⟩⟩, ⟨ca, cn, ck⟩, mo⟩) ([.slice bb bn bj]) (Mg.cs ⟨k, fr, too, op, rd, ky, st, hd, ⟨bb, bn, bj⟩, c, ⟨up, ⟨ea, en, ek⟩, ⟨la, ln, lk⟩⟩, ⟨ca, cn, ck⟩, mo⟩) (HF.out.box 0 _ _ _ rfl) S25 (by simp [Value.oneCell', Sl.v])) ?_
  try simp only [pS]
  have HB' : Hid (Blk (wk4.setRow gk1 (Mg.cells ⟨k, fr, too, op, rd, ky, st, hd, ⟨bb, bn, bj⟩, c, ⟨up, ⟨ea, en, ek⟩, ⟨la, ln, lk⟩⟩, ⟨ca, cn, ck⟩, mo⟩)) gb (lent zs 5)) := ((Kept.setRow _ _ _).block gb (Array.getElem?_eq_some_iff.1 HB.out).1 (fun e => box_ne HB.out (HF.out.box 0 _ _ _ rfl) (by decide) e)).trans HB.out
  have HE' : Hid (OwE (wk4.setRow gk1 (Mg.cells ⟨k, fr, too, op, rd, ky, st, hd, ⟨bb, bn, bj⟩, c, ⟨up, ⟨ea, en, ek⟩, ⟨la, ln, lk⟩⟩, ⟨ca, cn, ck⟩, mo⟩)) base ⟨ea, en, ek⟩ es) := ⟨HE.out.own.kept (Kept.setRow _ _ _) (fun k h e => HE.out.own.notBox (HF.out.box 0 _ _ _ rfl) (by decide) (e ▸ h)), HE.out.len⟩
  have HL' : Hid (OwL (wk4.setRow gk1 (Mg.cells ⟨k, fr, too, op, rd, ky, st, hd, ⟨bb, bn, bj⟩, c, ⟨up, ⟨ea, en, ek⟩, ⟨la, ln, lk⟩⟩, ⟨ca, cn, ck⟩, mo⟩)) base ⟨la, ln, lk⟩ ls) := ⟨HL.out.own.kept (Kept.setRow _ _ _) (fun k h e => HL.out.own.notBox (HF.out.box 0 _ _ _ rfl) (by decide) (e ▸ h)), HL.out.len⟩
  have HCm' : Hid (OwC (wk4.setRow gk1 (Mg.cells ⟨k, fr, too, op, rd, ky, st, hd, ⟨bb, bn, bj⟩, c, ⟨up, ⟨ea, en, ek⟩, ⟨la, ln, lk⟩⟩, ⟨ca, cn, ck⟩, mo⟩)) base ⟨ca, cn, ck⟩ cs) := ⟨HCm.out.own.kept (Kept.setRow _ _ _) (fun k h e => HCm.out.own.notBox (HF.out.box 0 _ _ _ rfl) (by decide) (e ▸ h)), HCm.out.len⟩
  have HF' : Hid (Fq No w (wk4.setRow gk1 (Mg.cells ⟨k, fr, too, op, rd, ky, st, hd, ⟨bb, bn, bj⟩, c, ⟨up, ⟨ea, en, ek⟩, ⟨la, ln, lk⟩⟩, ⟨ca, cn, ck⟩, mo⟩)) [(gk1, 52, Mg.cells ⟨k, fr, too, op, rd, ky, st, hd, ⟨bb, bn, bj⟩, c, ⟨up, ⟨ea, en, ek⟩, ⟨la, ln, lk⟩⟩, ⟨ca, cn, ck⟩, mo⟩), (gk3, 52, Mg.cells ⟨k, fr, too, op, rd, ky, st, hd, ⟨bb, bn, bj⟩, c, ⟨up, ⟨eb, en, ej⟩, ⟨lb, ln, lj⟩⟩, ⟨cb, cn, cj⟩, mo⟩)]) := HF.out.set 0 rfl _
  clear HB
  have HB := HB'
  clear HB'
  clear HE
  have HE := HE'
  clear HE'
  clear HL
  have HL := HL'
  clear HL'
  clear HCm
  have HCm := HCm'
  clear HCm'
  clear HF
  have HF := HF'
  clear HF'
  generalize wk4.setRow gk1 (Mg.cells ⟨k, fr, too, op, rd, ky, st, hd, ⟨bb, bn, bj⟩, c, ⟨up, ⟨ea, en, ek⟩, ⟨la, ln, lk⟩⟩, ⟨ca, cn, ck⟩, mo⟩) = wk5 at HF HB HE HL HCm ⊢
  refine WL.nil ?_
  try simp only [pS]
  have HK0 : Hid (Kept No w wk5) := HF.out.kept
  go_upto_region 3 with fail
  refine WL.start <| uL 52 ⟨gk1, 0, none⟩ (.agg (Mg.cells ⟨k, fr, too, op, rd, ky, st, hd, ⟨bb, bn, bj⟩, c, ⟨up, ⟨ea, en, ek⟩, ⟨la, ln, lk⟩⟩, ⟨ca, cn, ck⟩, mo⟩)) (run_load_part (cs := Mg.cs ⟨k, fr, too, op, rd, ky, st, hd, ⟨bb, bn, bj⟩, c, ⟨up, ⟨ea, en, ek⟩, ⟨la, ln, lk⟩⟩, ⟨ca, cn, ck⟩, mo⟩) (sub := Mg.cs ⟨k, fr, too, op, rd, ky, st, hd, ⟨bb, bn, bj⟩, c, ⟨up, ⟨ea, en, ek⟩, ⟨la, ln, lk⟩⟩, ⟨ca, cn, ck⟩, mo⟩) (HF.out.box 0 _ _ _ rfl) (Part.all _) U52 rfl S52) <| uL 52 ⟨gk3, 0, none⟩ (.agg (Mg.cells ⟨k, fr, too, op, rd, ky, st, hd, ⟨bb, bn, bj⟩, c, ⟨up, ⟨eb, en, ej⟩, ⟨lb, ln, lj⟩⟩, ⟨cb, cn, cj⟩, mo⟩)) (run_load_part (cs := Mg.cs ⟨k, fr, too, op, rd, ky, st, hd, ⟨bb, bn, bj⟩, c, ⟨up, ⟨eb, en, ej⟩, ⟨lb, ln, lj⟩⟩, ⟨cb, cn, cj⟩, mo⟩) (sub := Mg.cs ⟨k, fr, too, op, rd, ky, st, hd, ⟨bb, bn, bj⟩, c, ⟨up, ⟨eb, en, ej⟩, ⟨lb, ln, lj⟩⟩, ⟨cb, cn, cj⟩, mo⟩) (HF.out.box 1 _ _ _ rfl) (Part.all _) U52 rfl S52) <| ?_
  try simp only [pS]
  refine uC 52 #[.agg (Mg.cells ⟨k, fr, too, op, rd, ky, st, hd, ⟨bb, bn, bj⟩, c, ⟨up, ⟨ea, en, ek⟩, ⟨la, ln, lk⟩⟩, ⟨ca, cn, ck⟩, mo⟩), .agg (Mg.cells ⟨k, fr, too, op, rd, ky, st, hd, ⟨bb, bn, bj⟩, c, ⟨up, ⟨eb, en, ej⟩, ⟨lb, ln, lj⟩⟩, ⟨cb, cn, cj⟩, mo⟩)] (sameMg (m := ⟨k, fr, too, op, rd, ky, st, hd, ⟨bb, bn, bj⟩, c, ⟨up, ⟨ea, en, ek⟩, ⟨la, ln, lk⟩⟩, ⟨ca, cn, ck⟩, mo⟩) (m' := ⟨k, fr, too, op, rd, ky, st, hd, ⟨bb, bn, bj⟩, c, ⟨up, ⟨eb, en, ej⟩, ⟨lb, ln, lj⟩⟩, ⟨cb, cn, cj⟩, mo⟩) ⟨rfl, ⟨zs, es, ls, cs, HM.out.b.no (HK0.out), HM.out.b.no (HK0.out), HE.out.rd, HM.out.e.no (HK0.out), HL.out.rd, HM.out.l.no (HK0.out), HCm.out.rd, HM.out.c.no (HK0.out)⟩, by dsimp only; omega, by dsimp only; omega, by dsimp only; omega, by dsimp only; omega⟩) ?_
  rintro e wk6 ⟨rfl, hk⟩
  have HB' : Hid (Blk (wk6) gb (lent zs 5)) := (hk.block gb (Array.getElem?_eq_some_iff.1 HB.out).1 (fun e => e)).trans HB.out
  have HE' : Hid (OwE (wk6) base ⟨ea, en, ek⟩ es) := ⟨HE.out.own.no hk, HE.out.len⟩
  have HL' : Hid (OwL (wk6) base ⟨la, ln, lk⟩ ls) := ⟨HL.out.own.no hk, HL.out.len⟩
  have HCm' : Hid (OwC (wk6) base ⟨ca, cn, ck⟩ cs) := ⟨HCm.out.own.no hk, HCm.out.len⟩
  have HF' : Hid (Fq No w (wk6) [(gk1, 52, Mg.cells ⟨k, fr, too, op, rd, ky, st, hd, ⟨bb, bn, bj⟩, c, ⟨up, ⟨ea, en, ek⟩, ⟨la, ln, lk⟩⟩, ⟨ca, cn, ck⟩, mo⟩), (gk3, 52, Mg.cells ⟨k, fr, too, op, rd, ky, st, hd, ⟨bb, bn, bj⟩, c, ⟨up, ⟨eb, en, ej⟩, ⟨lb, ln, lj⟩⟩, ⟨cb, cn, cj⟩, mo⟩)]) := HF.out.no hk
  clear HB
  have HB := HB'
  clear HB'
  clear HE
  have HE := HE'
  clear HE'
  clear HL
  have HL := HL'
  clear HL'
  clear HCm
  have HCm := HCm'
  clear HCm'
  clear HF
  have HF := HF'
  clear HF'
  clear hk
  refine ⟨.bool true, rfl, ?_⟩
  try simp only [pS]
  refine uK (.bool true) <| WL.nil <| ?_
  try simp only [pS]
  have HF' : Hid (Fq (LB gb ⟨ea, en, ek⟩ ⟨la, ln, lk⟩ ⟨ca, cn, ck⟩) w (wk6) [(gk1, 52, Mg.cells ⟨k, fr, too, op, rd, ky, st, hd, ⟨bb, bn, bj⟩, c, ⟨up, ⟨ea, en, ek⟩, ⟨la, ln, lk⟩⟩, ⟨ca, cn, ck⟩, mo⟩), (gk3, 52, Mg.cells ⟨k, fr, too, op, rd, ky, st, hd, ⟨bb, bn, bj⟩, c, ⟨up, ⟨eb, en, ej⟩, ⟨lb, ln, lj⟩⟩, ⟨cb, cn, cj⟩, mo⟩)]) := ⟨HF.out.kept.of_no, HF.out.box, fun i g T cs hi => .inl ((HF.out.low i g T cs hi).elim id (fun e => e.elim)), HF.out.inj⟩
  clear HF
  have HF := HF'
  clear HF'
  go_upto_region 4 with fail
  refine WL.start <| uK (.int .i64 0) <| WL.nil <| ?_
  try simp only [pS]
  go_wp2
  go_loopw [7] (fun v5 wr => ∃ (i : Nat) (esz : List En), v5 = .int .i64 ((i : Nat) : Int) ∧ i ≤ en ∧ Hid (Blk wr gb (lent zs 5)) ∧ Hid (OwE wr base ⟨ea, en, ek⟩ esz) ∧ Hid (OwL wr base ⟨la, ln, lk⟩ ls) ∧ Hid (OwC wr base ⟨ca, cn, ck⟩ cs) ∧ Hid (Fq (LB gb ⟨ea, en, ek⟩ ⟨la, ln, lk⟩ ⟨ca, cn, ck⟩) w (wr) [(gk1, 52, Mg.cells ⟨k, fr, too, op, rd, ky, st, hd, ⟨bb, bn, bj⟩, c, ⟨up, ⟨ea, en, ek⟩, ⟨la, ln, lk⟩⟩, ⟨ca, cn, ck⟩, mo⟩), (gk3, 52, Mg.cells ⟨k, fr, too, op, rd, ky, st, hd, ⟨bb, bn, bj⟩, c, ⟨up, ⟨eb, en, ej⟩, ⟨lb, ln, lj⟩⟩, ⟨cb, cn, cj⟩, mo⟩)])) (fun i _ => en - (intOf i).toNat)
  case atStart => exact ⟨0, es, by go_num, by omega, HB, HE, HL, HCm, HF⟩
  case round =>
    clear HF HB HE HL HCm
    obtain ⟨i, esz, rfl, hi, HB, HE, HL, HCm, HF⟩ := hrel
    by_cases hlt : i < en
    · skip
      obtain ⟨ge, rfl⟩ : ∃ g, ea = some ⟨g, 0, none⟩ := HE.out.own.sm (by show 0 < en; omega)
      have hTs : True := trivial
      go_upto_region 5 with fail
      refine WL.start <| uK (.int .i64 ((i : Nat) : Int)) <| uK (.pointer (some ⟨gk1, 25, none⟩)) <| uK (.pointer (some ⟨gk1, 26, none⟩)) <| uL 46 ⟨gk1, 26, none⟩ (.slice (some ⟨ge, 0, none⟩) en ek) (load_one ((HF.out.box 0 _ _ _ rfl).cell 26 |>.trans (by kernel_rfl)) U46 rfl) <| uK (.int .i64 ((en : Nat) : Int)) <| uB .lss 3 (.int .i64 ((i : Nat) : Int)) (.int .i64 ((en : Nat) : Int)) (.bool true) (by rw [b_lss, decide_eq_true (by omega)]) <| WL.nil <| ?_
      try simp only [pS]
      go_upto_region 7 with fail
      refine WL.start <| uK (.pointer (some ⟨gk1, 25, none⟩)) <| uK (.pointer (some ⟨gk1, 26, none⟩)) <| uL 46 ⟨gk1, 26, none⟩ (.slice (some ⟨ge, 0, none⟩) en ek) (load_one ((HF.out.box 0 _ _ _ rfl).cell 26 |>.trans (by kernel_rfl)) U46 rfl) <| uK (.int .i64 ((i : Nat) : Int)) <| uW (.agg (En.cells ⟨⟨#[115, 112, 111, 105, 108, 116]⟩, 0, 0, 0⟩)) (exec_build 88 _ rfl (En.cells ⟨⟨#[115, 112, 111, 105, 108, 116]⟩, 0, 0, 0⟩) (by kernel_rfl)) <| uW (.pointer (some ⟨ge, 0 + i * 4, none⟩)) (exec_ixA 46 4 E46 F46 _ _ rfl ge 0 en ek i (by kernel_rfl) (by kernel_rfl) (by omega)) <| ?_
      try simp only [pS]
      obtain ⟨cs', hrun, ho⟩ := Own.setN (ty := 88) (xs := esz.map En.cs) (y := En.cs ⟨⟨#[115, 112, 111, 105, 108, 116]⟩, 0, 0, 0⟩) HE.out.own (enL_c _) (by rw [List.length_map]; exact HE.out.len) (i := i) (g := ge) (by omega) rfl (v := .agg (En.cells ⟨⟨#[115, 112, 111, 105, 108, 116]⟩, 0, 0, 0⟩)) rfl S88 (En.oneL _) rfl
      refine uT 88 ⟨ge, 0 + i * 4, none⟩ (.agg (En.cells ⟨⟨#[115, 112, 111, 105, 108, 116]⟩, 0, 0, 0⟩)) (wr.setRow ge cs') hrun ?_
      try simp only [pS]
      obtain ⟨c0, hb0⟩ := HE.out.own.ty ⟨_, rfl, rfl⟩
      have HB : Hid (Blk (wr.setRow ge cs') gb (lent zs 5)) := ((Kept.setRow _ _ _).block gb (Array.getElem?_eq_some_iff.1 HB.out).1 (fun e => box_ne HB.out hb0 (by decide) e)).trans HB.out
      have HL : Hid (OwL (wr.setRow ge cs') base ⟨la, ln, lk⟩ ls) := ⟨HL.out.own.kept (Kept.setRow _ _ _) (fun k h e => HL.out.own.notBox hb0 (by decide) (e ▸ h)), HL.out.len⟩
      have HCm : Hid (OwC (wr.setRow ge cs') base ⟨ca, cn, ck⟩ cs) := ⟨HCm.out.own.kept (Kept.setRow _ _ _) (fun k h e => HCm.out.own.notBox hb0 (by decide) (e ▸ h)), HCm.out.len⟩
      have HF : Hid (Fq (LB gb ⟨some ⟨ge, 0, none⟩, en, ek⟩ ⟨la, ln, lk⟩ ⟨ca, cn, ck⟩) w ((wr.setRow ge cs')) [(gk1, 52, Mg.cells ⟨k, fr, too, op, rd, ky, st, hd, ⟨bb, bn, bj⟩, c, ⟨up, ⟨some ⟨ge, 0, none⟩, en, ek⟩, ⟨la, ln, lk⟩⟩, ⟨ca, cn, ck⟩, mo⟩), (gk3, 52, Mg.cells ⟨k, fr, too, op, rd, ky, st, hd, ⟨bb, bn, bj⟩, c, ⟨up, ⟨eb, en, ej⟩, ⟨lb, ln, lj⟩⟩, ⟨cb, cn, cj⟩, mo⟩)]) := HF.out.wr hb0 (.inr (.inl ⟨_, rfl, rfl⟩)) (by simp) _
      have HE : Hid (OwE (wr.setRow ge cs') base ⟨some ⟨ge, 0, none⟩, en, ek⟩ (esz.set i ⟨⟨#[115, 112, 111, 105, 108, 116]⟩, 0, 0, 0⟩)) := ⟨by rw [← List.map_set] at ho; exact ho, by rw [List.length_set]; exact HE.out.len⟩
      generalize (wr.setRow ge cs') = wk7 at HF HB HE HL HCm ⊢
      refine WL.nil ?_
      try simp only [pS]
      go_upto_region 6 with fail
      refine WL.start <| uK (.int .i64 ((i : Nat) : Int)) <| uB .add 3 (.int .i64 ((i : Nat) : Int)) (.int .i64 1) (.int .i64 (((i + 1) : Nat) : Int)) (b_addw _ _ _ (by rw [IntKind.wrap_i64]; omega) _) <| uK (.int .i64 (((i + 1) : Nat) : Int)) <| WL.nil <| ?_
      try simp only [pS]
      go_wp2
      go_roundw
      case rel => exact ⟨i + 1, _, by go_num, by omega, HB, HE, HL, HCm, HF⟩
      case measure => simp [intOf]; omega
    · skip
      go_upto_region 5 with fail
      refine WL.start <| uK (.int .i64 ((i : Nat) : Int)) <| uK (.pointer (some ⟨gk1, 25, none⟩)) <| uK (.pointer (some ⟨gk1, 26, none⟩)) <| uL 46 ⟨gk1, 26, none⟩ (.slice ea en ek) (load_one ((HF.out.box 0 _ _ _ rfl).cell 26 |>.trans (by kernel_rfl)) U46 rfl) <| uK (.int .i64 ((en : Nat) : Int)) <| uB .lss 3 (.int .i64 ((i : Nat) : Int)) (.int .i64 ((en : Nat) : Int)) (.bool false) (by rw [b_lss, decide_eq_false (by omega)]) <| WL.nil <| ?_
      try simp only [pS]
      go_upto_region 8 with fail
      refine WL.start <| uK (.int .i64 0) <| WL.nil <| ?_
      try simp only [pS]
      go_wp2
      go_loopw [8] (fun v5 wr => ∃ (i : Nat) (esz : List En) (lsz : List La), v5 = .int .i64 ((i : Nat) : Int) ∧ i ≤ ln ∧ Hid (Blk wr gb (lent zs 5)) ∧ Hid (OwE wr base ⟨ea, en, ek⟩ esz) ∧ Hid (OwL wr base ⟨la, ln, lk⟩ lsz) ∧ Hid (OwC wr base ⟨ca, cn, ck⟩ cs) ∧ Hid (Fq (LB gb ⟨ea, en, ek⟩ ⟨la, ln, lk⟩ ⟨ca, cn, ck⟩) w (wr) [(gk1, 52, Mg.cells ⟨k, fr, too, op, rd, ky, st, hd, ⟨bb, bn, bj⟩, c, ⟨up, ⟨ea, en, ek⟩, ⟨la, ln, lk⟩⟩, ⟨ca, cn, ck⟩, mo⟩), (gk3, 52, Mg.cells ⟨k, fr, too, op, rd, ky, st, hd, ⟨bb, bn, bj⟩, c, ⟨up, ⟨eb, en, ej⟩, ⟨lb, ln, lj⟩⟩, ⟨cb, cn, cj⟩, mo⟩)])) (fun i _ => ln - (intOf i).toNat)
      case atStart => exact ⟨0, esz, ls, by go_num, by omega, HB, HE, HL, HCm, HF⟩
      case round =>
        clear HF HB HE HL HCm
        obtain ⟨i, esz, lsz, rfl, hi, HB, HE, HL, HCm, HF⟩ := hrel
        by_cases hlt : i < ln
        · skip
          obtain ⟨ge, rfl⟩ : ∃ g, la = some ⟨g, 0, none⟩ := HL.out.own.sm (by show 0 < ln; omega)
          have hTs : True := trivial
          go_upto_region 9 with fail
          refine WL.start <| uK (.int .i64 ((i : Nat) : Int)) <| uK (.pointer (some ⟨gk1, 25, none⟩)) <| uK (.pointer (some ⟨gk1, 27, none⟩)) <| uL 47 ⟨gk1, 27, none⟩ (.slice (some ⟨ge, 0, none⟩) ln lk) (load_one ((HF.out.box 0 _ _ _ rfl).cell 27 |>.trans (by kernel_rfl)) U47 rfl) <| uK (.int .i64 ((ln : Nat) : Int)) <| uB .lss 3 (.int .i64 ((i : Nat) : Int)) (.int .i64 ((ln : Nat) : Int)) (.bool true) (by rw [b_lss, decide_eq_true (by omega)]) <| WL.nil <| ?_
          try simp only [pS]
          go_upto_region 11 with fail
          refine WL.start <| uK (.pointer (some ⟨gk1, 25, none⟩)) <| uK (.pointer (some ⟨gk1, 27, none⟩)) <| uL 47 ⟨gk1, 27, none⟩ (.slice (some ⟨ge, 0, none⟩) ln lk) (load_one ((HF.out.box 0 _ _ _ rfl).cell 27 |>.trans (by kernel_rfl)) U47 rfl) <| uK (.int .i64 ((i : Nat) : Int)) <| uW (.agg (La.cells ⟨(-9), 0, 0, 0, 0, 0, 0⟩)) (exec_build 126 _ rfl (La.cells ⟨(-9), 0, 0, 0, 0, 0, 0⟩) (by kernel_rfl)) <| uW (.pointer (some ⟨ge, 0 + i * 7, none⟩)) (exec_ixA 47 7 E47 F47 _ _ rfl ge 0 ln lk i (by kernel_rfl) (by kernel_rfl) (by omega)) <| ?_
          try simp only [pS]
          obtain ⟨cs', hrun, ho⟩ := Own.setN (ty := 126) (xs := lsz.map La.cs) (y := La.cs ⟨(-9), 0, 0, 0, 0, 0, 0⟩) HL.out.own (laL_c _) (by rw [List.length_map]; exact HL.out.len) (i := i) (g := ge) (by omega) rfl (v := .agg (La.cells ⟨(-9), 0, 0, 0, 0, 0, 0⟩)) rfl S126 (La.oneL _) rfl
          refine uT 126 ⟨ge, 0 + i * 7, none⟩ (.agg (La.cells ⟨(-9), 0, 0, 0, 0, 0, 0⟩)) (wr.setRow ge cs') hrun ?_
          try simp only [pS]
          obtain ⟨c0, hb0⟩ := HL.out.own.ty ⟨_, rfl, rfl⟩
          have HB : Hid (Blk (wr.setRow ge cs') gb (lent zs 5)) := ((Kept.setRow _ _ _).block gb (Array.getElem?_eq_some_iff.1 HB.out).1 (fun e => box_ne HB.out hb0 (by decide) e)).trans HB.out
          have HE : Hid (OwE (wr.setRow ge cs') base ⟨ea, en, ek⟩ esz) := ⟨HE.out.own.kept (Kept.setRow _ _ _) (fun k h e => HE.out.own.notBox hb0 (by decide) (e ▸ h)), HE.out.len⟩
          have HCm : Hid (OwC (wr.setRow ge cs') base ⟨ca, cn, ck⟩ cs) := ⟨HCm.out.own.kept (Kept.setRow _ _ _) (fun k h e => HCm.out.own.notBox hb0 (by decide) (e ▸ h)), HCm.out.len⟩
          have HF : Hid (Fq (LB gb ⟨ea, en, ek⟩ ⟨some ⟨ge, 0, none⟩, ln, lk⟩ ⟨ca, cn, ck⟩) w ((wr.setRow ge cs')) [(gk1, 52, Mg.cells ⟨k, fr, too, op, rd, ky, st, hd, ⟨bb, bn, bj⟩, c, ⟨up, ⟨ea, en, ek⟩, ⟨some ⟨ge, 0, none⟩, ln, lk⟩⟩, ⟨ca, cn, ck⟩, mo⟩), (gk3, 52, Mg.cells ⟨k, fr, too, op, rd, ky, st, hd, ⟨bb, bn, bj⟩, c, ⟨up, ⟨eb, en, ej⟩, ⟨lb, ln, lj⟩⟩, ⟨cb, cn, cj⟩, mo⟩)]) := HF.out.wr hb0 (.inr (.inr (.inl ⟨_, rfl, rfl⟩))) (by simp) _
          have HL : Hid (OwL (wr.setRow ge cs') base ⟨some ⟨ge, 0, none⟩, ln, lk⟩ (lsz.set i ⟨(-9), 0, 0, 0, 0, 0, 0⟩)) := ⟨by rw [← List.map_set] at ho; exact ho, by rw [List.length_set]; exact HL.out.len⟩
          generalize (wr.setRow ge cs') = wk8 at HF HB HE HL HCm ⊢
          refine WL.nil ?_
          try simp only [pS]
          go_upto_region 10 with fail
          refine WL.start <| uK (.int .i64 ((i : Nat) : Int)) <| uB .add 3 (.int .i64 ((i : Nat) : Int)) (.int .i64 1) (.int .i64 (((i + 1) : Nat) : Int)) (b_addw _ _ _ (by rw [IntKind.wrap_i64]; omega) _) <| uK (.int .i64 (((i + 1) : Nat) : Int)) <| WL.nil <| ?_
          try simp only [pS]
          go_wp2
          go_roundw
          case rel => exact ⟨i + 1, _, _, by go_num, by omega, HB, HE, HL, HCm, HF⟩
          case measure => simp [intOf]; omega
        · skip
          go_upto_region 9 with fail
          refine WL.start <| uK (.int .i64 ((i : Nat) : Int)) <| uK (.pointer (some ⟨gk1, 25, none⟩)) <| uK (.pointer (some ⟨gk1, 27, none⟩)) <| uL 47 ⟨gk1, 27, none⟩ (.slice la ln lk) (load_one ((HF.out.box 0 _ _ _ rfl).cell 27 |>.trans (by kernel_rfl)) U47 rfl) <| uK (.int .i64 ((ln : Nat) : Int)) <| uB .lss 3 (.int .i64 ((i : Nat) : Int)) (.int .i64 ((ln : Nat) : Int)) (.bool false) (by rw [b_lss, decide_eq_false (by omega)]) <| WL.nil <| ?_
          try simp only [pS]
          go_upto_region 12 with fail
          refine WL.start <| uK (.int .i64 0) <| WL.nil <| ?_
          try simp only [pS]
          go_wp2
          go_loopw [9] (fun v5 wr => ∃ (i : Nat) (esz : List En) (lsz : List La) (csz : List Cm), v5 = .int .i64 ((i : Nat) : Int) ∧ i ≤ cn ∧ Hid (Blk wr gb (lent zs 5)) ∧ Hid (OwE wr base ⟨ea, en, ek⟩ esz) ∧ Hid (OwL wr base ⟨la, ln, lk⟩ lsz) ∧ Hid (OwC wr base ⟨ca, cn, ck⟩ csz) ∧ Hid (Fq (LB gb ⟨ea, en, ek⟩ ⟨la, ln, lk⟩ ⟨ca, cn, ck⟩) w (wr) [(gk1, 52, Mg.cells ⟨k, fr, too, op, rd, ky, st, hd, ⟨bb, bn, bj⟩, c, ⟨up, ⟨ea, en, ek⟩, ⟨la, ln, lk⟩⟩, ⟨ca, cn, ck⟩, mo⟩), (gk3, 52, Mg.cells ⟨k, fr, too, op, rd, ky, st, hd, ⟨bb, bn, bj⟩, c, ⟨up, ⟨eb, en, ej⟩, ⟨lb, ln, lj⟩⟩, ⟨cb, cn, cj⟩, mo⟩)])) (fun i _ => cn - (intOf i).toNat)
          case atStart => exact ⟨0, esz, lsz, cs, by go_num, by omega, HB, HE, HL, HCm, HF⟩
          case round =>
            clear HF HB HE HL HCm
            obtain ⟨i, esz, lsz, csz, rfl, hi, HB, HE, HL, HCm, HF⟩ := hrel
            by_cases hlt : i < cn
            · skip
              obtain ⟨ge, rfl⟩ : ∃ g, ca = some ⟨g, 0, none⟩ := HCm.out.own.sm (by show 0 < cn; omega)
              have hTs : True := trivial
              go_upto_region 13 with fail
              refine WL.start <| uK (.int .i64 ((i : Nat) : Int)) <| uK (.pointer (some ⟨gk1, 28, none⟩)) <| uL 50 ⟨gk1, 28, none⟩ (.slice (some ⟨ge, 0, none⟩) cn ck) (load_one ((HF.out.box 0 _ _ _ rfl).cell 28 |>.trans (by kernel_rfl)) U50 rfl) <| uK (.int .i64 ((cn : Nat) : Int)) <| uB .lss 3 (.int .i64 ((i : Nat) : Int)) (.int .i64 ((cn : Nat) : Int)) (.bool true) (by rw [b_lss, decide_eq_true (by omega)]) <| WL.nil <| ?_
              try simp only [pS]
              go_upto_region 15 with fail
              refine WL.start <| uK (.pointer (some ⟨gk1, 28, none⟩)) <| uL 50 ⟨gk1, 28, none⟩ (.slice (some ⟨ge, 0, none⟩) cn ck) (load_one ((HF.out.box 0 _ _ _ rfl).cell 28 |>.trans (by kernel_rfl)) U50 rfl) <| uK (.int .i64 ((i : Nat) : Int)) <| uW (.agg (Cm.cells ⟨(-9), 0, 0, ⟨#[]⟩, 0, 0, 0, 0, 0⟩)) (exec_build 45 _ rfl (Cm.cells ⟨(-9), 0, 0, ⟨#[]⟩, 0, 0, 0, 0, 0⟩) (by kernel_rfl)) <| uW (.pointer (some ⟨ge, 0 + i * 9, none⟩)) (exec_ixA 50 9 E50 F50 _ _ rfl ge 0 cn ck i (by kernel_rfl) (by kernel_rfl) (by omega)) <| ?_
              try simp only [pS]
              obtain ⟨cs', hrun, ho⟩ := Own.setN (ty := 45) (xs := csz.map Cm.cs) (y := Cm.cs ⟨(-9), 0, 0, ⟨#[]⟩, 0, 0, 0, 0, 0⟩) HCm.out.own (cmL_c _) (by rw [List.length_map]; exact HCm.out.len) (i := i) (g := ge) (by omega) rfl (v := .agg (Cm.cells ⟨(-9), 0, 0, ⟨#[]⟩, 0, 0, 0, 0, 0⟩)) rfl S45 (Cm.oneL _) rfl
              refine uT 45 ⟨ge, 0 + i * 9, none⟩ (.agg (Cm.cells ⟨(-9), 0, 0, ⟨#[]⟩, 0, 0, 0, 0, 0⟩)) (wr.setRow ge cs') hrun ?_
              try simp only [pS]
              obtain ⟨c0, hb0⟩ := HCm.out.own.ty ⟨_, rfl, rfl⟩
              have HB : Hid (Blk (wr.setRow ge cs') gb (lent zs 5)) := ((Kept.setRow _ _ _).block gb (Array.getElem?_eq_some_iff.1 HB.out).1 (fun e => box_ne HB.out hb0 (by decide) e)).trans HB.out
              have HE : Hid (OwE (wr.setRow ge cs') base ⟨ea, en, ek⟩ esz) := ⟨HE.out.own.kept (Kept.setRow _ _ _) (fun k h e => HE.out.own.notBox hb0 (by decide) (e ▸ h)), HE.out.len⟩
              have HL : Hid (OwL (wr.setRow ge cs') base ⟨la, ln, lk⟩ lsz) := ⟨HL.out.own.kept (Kept.setRow _ _ _) (fun k h e => HL.out.own.notBox hb0 (by decide) (e ▸ h)), HL.out.len⟩
              have HF : Hid (Fq (LB gb ⟨ea, en, ek⟩ ⟨la, ln, lk⟩ ⟨some ⟨ge, 0, none⟩, cn, ck⟩) w ((wr.setRow ge cs')) [(gk1, 52, Mg.cells ⟨k, fr, too, op, rd, ky, st, hd, ⟨bb, bn, bj⟩, c, ⟨up, ⟨ea, en, ek⟩, ⟨la, ln, lk⟩⟩, ⟨some ⟨ge, 0, none⟩, cn, ck⟩, mo⟩), (gk3, 52, Mg.cells ⟨k, fr, too, op, rd, ky, st, hd, ⟨bb, bn, bj⟩, c, ⟨up, ⟨eb, en, ej⟩, ⟨lb, ln, lj⟩⟩, ⟨cb, cn, cj⟩, mo⟩)]) := HF.out.wr hb0 (.inr (.inr (.inr ⟨_, rfl, rfl⟩))) (by simp) _
              have HCm : Hid (OwC (wr.setRow ge cs') base ⟨some ⟨ge, 0, none⟩, cn, ck⟩ (csz.set i ⟨(-9), 0, 0, ⟨#[]⟩, 0, 0, 0, 0, 0⟩)) := ⟨by rw [← List.map_set] at ho; exact ho, by rw [List.length_set]; exact HCm.out.len⟩
              generalize (wr.setRow ge cs') = wk9 at HF HB HE HL HCm ⊢
              refine WL.nil ?_
              try simp only [pS]
              go_upto_region 14 with fail
              refine WL.start <| uK (.int .i64 ((i : Nat) : Int)) <| uB .add 3 (.int .i64 ((i : Nat) : Int)) (.int .i64 1) (.int .i64 (((i + 1) : Nat) : Int)) (b_addw _ _ _ (by rw [IntKind.wrap_i64]; omega) _) <| uK (.int .i64 (((i + 1) : Nat) : Int)) <| WL.nil <| ?_
              try simp only [pS]
              go_wp2
              go_roundw
              case rel => exact ⟨i + 1, _, _, _, by go_num, by omega, HB, HE, HL, HCm, HF⟩
              case measure => simp [intOf]; omega
            · skip
              go_upto_region 13 with fail
              refine WL.start <| uK (.int .i64 ((i : Nat) : Int)) <| uK (.pointer (some ⟨gk1, 28, none⟩)) <| uL 50 ⟨gk1, 28, none⟩ (.slice ca cn ck) (load_one ((HF.out.box 0 _ _ _ rfl).cell 28 |>.trans (by kernel_rfl)) U50 rfl) <| uK (.int .i64 ((cn : Nat) : Int)) <| uB .lss 3 (.int .i64 ((i : Nat) : Int)) (.int .i64 ((cn : Nat) : Int)) (.bool false) (by rw [b_lss, decide_eq_false (by omega)]) <| WL.nil <| ?_
              try simp only [pS]
              go_upto_region 16 with fail
              refine WL.start <| uK (.slice (some ⟨gb, 0, none⟩) bn (bn + 5)) <| uK (.pointer (some ⟨gk3, 15, none⟩)) <| uL 25 ⟨gk3, 15, none⟩ (.slice bb bn bj) (load_one ((HF.out.box 1 _ _ _ rfl).cell 15 |>.trans (by kernel_rfl)) U25 rfl) <| ?_
              try simp only [pS]
              refine uC 16 #[.slice (some ⟨gb, 0, none⟩) bn (bn + 5), .slice bb bn bj] (back_l gb bb bj bn zs wr hz (by omega) HB.out (Nums.kept0 HM.out.b.row HF.out.kept (fun hne b off e => HO.out hne b ⟨_, e, rfl⟩))) ?_
              rintro e wk10 ⟨rfl, hk⟩
              have HKf : Hid (Kept (LB gb ⟨ea, en, ek⟩ ⟨la, ln, lk⟩ ⟨ca, cn, ck⟩) w wk10) := HF.out.kept.trans hk (fun _ e => e) (fun k _ e => .inl e)
              clear hk
              refine ⟨.bool true, rfl, ?_⟩
              try simp only [pS]
              refine uK (.bool true) <| uK (.bool true) <| uK (.bool true) <| uK (.bool true) <| WL.nil <| ?_
              try simp only [pS]
              go_wp2
              rw [HC.out]
              exact ⟨rfl, HKf.out⟩
theorem backM {w : World} {m : Mg} {zs : List Int} {es : List En} {ls : List La} {cs : List Cm} {base gb : Nat} {E L C : Sl} (hm : MgIn w m zs es ls cs) (hL : Len w base m zs es ls cs gb E L C) (off : zs ≠ [] → ∀ x, At m.bl.a x → ¬ LB gb E L C x) :
    Calls Try.prog 36 #[.agg (Mg.cells (lenM m gb E L C)), .agg (Mg.cells m)] w (fun e w' => e = .returned (.bool true) ∧ Kept (LB gb E L C) w w') := by
  obtain ⟨k, fr, too, op, rd, ky, st, hd, ⟨ba, bn, bk⟩, c, ⟨up, ⟨ea, en, ek⟩, ⟨la, ln, lk⟩⟩, ⟨ca, cn, ck⟩, mo⟩ := m
  obtain ⟨xa, xn, xk⟩ := E
  obtain ⟨ya, yn, yk⟩ := L
  obtain ⟨za, zn, zk⟩ := C
  have e1 : xn = en := hL.e.len.symm.trans hm.e.len
  have e2 : yn = ln := hL.l.len.symm.trans hm.l.len
  have e3 : zn = cn := hL.c.len.symm.trans hm.c.len
  subst e1 e2 e3
  exact backM0 k op rd up fr too ky st hd c mo gb base ba xa ea ya la za ca bn bk xn xk ek yn yk lk zn zk ck zs es ls cs w hm hL (fun hne x h e => off hne x h (.inl e)) (fun hne x h e => off hne x h (.inr (.inl e))) (fun hne x h e => off hne x h (.inr (.inr (.inl e)))) (fun hne x h e => off hne x h (.inr (.inr (.inr e))))

end Go.Proofs.Ytgiokkcdgoloaaa.Md
