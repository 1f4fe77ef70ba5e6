import Derived.Test.YtpabpeppgpeaoaaRc
namespace Go.Proofs.Ytpabpeppgpeaoaa.Md
open Go.RowKit
set_option linter.unusedVariables false
set_option linter.unusedSimpArgs false

def freshR (x : Rs) : Rs := { x with qa := List.replicate x.zs.length false, qc := List.replicate x.zs.length false, qh := List.replicate x.zs.length spZ, qm := List.replicate x.zs.length cZ, nk := false }
def Jn (J : Nat → Prop) (w : World) : Nat → Prop := fun k => J k ∨ w.heap.size ≤ k
theorem RfB.mk' {J : Nat → Prop} {w w' : World} {r : Nat} {x : Rs} {g : Sl} {ba bc bh bm : Nat} (hf : Fq J w w' [(r, 56, (rvOf x g ba bc bh bm).cells), (ba, 4, (boL x.qa).toArray), (bc, 4, (boL x.qc).toArray), (bh, 39, (spL x.qh).toArray), (bm, 28, (cmL x.qm).toArray)]) (hg : OwI w' 0 g x.zs) (hj : ∀ k, At g.a k → J k) (la : x.qa.length = g.l) (lc : x.qc.length = g.l) (lh : x.qh.length = g.l) (lm : x.qm.length = g.l) (hn : g.l ≤ 2000000) : RfAt w' (Jn J w) r x :=
  ⟨g, ba, bc, bh, bm, hf.again (fun k e => e), hg, fun k e => .inl (hj k e), la, lc, lh, lm, hn⟩
set_option maxRecDepth 100000 in
set_option maxHeartbeats 4000000 in
theorem rFresh_any (J : Nat → Prop) (r : Nat) (x : Rs) (g : Sl) (ba bc bh bm : Nat) (w : World) (hB : RfB w J r x g ba bc bh bm) : Calls Try.prog 36 #[.pointer (some ⟨r, 0, none⟩)] w (fun e w' => e = .returned (.tuple #[]) ∧ RfAt w' (Jn J w) r (freshR x) ∧ Kept J w w') := by
  refine hideC fun C HC => ?_
  have HF : Hid (Fq J w w [(r, 56, Rv.cells (rvOf x g ba bc bh bm)), (ba, 4, (boL (x.qa)).toArray), (bc, 4, (boL (x.qc)).toArray), (bh, 39, (spL (x.qh)).toArray), (bm, 28, (cmL (x.qm)).toArray)]) := hB.fq
  have HG : Hid (OwI w 0 g x.zs) := hB.gr
  have hzl := hB.gr.len
  have hla := hB.la
  have hlc := hB.lc
  have hlh := hB.lh
  have hlm := hB.lm
  have hnn := hB.hn
  have HJ : Hid (∀ k, At g.a k → J k) := hB.gj
  clear hB
  go_enter Try.func36, Try.ntmps36
  go_upto_region 0 with fail
  refine WL.start <| uK (pV r 0) <| uK (pV r 0) <| uK (pV r 0) <| uK (pV r 6) <| uL 24 ⟨r, 6, none⟩ (g.v) (load_one ((HF.out.box 0 _ _ _ rfl).cell 6 |>.trans (by kernel_rfl)) U24 rfl) <| uK (.int .i64 ((g.l : Nat) : Int)) <| ?_
  try simp only [pS]
  refine uR (.slice (some ⟨w.heap.size, 0, none⟩) g.l g.l) (w.alloc (.cells ((boL (List.replicate g.l false)).toArray) 4)) (exec_make 53 _ _ rfl _ _ (by kernel_rfl) (by kernel_rfl) (make_bo _ g.l (by omega))) ?_
  try simp only [pS]
  have HG : Hid (OwI (w.alloc (.cells ((boL (List.replicate g.l false)).toArray) 4)) 0 g x.zs) := HG.out.no ((Kept.refl No _).alloc _)
  have HF : Hid (Fq J w (w.alloc (.cells ((boL (List.replicate g.l false)).toArray) 4)) [(r, 56, Rv.cells (rvOf x g ba bc bh bm)), (ba, 4, (boL (x.qa)).toArray), (bc, 4, (boL (x.qc)).toArray), (bh, 39, (spL (x.qh)).toArray), (bm, 28, (cmL (x.qm)).toArray), (w.heap.size, 4, (boL (List.replicate g.l false)).toArray)]) := HF.out.alloc _ _
  generalize w.alloc (.cells ((boL (List.replicate g.l false)).toArray) 4) = wk2 at HF HG ⊢
  generalize w.heap.size = gk1 at HF ⊢
  refine uK (pV r 0) <| uK (pV r 29) <| ?_
  try simp only [pS]
  refine uT 53 ⟨r, 29, none⟩ (.slice (some ⟨gk1, 0, none⟩) g.l g.l) (wk2.setRow r (Rv.cells (rvOf x g gk1 bc bh bm))) (rs (Rv.cs (rvOf x g ba bc bh bm)) ([.slice (some ⟨gk1, 0, none⟩) g.l g.l]) (Rv.cs (rvOf x g gk1 bc bh bm)) (HF.out.box 0 _ _ _ rfl) S53 (by simp [Value.oneCell', Sl.v])) ?_
  try simp only [pS]
  have HG : Hid (OwI (wk2.setRow r (Rv.cells (rvOf x g gk1 bc bh bm))) 0 g x.zs) := HG.out.kept (Kept.setRow _ _ _) (fun k h e => (HG.out.own.notBox (HF.out.box 0 _ _ _ rfl) (by decide)) ((show k = r from e) ▸ h))
  have HF : Hid (Fq J w (wk2.setRow r (Rv.cells (rvOf x g gk1 bc bh bm))) [(r, 56, Rv.cells (rvOf x g gk1 bc bh bm)), (ba, 4, (boL (x.qa)).toArray), (bc, 4, (boL (x.qc)).toArray), (bh, 39, (spL (x.qh)).toArray), (bm, 28, (cmL (x.qm)).toArray), (gk1, 4, (boL (List.replicate g.l false)).toArray)]) := HF.out.set 0 rfl _
  generalize wk2.setRow r (Rv.cells (rvOf x g gk1 bc bh bm)) = wk3 at HF HG ⊢
  refine WL.nil ?_
  try simp only [pS]
  go_upto_region 1 with fail
  refine WL.start <| uK (pV r 0) <| uK (pV r 0) <| uK (pV r 0) <| uK (pV r 6) <| uL 24 ⟨r, 6, none⟩ (g.v) (load_one ((HF.out.box 0 _ _ _ rfl).cell 6 |>.trans (by kernel_rfl)) U24 rfl) <| uK (.int .i64 ((g.l : Nat) : Int)) <| ?_
  try simp only [pS]
  refine uR (.slice (some ⟨wk3.heap.size, 0, none⟩) g.l g.l) (wk3.alloc (.cells ((boL (List.replicate g.l false)).toArray) 4)) (exec_make 53 _ _ rfl _ _ (by kernel_rfl) (by kernel_rfl) (make_bo _ g.l (by omega))) ?_
  try simp only [pS]
  have HG : Hid (OwI (wk3.alloc (.cells ((boL (List.replicate g.l false)).toArray) 4)) 0 g x.zs) := HG.out.no ((Kept.refl No _).alloc _)
  have HF : Hid (Fq J w (wk3.alloc (.cells ((boL (List.replicate g.l false)).toArray) 4)) [(r, 56, Rv.cells (rvOf x g gk1 bc bh bm)), (ba, 4, (boL (x.qa)).toArray), (bc, 4, (boL (x.qc)).toArray), (bh, 39, (spL (x.qh)).toArray), (bm, 28, (cmL (x.qm)).toArray), (gk1, 4, (boL (List.replicate g.l false)).toArray), (wk3.heap.size, 4, (boL (List.replicate g.l false)).toArray)]) := HF.out.alloc _ _
  generalize wk3.alloc (.cells ((boL (List.replicate g.l false)).toArray) 4) = wk5 at HF HG ⊢
  generalize wk3.heap.size = gk4 at HF ⊢
  refine uK (pV r 0) <| uK (pV r 30) <| ?_
  try simp only [pS]
  refine uT 53 ⟨r, 30, none⟩ (.slice (some ⟨gk4, 0, none⟩) g.l g.l) (wk5.setRow r (Rv.cells (rvOf x g gk1 gk4 bh bm))) (rs (Rv.cs (rvOf x g gk1 bc bh bm)) ([.slice (some ⟨gk4, 0, none⟩) g.l g.l]) (Rv.cs (rvOf x g gk1 gk4 bh bm)) (HF.out.box 0 _ _ _ rfl) S53 (by simp [Value.oneCell', Sl.v])) ?_
  try simp only [pS]
  have HG : Hid (OwI (wk5.setRow r (Rv.cells (rvOf x g gk1 gk4 bh bm))) 0 g x.zs) := HG.out.kept (Kept.setRow _ _ _) (fun k h e => (HG.out.own.notBox (HF.out.box 0 _ _ _ rfl) (by decide)) ((show k = r from e) ▸ h))
  have HF : Hid (Fq J w (wk5.setRow r (Rv.cells (rvOf x g gk1 gk4 bh bm))) [(r, 56, Rv.cells (rvOf x g gk1 gk4 bh bm)), (ba, 4, (boL (x.qa)).toArray), (bc, 4, (boL (x.qc)).toArray), (bh, 39, (spL (x.qh)).toArray), (bm, 28, (cmL (x.qm)).toArray), (gk1, 4, (boL (List.replicate g.l false)).toArray), (gk4, 4, (boL (List.replicate g.l false)).toArray)]) := HF.out.set 0 rfl _
  generalize wk5.setRow r (Rv.cells (rvOf x g gk1 gk4 bh bm)) = wk6 at HF HG ⊢
  refine WL.nil ?_
  try simp only [pS]
  go_upto_region 2 with fail
  refine WL.start <| uK (pV r 0) <| uK (pV r 0) <| uK (pV r 0) <| uK (pV r 6) <| uL 24 ⟨r, 6, none⟩ (g.v) (load_one ((HF.out.box 0 _ _ _ rfl).cell 6 |>.trans (by kernel_rfl)) U24 rfl) <| uK (.int .i64 ((g.l : Nat) : Int)) <| ?_
  try simp only [pS]
  refine uR (.slice (some ⟨wk6.heap.size, 0, none⟩) g.l g.l) (wk6.alloc (.cells ((spL (List.replicate g.l spZ)).toArray) 39)) (exec_make 54 _ _ rfl _ _ (by kernel_rfl) (by kernel_rfl) (make_sp _ g.l (by omega))) ?_
  try simp only [pS]
  have HG : Hid (OwI (wk6.alloc (.cells ((spL (List.replicate g.l spZ)).toArray) 39)) 0 g x.zs) := HG.out.no ((Kept.refl No _).alloc _)
  have HF : Hid (Fq J w (wk6.alloc (.cells ((spL (List.replicate g.l spZ)).toArray) 39)) [(r, 56, Rv.cells (rvOf x g gk1 gk4 bh bm)), (ba, 4, (boL (x.qa)).toArray), (bc, 4, (boL (x.qc)).toArray), (bh, 39, (spL (x.qh)).toArray), (bm, 28, (cmL (x.qm)).toArray), (gk1, 4, (boL (List.replicate g.l false)).toArray), (gk4, 4, (boL (List.replicate g.l false)).toArray), (wk6.heap.size, 39, (spL (List.replicate g.l spZ)).toArray)]) := HF.out.alloc _ _
  generalize wk6.alloc (.cells ((spL (List.replicate g.l spZ)).toArray) 39) = wk8 at HF HG ⊢
  generalize wk6.heap.size = gk7 at HF ⊢
  refine uK (pV r 0) <| uK (pV r 31) <| ?_
  try simp only [pS]
  refine uT 54 ⟨r, 31, none⟩ (.slice (some ⟨gk7, 0, none⟩) g.l g.l) (wk8.setRow r (Rv.cells (rvOf x g gk1 gk4 gk7 bm))) (rs (Rv.cs (rvOf x g gk1 gk4 bh bm)) ([.slice (some ⟨gk7, 0, none⟩) g.l g.l]) (Rv.cs (rvOf x g gk1 gk4 gk7 bm)) (HF.out.box 0 _ _ _ rfl) S54 (by simp [Value.oneCell', Sl.v])) ?_
  try simp only [pS]
  have HG : Hid (OwI (wk8.setRow r (Rv.cells (rvOf x g gk1 gk4 gk7 bm))) 0 g x.zs) := HG.out.kept (Kept.setRow _ _ _) (fun k h e => (HG.out.own.notBox (HF.out.box 0 _ _ _ rfl) (by decide)) ((show k = r from e) ▸ h))
  have HF : Hid (Fq J w (wk8.setRow r (Rv.cells (rvOf x g gk1 gk4 gk7 bm))) [(r, 56, Rv.cells (rvOf x g gk1 gk4 gk7 bm)), (ba, 4, (boL (x.qa)).toArray), (bc, 4, (boL (x.qc)).toArray), (bh, 39, (spL (x.qh)).toArray), (bm, 28, (cmL (x.qm)).toArray), (gk1, 4, (boL (List.replicate g.l false)).toArray), (gk4, 4, (boL (List.replicate g.l false)).toArray), (gk7, 39, (spL (List.replicate g.l spZ)).toArray)]) := HF.out.set 0 rfl _
  generalize wk8.setRow r (Rv.cells (rvOf x g gk1 gk4 gk7 bm)) = wk9 at HF HG ⊢
  refine WL.nil ?_
  try simp only [pS]
  go_upto_region 3 with fail
  refine WL.start <| uK (pV r 0) <| uK (pV r 0) <| uK (pV r 0) <| uK (pV r 6) <| uL 24 ⟨r, 6, none⟩ (g.v) (load_one ((HF.out.box 0 _ _ _ rfl).cell 6 |>.trans (by kernel_rfl)) U24 rfl) <| uK (.int .i64 ((g.l : Nat) : Int)) <| ?_
  try simp only [pS]
  refine uR (.slice (some ⟨wk9.heap.size, 0, none⟩) g.l g.l) (wk9.alloc (.cells ((cmL (List.replicate g.l cZ)).toArray) 28)) (exec_make 45 _ _ rfl _ _ (by kernel_rfl) (by kernel_rfl) (make_cm _ g.l (by omega))) ?_
  try simp only [pS]
  have HG : Hid (OwI (wk9.alloc (.cells ((cmL (List.replicate g.l cZ)).toArray) 28)) 0 g x.zs) := HG.out.no ((Kept.refl No _).alloc _)
  have HF : Hid (Fq J w (wk9.alloc (.cells ((cmL (List.replicate g.l cZ)).toArray) 28)) [(r, 56, Rv.cells (rvOf x g gk1 gk4 gk7 bm)), (ba, 4, (boL (x.qa)).toArray), (bc, 4, (boL (x.qc)).toArray), (bh, 39, (spL (x.qh)).toArray), (bm, 28, (cmL (x.qm)).toArray), (gk1, 4, (boL (List.replicate g.l false)).toArray), (gk4, 4, (boL (List.replicate g.l false)).toArray), (gk7, 39, (spL (List.replicate g.l spZ)).toArray), (wk9.heap.size, 28, (cmL (List.replicate g.l cZ)).toArray)]) := HF.out.alloc _ _
  generalize wk9.alloc (.cells ((cmL (List.replicate g.l cZ)).toArray) 28) = wk11 at HF HG ⊢
  generalize wk9.heap.size = gk10 at HF ⊢
  refine uK (pV r 0) <| uK (pV r 32) <| ?_
  try simp only [pS]
  refine uT 45 ⟨r, 32, none⟩ (.slice (some ⟨gk10, 0, none⟩) g.l g.l) (wk11.setRow r (Rv.cells (rvOf x g gk1 gk4 gk7 gk10))) (rs (Rv.cs (rvOf x g gk1 gk4 gk7 bm)) ([.slice (some ⟨gk10, 0, none⟩) g.l g.l]) (Rv.cs (rvOf x g gk1 gk4 gk7 gk10)) (HF.out.box 0 _ _ _ rfl) S45 (by simp [Value.oneCell', Sl.v])) ?_
  try simp only [pS]
  have HG : Hid (OwI (wk11.setRow r (Rv.cells (rvOf x g gk1 gk4 gk7 gk10))) 0 g x.zs) := HG.out.kept (Kept.setRow _ _ _) (fun k h e => (HG.out.own.notBox (HF.out.box 0 _ _ _ rfl) (by decide)) ((show k = r from e) ▸ h))
  have HF : Hid (Fq J w (wk11.setRow r (Rv.cells (rvOf x g gk1 gk4 gk7 gk10))) [(r, 56, Rv.cells (rvOf x g gk1 gk4 gk7 gk10)), (ba, 4, (boL (x.qa)).toArray), (bc, 4, (boL (x.qc)).toArray), (bh, 39, (spL (x.qh)).toArray), (bm, 28, (cmL (x.qm)).toArray), (gk1, 4, (boL (List.replicate g.l false)).toArray), (gk4, 4, (boL (List.replicate g.l false)).toArray), (gk7, 39, (spL (List.replicate g.l spZ)).toArray), (gk10, 28, (cmL (List.replicate g.l cZ)).toArray)]) := HF.out.set 0 rfl _
  generalize wk11.setRow r (Rv.cells (rvOf x g gk1 gk4 gk7 gk10)) = wk12 at HF HG ⊢
  refine WL.nil ?_
  try simp only [pS]
  go_upto_region 4 with fail
  refine WL.start <| uK (pV r 0) <| uK (pV r 0) <| uK (pV r 33) <| ?_
  try simp only [pS]
  refine uT 4 ⟨r, 33, none⟩ (.bool false) (wk12.setRow r (Rv.cells (rvOf {x with nk := false} g gk1 gk4 gk7 gk10))) (rs (Rv.cs (rvOf x g gk1 gk4 gk7 gk10)) ([.bool false]) (Rv.cs (rvOf {x with nk := false} g gk1 gk4 gk7 gk10)) (HF.out.box 0 _ _ _ rfl) S4 (by simp [Value.oneCell', Sl.v])) ?_
  try simp only [pS]
  have HG : Hid (OwI (wk12.setRow r (Rv.cells (rvOf {x with nk := false} g gk1 gk4 gk7 gk10))) 0 g x.zs) := HG.out.kept (Kept.setRow _ _ _) (fun k h e => (HG.out.own.notBox (HF.out.box 0 _ _ _ rfl) (by decide)) ((show k = r from e) ▸ h))
  have HF : Hid (Fq J w (wk12.setRow r (Rv.cells (rvOf {x with nk := false} g gk1 gk4 gk7 gk10))) [(r, 56, Rv.cells (rvOf {x with nk := false} g gk1 gk4 gk7 gk10)), (ba, 4, (boL (x.qa)).toArray), (bc, 4, (boL (x.qc)).toArray), (bh, 39, (spL (x.qh)).toArray), (bm, 28, (cmL (x.qm)).toArray), (gk1, 4, (boL (List.replicate g.l false)).toArray), (gk4, 4, (boL (List.replicate g.l false)).toArray), (gk7, 39, (spL (List.replicate g.l spZ)).toArray), (gk10, 28, (cmL (List.replicate g.l cZ)).toArray)]) := HF.out.set 0 rfl _
  generalize wk12.setRow r (Rv.cells (rvOf {x with nk := false} g gk1 gk4 gk7 gk10)) = wk13 at HF HG ⊢
  refine WL.nil ?_
  try simp only [pS]
  go_wp2
  rw [HC.out]
  have hz : x.zs.length = g.l := hzl
  refine bodyPost_end (v := .tuple #[]) (by kernel_rfl) rfl ⟨rfl, RfB.mk' (x := freshR x) (g := g) (ba := gk1) (bc := gk4) (bh := gk7) (bm := gk10) ?_ HG.out HJ.out (by simp [freshR, hz]) (by simp [freshR, hz]) (by simp [freshR, hz]) (by simp [freshR, hz]) hnn, HF.out.kept⟩
  have hS := HF.out.sub (l' := [(r, 56, (rvOf (freshR x) g gk1 gk4 gk7 gk10).cells), (gk1, 4, (boL (List.replicate g.l false)).toArray), (gk4, 4, (boL (List.replicate g.l false)).toArray), (gk7, 39, (spL (List.replicate g.l spZ)).toArray), (gk10, 28, (cmL (List.replicate g.l cZ)).toArray)]) (fun i => if i = 0 then 0 else i + 4) (fun i y hy => by
    match i, hy with
    | 0, hy => exact hy
    | 1, hy => exact hy
    | 2, hy => exact hy
    | 3, hy => exact hy
    | 4, hy => exact hy) (fun i j hi hj e => by
    try dsimp only at e
    split at e <;> split at e <;> omega)
  have e1 : (freshR x).qa = List.replicate g.l false := by simp [freshR, hz]
  have e2 : (freshR x).qc = List.replicate g.l false := by simp [freshR, hz]
  have e3 : (freshR x).qh = List.replicate g.l spZ := by simp [freshR, hz]
  have e4 : (freshR x).qm = List.replicate g.l cZ := by simp [freshR, hz]
  rw [e1, e2, e3, e4]
  exact hS
def cntB (l : List Bool) : Nat := l.countP (fun b => b)
theorem cnt_take {l : List Bool} {i : Nat} {b : Bool} (h : l[i]? = some b) : cntB (l.take (i + 1)) = cntB (l.take i) + (if b then 1 else 0) := by
  unfold cntB
  rw [List.take_add_one, h, List.countP_append]
  cases b <;> simp
theorem at_b {l : List Bool} {i n : Nat} (hl : l.length = n) (h : i < n) : ∃ b, l[i]? = some b := ⟨l[i], List.getElem?_eq_getElem _⟩
set_option maxRecDepth 100000 in
set_option maxHeartbeats 4000000 in
theorem rCount_any (J : Nat → Prop) (r : Nat) (x : Rs) (g : Sl) (ba bc bh bm : Nat) (w : World) (hB : RfB w J r x g ba bc bh bm) : Calls Try.prog 64 #[.pointer (some ⟨r, 0, none⟩)] w (fun e w' => e = .returned (.int .i64 (cntB x.qc : Nat)) ∧ Kept No w w') := by
  refine hideC fun C HC => ?_
  have HBr : Hid (Box w r 56 (rvOf x g ba bc bh bm).cells) := hB.fq.box 0 _ _ _ rfl
  have HBa : Hid (Box w ba 4 (boL x.qa).toArray) := hB.fq.box 1 _ _ _ rfl
  have HBc : Hid (Box w bc 4 (boL x.qc).toArray) := hB.fq.box 2 _ _ _ rfl
  have HBh : Hid (Box w bh 39 (spL x.qh).toArray) := hB.fq.box 3 _ _ _ rfl
  have HBm : Hid (Box w bm 28 (cmL x.qm).toArray) := hB.fq.box 4 _ _ _ rfl
  have HG : Hid (OwI w 0 g x.zs) := hB.gr
  have hzl := hB.gr.len
  have hla := hB.la
  have hlc := hB.lc
  have hlh := hB.lh
  have hlm := hB.lm
  have hnn := hB.hn
  have HF : Hid (Fq No w w []) := Fq.start _ _
  have HB : Hid (RfB w J r x g ba bc bh bm) := hB
  clear hB
  go_enter Try.func64, Try.ntmps64
  go_upto_region 0 with fail
  refine WL.start <| uK (.int .i64 0) <| WL.nil <| ?_
  try simp only [pS]
  go_upto_region 1 with fail
  refine WL.start <| uK (.int .i64 0) <| WL.nil <| ?_
  try simp only [pS]
  go_upto_region 2 with fail
  refine WL.start <| uK (.int .i64 0) <| WL.nil <| ?_
  try simp only [pS]
  go_wp2
  go_loopw [3, 4] (fun v3 v4 wr => ∃ (i c : Nat), v3 = .int .i64 ((c : Nat) : Int) ∧ v4 = .int .i64 ((i : Nat) : Int) ∧ i ≤ g.l ∧ c ≤ i ∧ Hid (c = cntB (x.qc.take i)) ∧ Hid (Fq No w wr [])) (fun _ i _ => g.l - (intOf i).toNat)
  case atStart => exact ⟨0, 0, by go_num, by go_num, by omega, by omega, show 0 = cntB (x.qc.take 0) from rfl, HF⟩
  case round =>
    clear HF
    obtain ⟨i, c, rfl, rfl, hi, hci, HP, HF⟩ := hrel
    by_cases hlt : i < g.l
    · skip
      obtain ⟨bb, hbb⟩ := at_b hlc hlt
      have hct := cnt_take hbb
      cases bb
      ·skip
       go_upto_region 3 with fail
       refine WL.start <| uK (.int .i64 ((i : Nat) : Int)) <| uK (pV r 0) <| uK (pV r 0) <| uK (pV r 30) <| uL 53 ⟨r, 30, none⟩ (.slice (some ⟨bc, 0, none⟩) g.l g.l) (load_one ((HBr.out.kept HF.out.kept (fun e => e)).cell 30 |>.trans (by kernel_rfl)) U53 rfl) <| uK (.int .i64 ((g.l : Nat) : Int)) <| uB .lss 3 (.int .i64 ((i : Nat) : Int)) (.int .i64 ((g.l : Nat) : Int)) (.bool true) (by rw [b_lss, decide_eq_true (by omega)]) <| WL.nil <| ?_
       try simp only [pS]
       go_upto_region 5 with fail
       refine WL.start <| uK (pV r 0) <| uK (pV r 0) <| uK (pV r 30) <| uL 53 ⟨r, 30, none⟩ (.slice (some ⟨bc, 0, none⟩) g.l g.l) (load_one ((HBr.out.kept HF.out.kept (fun e => e)).cell 30 |>.trans (by kernel_rfl)) U53 rfl) <| uK (.int .i64 ((i : Nat) : Int)) <| uW (pV bc (0 + i * 1)) (exec_ixA 53 1 E53 F53 _ _ rfl bc 0 g.l g.l i (by kernel_rfl) (by kernel_rfl) (by omega)) <| uL 4 ⟨bc, 0 + i * 1, none⟩ (.bool false) (ld_bo (HBc.out.kept HF.out.kept (fun e => e)) (by rw [hbb])) <| WL.nil <| ?_
       try simp only [pS]
       go_upto_region 4 with fail
       refine WL.start <| uK (.int .i64 ((i : Nat) : Int)) <| uB .add 3 (.int .i64 ((i : Nat) : Int)) (.int .i64 1) (.int .i64 (((i + 1) : Nat) : Int)) (b_addw _ _ _ (by rw [IntKind.wrap_i64]; omega) _) <| uK (.int .i64 (((i + 1) : Nat) : Int)) <| WL.nil <| ?_
       try simp only [pS]
       go_wp2
       go_roundw
       case rel => exact ⟨i + 1, c, by go_num, by go_num, by omega, by omega, show _ = _ by rw [hct, ← HP.out]; rfl, HF⟩
       case measure => simp [intOf]; omega
      ·skip
       go_upto_region 3 with fail
       refine WL.start <| uK (.int .i64 ((i : Nat) : Int)) <| uK (pV r 0) <| uK (pV r 0) <| uK (pV r 30) <| uL 53 ⟨r, 30, none⟩ (.slice (some ⟨bc, 0, none⟩) g.l g.l) (load_one ((HBr.out.kept HF.out.kept (fun e => e)).cell 30 |>.trans (by kernel_rfl)) U53 rfl) <| uK (.int .i64 ((g.l : Nat) : Int)) <| uB .lss 3 (.int .i64 ((i : Nat) : Int)) (.int .i64 ((g.l : Nat) : Int)) (.bool true) (by rw [b_lss, decide_eq_true (by omega)]) <| WL.nil <| ?_
       try simp only [pS]
       go_upto_region 5 with fail
       refine WL.start <| uK (pV r 0) <| uK (pV r 0) <| uK (pV r 30) <| uL 53 ⟨r, 30, none⟩ (.slice (some ⟨bc, 0, none⟩) g.l g.l) (load_one ((HBr.out.kept HF.out.kept (fun e => e)).cell 30 |>.trans (by kernel_rfl)) U53 rfl) <| uK (.int .i64 ((i : Nat) : Int)) <| uW (pV bc (0 + i * 1)) (exec_ixA 53 1 E53 F53 _ _ rfl bc 0 g.l g.l i (by kernel_rfl) (by kernel_rfl) (by omega)) <| uL 4 ⟨bc, 0 + i * 1, none⟩ (.bool true) (ld_bo (HBc.out.kept HF.out.kept (fun e => e)) (by rw [hbb])) <| WL.nil <| ?_
       try simp only [pS]
       go_upto_region 6 with fail
       refine WL.start <| uK (.int .i64 ((c : Nat) : Int)) <| uB .add 3 (.int .i64 ((c : Nat) : Int)) (.int .i64 1) (.int .i64 (((c + 1) : Nat) : Int)) (b_addw _ _ _ (by rw [IntKind.wrap_i64]; omega) _) <| uK (.int .i64 (((c + 1) : Nat) : Int)) <| WL.nil <| ?_
       try simp only [pS]
       go_upto_region 4 with fail
       refine WL.start <| uK (.int .i64 ((i : Nat) : Int)) <| uB .add 3 (.int .i64 ((i : Nat) : Int)) (.int .i64 1) (.int .i64 (((i + 1) : Nat) : Int)) (b_addw _ _ _ (by rw [IntKind.wrap_i64]; omega) _) <| uK (.int .i64 (((i + 1) : Nat) : Int)) <| WL.nil <| ?_
       try simp only [pS]
       go_wp2
       go_roundw
       case rel => exact ⟨i + 1, c + 1, by go_num, by go_num, by omega, by omega, show _ = _ by rw [hct, ← HP.out]; rfl, HF⟩
       case measure => simp [intOf]; omega
    · skip
      go_upto_region 3 with fail
      refine WL.start <| uK (.int .i64 ((i : Nat) : Int)) <| uK (pV r 0) <| uK (pV r 0) <| uK (pV r 30) <| uL 53 ⟨r, 30, none⟩ (.slice (some ⟨bc, 0, none⟩) g.l g.l) (load_one ((HBr.out.kept HF.out.kept (fun e => e)).cell 30 |>.trans (by kernel_rfl)) U53 rfl) <| uK (.int .i64 ((g.l : Nat) : Int)) <| uB .lss 3 (.int .i64 ((i : Nat) : Int)) (.int .i64 ((g.l : Nat) : Int)) (.bool false) (by rw [b_lss, decide_eq_false (by omega)]) <| WL.nil <| ?_
      try simp only [pS]
      go_upto_region 7 with fail
      refine WL.start <| uK (.int .i64 ((c : Nat) : Int)) <| uK (.int .i64 ((c : Nat) : Int)) <| WL.nil <| ?_
      try simp only [pS]
      go_wp2
      rw [HC.out]
      exact ⟨ret_i' (by rw [HP.out, List.take_of_length_le (by omega)]), HF.out.kept⟩
def msgR (x : Rs) (z : Int) : Mg := ⟨if x.ph == 2 then 4 else 3, ⟨true, x.cl⟩, ⟨false, z⟩, x.op, x.rd, x.ky, ⟨x.n, x.cl⟩, spZ, slZ, if x.ph == 2 then x.ch else cZ, bvZ, slZ, false⟩
set_option maxRecDepth 100000 in
set_option maxHeartbeats 4000000 in
theorem rMessage_any (J : Nat → Prop) (r : Nat) (x : Rs) (g : Sl) (ba bc bh bm : Nat) (z : Int) (w : World) (hB : RfB w J r x g ba bc bh bm) : Calls Try.prog 85 #[.pointer (some ⟨r, 0, none⟩), .int .i64 z] w (fun e w' => e = .returned (.agg (Mg.cells (msgR x z))) ∧ Kept No w w') := by
  refine hideC fun C HC => ?_
  have HBr : Hid (Box w r 56 (rvOf x g ba bc bh bm).cells) := hB.fq.box 0 _ _ _ rfl
  have HBa : Hid (Box w ba 4 (boL x.qa).toArray) := hB.fq.box 1 _ _ _ rfl
  have HBc : Hid (Box w bc 4 (boL x.qc).toArray) := hB.fq.box 2 _ _ _ rfl
  have HBh : Hid (Box w bh 39 (spL x.qh).toArray) := hB.fq.box 3 _ _ _ rfl
  have HBm : Hid (Box w bm 28 (cmL x.qm).toArray) := hB.fq.box 4 _ _ _ rfl
  have HG : Hid (OwI w 0 g x.zs) := hB.gr
  have hzl := hB.gr.len
  have hla := hB.la
  have hlc := hB.lc
  have hlh := hB.lh
  have hlm := hB.lm
  have hnn := hB.hn
  have HF : Hid (Fq No w w []) := Fq.start _ _
  have HB : Hid (RfB w J r x g ba bc bh bm) := hB
  clear hB
  go_enter Try.func85, Try.ntmps85
  go_upto_region 0 with fail
  refine WL.start ?_
  refine uR (pV w.heap.size 0) (w.alloc (.cells (Mg.cells mgZ) 47)) (exec_alloc 47 rfl (Mg.cells mgZ) Z47) ?_
  try simp only [pS]
  have HF : Hid (Fq No w (w.alloc (.cells (Mg.cells mgZ) 47)) [(w.heap.size, 47, Mg.cells mgZ)]) := HF.out.alloc _ _
  generalize w.alloc (.cells (Mg.cells mgZ) 47) = wk2 at HF ⊢
  generalize w.heap.size = gk1 at HF ⊢
  refine WL.nil ?_
  try simp only [pS]
  go_upto_region 1 with fail
  refine wp_region_held_drew (S := fun w' => Fq No w w' [(gk1, 47, Mg.cells mgZ)]) rfl (HF.out.drew) (fun hH => ?_)
  have HF : Hid (Fq No w (wk2.drew) [(gk1, 47, Mg.cells mgZ)]) := HF.out.drew
  generalize wk2.drew = wk3 at HF hH ⊢
  refine xV 0 6 (pV r 0) hH <| xV 1 7 (pV r 0) hH <| xV 2 8 (pV r 0) hH <| xL 3 9 3 ⟨r, 0, none⟩ (.int .i64 x.cl) (fun _ hw => load_one ((HBr.out.kept hw.kept (fun e => e)).cell 0 |>.trans (by kernel_rfl)) U3 rfl) hH <| xU 4 10 (.agg (Ad.cells ⟨true, x.cl⟩)) (fun w' hw => exec_build 37 _ rfl (Ad.cells ⟨true, x.cl⟩) (by kernel_rfl)) hH <| xV 5 11 (.int .i64 z) hH <| ?_
  try simp only [pS]
  refine xU 6 12 (.agg (Ad.cells ⟨false, z⟩)) (fun w' hw => exec_build 37 _ rfl (Ad.cells ⟨false, z⟩) (by kernel_rfl)) hH <| xV 7 13 (pV r 0) hH <| xV 8 14 (pV r 0) hH <| xV 9 15 (pV r 1) hH <| xL 10 16 3 ⟨r, 1, none⟩ (.int .i64 x.op) (fun _ hw => load_one ((HBr.out.kept hw.kept (fun e => e)).cell 1 |>.trans (by kernel_rfl)) U3 rfl) hH <| xV 11 17 (pV r 0) hH <| ?_
  try simp only [pS]
  refine xV 12 18 (pV r 0) hH <| xV 13 19 (pV r 26) hH <| xL 14 20 3 ⟨r, 26, none⟩ (.int .i64 x.rd) (fun _ hw => load_one ((HBr.out.kept hw.kept (fun e => e)).cell 26 |>.trans (by kernel_rfl)) U3 rfl) hH <| xV 15 21 (pV r 0) hH <| xV 16 22 (pV r 0) hH <| xV 17 23 (pV r 2) hH <| ?_
  try simp only [pS]
  refine xL 18 24 23 ⟨r, 2, none⟩ (.agg (Ky.cells x.ky)) (fun _ hw => run_load_part (cs := Rv.cs (rvOf x g ba bc bh bm)) (sub := Ky.cs x.ky) (HBr.out.kept hw.kept (fun e => e)) (part_of (by kernel_rfl)) U23 rfl S23) hH <| xV 19 25 (pV r 0) hH <| xV 20 26 (pV r 0) hH <| xV 21 27 (pV r 25) hH <| xL 22 28 3 ⟨r, 25, none⟩ (.int .i64 x.n) (fun _ hw => load_one ((HBr.out.kept hw.kept (fun e => e)).cell 25 |>.trans (by kernel_rfl)) U3 rfl) hH <| xV 23 29 (pV r 0) hH <| ?_
  try simp only [pS]
  refine xV 24 30 (pV r 0) hH <| xV 25 31 (pV r 0) hH <| xL 26 32 3 ⟨r, 0, none⟩ (.int .i64 x.cl) (fun _ hw => load_one ((HBr.out.kept hw.kept (fun e => e)).cell 0 |>.trans (by kernel_rfl)) U3 rfl) hH <| xU 27 33 (.agg (Sp.cells ⟨x.n, x.cl⟩)) (fun w' hw => exec_build 39 _ rfl (Sp.cells ⟨x.n, x.cl⟩) (by kernel_rfl)) hH <| xU 28 34 (.agg (Mg.cells ⟨3, ⟨true, x.cl⟩, ⟨false, z⟩, x.op, x.rd, x.ky, ⟨x.n, x.cl⟩, spZ, slZ, cZ, bvZ, slZ, false⟩)) (fun w' hw => exec_build 47 _ rfl (Mg.cells ⟨3, ⟨true, x.cl⟩, ⟨false, z⟩, x.op, x.rd, x.ky, ⟨x.n, x.cl⟩, spZ, slZ, cZ, bvZ, slZ, false⟩) (by kernel_rfl)) hH <| ?_
  try simp only [pS]
  refine any_step (i := 29) (o := { dst := some 5, op := Op.alloc 47, type := 0, pos := "ref.go:53", after := #[], guard := none }) rfl (by kernel_rfl) (by kernel_rfl) (exec_alloc 47 rfl (Mg.cells mgZ) Z47) (Fq.front (l := [(gk1, 47, Mg.cells mgZ)]) (m := [_]) (hH.alloc _ _)) (fun hH => ?_)
  try simp only [pS]
  have HF : Hid (Fq No w (wk3.alloc (.cells (Mg.cells mgZ) 47)) [(gk1, 47, Mg.cells mgZ), (wk3.heap.size, 47, Mg.cells mgZ)]) := HF.out.alloc _ _
  generalize wk3.alloc (.cells (Mg.cells mgZ) 47) = wk5 at HF hH ⊢
  generalize wk3.heap.size = gk4 at HF ⊢
  refine xS 30 47 ⟨gk4, 0, none⟩ (.agg (Mg.cells ⟨3, ⟨true, x.cl⟩, ⟨false, z⟩, x.op, x.rd, x.ky, ⟨x.n, x.cl⟩, spZ, slZ, cZ, bvZ, slZ, false⟩)) (w' := wk5.setRow gk4 (Mg.cells ⟨3, ⟨true, x.cl⟩, ⟨false, z⟩, x.op, x.rd, x.ky, ⟨x.n, x.cl⟩, spZ, slZ, cZ, bvZ, slZ, false⟩)) (rs (Mg.cs mgZ) (Mg.cs ⟨3, ⟨true, x.cl⟩, ⟨false, z⟩, x.op, x.rd, x.ky, ⟨x.n, x.cl⟩, spZ, slZ, cZ, bvZ, slZ, false⟩) (Mg.cs ⟨3, ⟨true, x.cl⟩, ⟨false, z⟩, x.op, x.rd, x.ky, ⟨x.n, x.cl⟩, spZ, slZ, cZ, bvZ, slZ, false⟩) (HF.out.box 1 _ _ _ rfl) S47 (Mg.oneL _)) (Fq.front (l := [(gk1, 47, Mg.cells mgZ)]) (m := [(gk4, 47, Mg.cells ⟨3, ⟨true, x.cl⟩, ⟨false, z⟩, x.op, x.rd, x.ky, ⟨x.n, x.cl⟩, spZ, slZ, cZ, bvZ, slZ, false⟩)]) (HF.out.set 1 rfl _)) (fun hH => ?_)
  try simp only [pS]
  have HF : Hid (Fq No w (wk5.setRow gk4 (Mg.cells ⟨3, ⟨true, x.cl⟩, ⟨false, z⟩, x.op, x.rd, x.ky, ⟨x.n, x.cl⟩, spZ, slZ, cZ, bvZ, slZ, false⟩)) [(gk1, 47, Mg.cells mgZ), (gk4, 47, Mg.cells ⟨3, ⟨true, x.cl⟩, ⟨false, z⟩, x.op, x.rd, x.ky, ⟨x.n, x.cl⟩, spZ, slZ, cZ, bvZ, slZ, false⟩)]) := HF.out.set 1 rfl _
  generalize wk5.setRow gk4 (Mg.cells ⟨3, ⟨true, x.cl⟩, ⟨false, z⟩, x.op, x.rd, x.ky, ⟨x.n, x.cl⟩, spZ, slZ, cZ, bvZ, slZ, false⟩) = wk6 at HF hH ⊢
  refine wpAnyH_done (by kernel_rfl) ?_ _
  try simp only [pS]
  clear hH
  go_upto_region 2 with fail
  refine WL.start <| uK (pV r 0) <| uK (pV r 0) <| uK (pV r 28) <| uL 3 ⟨r, 28, none⟩ (.int .i64 x.ph) (load_one ((HBr.out.kept HF.out.kept (fun e => e)).cell 28 |>.trans (by kernel_rfl)) U3 rfl) <| ?_
  try simp only [pS]
  cases q1 : (x.ph == 2)
  ·skip
   refine uB .eql 3 (.int .i64 x.ph) (.int .i64 2) (.bool false) (by rw [b_eql, q1]; try rfl) <| WL.nil <| ?_
   try simp only [pS]
   go_upto_region 5 with fail
   refine WL.start <| uL 47 ⟨gk4, 0, none⟩ (.agg (Mg.cells ⟨3, ⟨true, x.cl⟩, ⟨false, z⟩, x.op, x.rd, x.ky, ⟨x.n, x.cl⟩, spZ, slZ, cZ, bvZ, slZ, false⟩)) (run_load_part (cs := Mg.cs ⟨3, ⟨true, x.cl⟩, ⟨false, z⟩, x.op, x.rd, x.ky, ⟨x.n, x.cl⟩, spZ, slZ, cZ, bvZ, slZ, false⟩) (sub := Mg.cs ⟨3, ⟨true, x.cl⟩, ⟨false, z⟩, x.op, x.rd, x.ky, ⟨x.n, x.cl⟩, spZ, slZ, cZ, bvZ, slZ, false⟩) (HF.out.box 1 _ _ _ rfl) (Part.all _) U47 rfl S47) <| ?_
   try simp only [pS]
   refine uT 47 ⟨gk1, 0, none⟩ (.agg (Mg.cells ⟨3, ⟨true, x.cl⟩, ⟨false, z⟩, x.op, x.rd, x.ky, ⟨x.n, x.cl⟩, spZ, slZ, cZ, bvZ, slZ, false⟩)) (wk6.setRow gk1 (Mg.cells ⟨3, ⟨true, x.cl⟩, ⟨false, z⟩, x.op, x.rd, x.ky, ⟨x.n, x.cl⟩, spZ, slZ, cZ, bvZ, slZ, false⟩)) (rs (Mg.cs mgZ) (Mg.cs ⟨3, ⟨true, x.cl⟩, ⟨false, z⟩, x.op, x.rd, x.ky, ⟨x.n, x.cl⟩, spZ, slZ, cZ, bvZ, slZ, false⟩) (Mg.cs ⟨3, ⟨true, x.cl⟩, ⟨false, z⟩, x.op, x.rd, x.ky, ⟨x.n, x.cl⟩, spZ, slZ, cZ, bvZ, slZ, false⟩) (HF.out.box 0 _ _ _ rfl) S47 (Mg.oneL _)) ?_
   try simp only [pS]
   have HF : Hid (Fq No w (wk6.setRow gk1 (Mg.cells ⟨3, ⟨true, x.cl⟩, ⟨false, z⟩, x.op, x.rd, x.ky, ⟨x.n, x.cl⟩, spZ, slZ, cZ, bvZ, slZ, false⟩)) [(gk1, 47, Mg.cells ⟨3, ⟨true, x.cl⟩, ⟨false, z⟩, x.op, x.rd, x.ky, ⟨x.n, x.cl⟩, spZ, slZ, cZ, bvZ, slZ, false⟩), (gk4, 47, Mg.cells ⟨3, ⟨true, x.cl⟩, ⟨false, z⟩, x.op, x.rd, x.ky, ⟨x.n, x.cl⟩, spZ, slZ, cZ, bvZ, slZ, false⟩)]) := HF.out.set 0 rfl _
   generalize wk6.setRow gk1 (Mg.cells ⟨3, ⟨true, x.cl⟩, ⟨false, z⟩, x.op, x.rd, x.ky, ⟨x.n, x.cl⟩, spZ, slZ, cZ, bvZ, slZ, false⟩) = wk7 at HF ⊢
   refine WL.nil ?_
   try simp only [pS]
   go_wp2
   rw [HC.out]
   have hm : msgR x z = ⟨3, ⟨true, x.cl⟩, ⟨false, z⟩, x.op, x.rd, x.ky, ⟨x.n, x.cl⟩, spZ, slZ, cZ, bvZ, slZ, false⟩ := by unfold msgR; simp [q1]
   rw [hm]
   refine bodyPost_ret (results_row1 (by rfl) _ _ gk1 (Mg.cells ⟨3, ⟨true, x.cl⟩, ⟨false, z⟩, x.op, x.rd, x.ky, ⟨x.n, x.cl⟩, spZ, slZ, cZ, bvZ, slZ, false⟩) (by rfl) (run_load_part (cs := Mg.cs ⟨3, ⟨true, x.cl⟩, ⟨false, z⟩, x.op, x.rd, x.ky, ⟨x.n, x.cl⟩, spZ, slZ, cZ, bvZ, slZ, false⟩) (sub := Mg.cs ⟨3, ⟨true, x.cl⟩, ⟨false, z⟩, x.op, x.rd, x.ky, ⟨x.n, x.cl⟩, spZ, slZ, cZ, bvZ, slZ, false⟩) (HF.out.box 0 _ _ _ rfl) (Part.all _) U47 rfl S47)) rfl ?_
   exact ⟨rfl, HF.out.kept⟩
  ·skip
   refine uB .eql 3 (.int .i64 x.ph) (.int .i64 2) (.bool true) (by rw [b_eql, q1]; try rfl) <| WL.nil <| ?_
   try simp only [pS]
   go_upto_region 3 with fail
   refine WL.start <| uK (pV gk4 0) <| ?_
   try simp only [pS]
   refine uT 3 ⟨gk4, 0, none⟩ (.int .i64 4) (wk6.setRow gk4 (Mg.cells ⟨4, ⟨true, x.cl⟩, ⟨false, z⟩, x.op, x.rd, x.ky, ⟨x.n, x.cl⟩, spZ, slZ, cZ, bvZ, slZ, false⟩)) (rs (Mg.cs ⟨3, ⟨true, x.cl⟩, ⟨false, z⟩, x.op, x.rd, x.ky, ⟨x.n, x.cl⟩, spZ, slZ, cZ, bvZ, slZ, false⟩) ([.int .i64 4]) (Mg.cs ⟨4, ⟨true, x.cl⟩, ⟨false, z⟩, x.op, x.rd, x.ky, ⟨x.n, x.cl⟩, spZ, slZ, cZ, bvZ, slZ, false⟩) (HF.out.box 1 _ _ _ rfl) S3 (by simp [Value.oneCell', Sl.v])) ?_
   try simp only [pS]
   have HF : Hid (Fq No w (wk6.setRow gk4 (Mg.cells ⟨4, ⟨true, x.cl⟩, ⟨false, z⟩, x.op, x.rd, x.ky, ⟨x.n, x.cl⟩, spZ, slZ, cZ, bvZ, slZ, false⟩)) [(gk1, 47, Mg.cells mgZ), (gk4, 47, Mg.cells ⟨4, ⟨true, x.cl⟩, ⟨false, z⟩, x.op, x.rd, x.ky, ⟨x.n, x.cl⟩, spZ, slZ, cZ, bvZ, slZ, false⟩)]) := HF.out.set 1 rfl _
   generalize wk6.setRow gk4 (Mg.cells ⟨4, ⟨true, x.cl⟩, ⟨false, z⟩, x.op, x.rd, x.ky, ⟨x.n, x.cl⟩, spZ, slZ, cZ, bvZ, slZ, false⟩) = wk8 at HF ⊢
   refine WL.nil ?_
   try simp only [pS]
   go_upto_region 4 with fail
   refine WL.start <| uK (pV r 0) <| uK (pV r 0) <| uK (pV r 16) <| uL 28 ⟨r, 16, none⟩ (.agg (Cm.cells x.ch)) (run_load_part (cs := Rv.cs (rvOf x g ba bc bh bm)) (sub := Cm.cs x.ch) (HBr.out.kept HF.out.kept (fun e => e)) (part_of (by kernel_rfl)) U28 rfl S28) <| uK (pV gk4 16) <| ?_
   try simp only [pS]
   refine uT 28 ⟨gk4, 16, none⟩ (.agg (Cm.cells x.ch)) (wk8.setRow gk4 (Mg.cells ⟨4, ⟨true, x.cl⟩, ⟨false, z⟩, x.op, x.rd, x.ky, ⟨x.n, x.cl⟩, spZ, slZ, x.ch, bvZ, slZ, false⟩)) (rs (Mg.cs ⟨4, ⟨true, x.cl⟩, ⟨false, z⟩, x.op, x.rd, x.ky, ⟨x.n, x.cl⟩, spZ, slZ, cZ, bvZ, slZ, false⟩) (Cm.cs x.ch) (Mg.cs ⟨4, ⟨true, x.cl⟩, ⟨false, z⟩, x.op, x.rd, x.ky, ⟨x.n, x.cl⟩, spZ, slZ, x.ch, bvZ, slZ, false⟩) (HF.out.box 1 _ _ _ rfl) S28 (Cm.oneL _)) ?_
   try simp only [pS]
   have HF : Hid (Fq No w (wk8.setRow gk4 (Mg.cells ⟨4, ⟨true, x.cl⟩, ⟨false, z⟩, x.op, x.rd, x.ky, ⟨x.n, x.cl⟩, spZ, slZ, x.ch, bvZ, slZ, false⟩)) [(gk1, 47, Mg.cells mgZ), (gk4, 47, Mg.cells ⟨4, ⟨true, x.cl⟩, ⟨false, z⟩, x.op, x.rd, x.ky, ⟨x.n, x.cl⟩, spZ, slZ, x.ch, bvZ, slZ, false⟩)]) := HF.out.set 1 rfl _
   generalize wk8.setRow gk4 (Mg.cells ⟨4, ⟨true, x.cl⟩, ⟨false, z⟩, x.op, x.rd, x.ky, ⟨x.n, x.cl⟩, spZ, slZ, x.ch, bvZ, slZ, false⟩) = wk9 at HF ⊢
   refine WL.nil ?_
   try simp only [pS]
   go_upto_region 5 with fail
   refine WL.start <| uL 47 ⟨gk4, 0, none⟩ (.agg (Mg.cells ⟨4, ⟨true, x.cl⟩, ⟨false, z⟩, x.op, x.rd, x.ky, ⟨x.n, x.cl⟩, spZ, slZ, x.ch, bvZ, slZ, false⟩)) (run_load_part (cs := Mg.cs ⟨4, ⟨true, x.cl⟩, ⟨false, z⟩, x.op, x.rd, x.ky, ⟨x.n, x.cl⟩, spZ, slZ, x.ch, bvZ, slZ, false⟩) (sub := Mg.cs ⟨4, ⟨true, x.cl⟩, ⟨false, z⟩, x.op, x.rd, x.ky, ⟨x.n, x.cl⟩, spZ, slZ, x.ch, bvZ, slZ, false⟩) (HF.out.box 1 _ _ _ rfl) (Part.all _) U47 rfl S47) <| ?_
   try simp only [pS]
   refine uT 47 ⟨gk1, 0, none⟩ (.agg (Mg.cells ⟨4, ⟨true, x.cl⟩, ⟨false, z⟩, x.op, x.rd, x.ky, ⟨x.n, x.cl⟩, spZ, slZ, x.ch, bvZ, slZ, false⟩)) (wk9.setRow gk1 (Mg.cells ⟨4, ⟨true, x.cl⟩, ⟨false, z⟩, x.op, x.rd, x.ky, ⟨x.n, x.cl⟩, spZ, slZ, x.ch, bvZ, slZ, false⟩)) (rs (Mg.cs mgZ) (Mg.cs ⟨4, ⟨true, x.cl⟩, ⟨false, z⟩, x.op, x.rd, x.ky, ⟨x.n, x.cl⟩, spZ, slZ, x.ch, bvZ, slZ, false⟩) (Mg.cs ⟨4, ⟨true, x.cl⟩, ⟨false, z⟩, x.op, x.rd, x.ky, ⟨x.n, x.cl⟩, spZ, slZ, x.ch, bvZ, slZ, false⟩) (HF.out.box 0 _ _ _ rfl) S47 (Mg.oneL _)) ?_
   try simp only [pS]
   have HF : Hid (Fq No w (wk9.setRow gk1 (Mg.cells ⟨4, ⟨true, x.cl⟩, ⟨false, z⟩, x.op, x.rd, x.ky, ⟨x.n, x.cl⟩, spZ, slZ, x.ch, bvZ, slZ, false⟩)) [(gk1, 47, Mg.cells ⟨4, ⟨true, x.cl⟩, ⟨false, z⟩, x.op, x.rd, x.ky, ⟨x.n, x.cl⟩, spZ, slZ, x.ch, bvZ, slZ, false⟩), (gk4, 47, Mg.cells ⟨4, ⟨true, x.cl⟩, ⟨false, z⟩, x.op, x.rd, x.ky, ⟨x.n, x.cl⟩, spZ, slZ, x.ch, bvZ, slZ, false⟩)]) := HF.out.set 0 rfl _
   generalize wk9.setRow gk1 (Mg.cells ⟨4, ⟨true, x.cl⟩, ⟨false, z⟩, x.op, x.rd, x.ky, ⟨x.n, x.cl⟩, spZ, slZ, x.ch, bvZ, slZ, false⟩) = wk10 at HF ⊢
   refine WL.nil ?_
   try simp only [pS]
   go_wp2
   rw [HC.out]
   have hm : msgR x z = ⟨4, ⟨true, x.cl⟩, ⟨false, z⟩, x.op, x.rd, x.ky, ⟨x.n, x.cl⟩, spZ, slZ, x.ch, bvZ, slZ, false⟩ := by unfold msgR; simp [q1]
   rw [hm]
   refine bodyPost_ret (results_row1 (by rfl) _ _ gk1 (Mg.cells ⟨4, ⟨true, x.cl⟩, ⟨false, z⟩, x.op, x.rd, x.ky, ⟨x.n, x.cl⟩, spZ, slZ, x.ch, bvZ, slZ, false⟩) (by rfl) (run_load_part (cs := Mg.cs ⟨4, ⟨true, x.cl⟩, ⟨false, z⟩, x.op, x.rd, x.ky, ⟨x.n, x.cl⟩, spZ, slZ, x.ch, bvZ, slZ, false⟩) (sub := Mg.cs ⟨4, ⟨true, x.cl⟩, ⟨false, z⟩, x.op, x.rd, x.ky, ⟨x.n, x.cl⟩, spZ, slZ, x.ch, bvZ, slZ, false⟩) (HF.out.box 0 _ _ _ rfl) (Part.all _) U47 rfl S47)) rfl ?_
   exact ⟨rfl, HF.out.kept⟩

end Go.Proofs.Ytpabpeppgpeaoaa.Md
