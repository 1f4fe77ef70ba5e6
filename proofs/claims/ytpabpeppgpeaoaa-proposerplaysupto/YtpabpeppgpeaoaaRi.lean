import Derived.Test.YtpabpeppgpeaoaaRh
namespace Go.Proofs.Ytpabpeppgpeaoaa.Md
open Go.RowKit
set_option linter.unusedVariables false
set_option linter.unusedSimpArgs false

def TalOut (w : World) (zs : List Int) (nd : Int) (e : Ending) (w' : World) : Prop := ∃ (t : Nat) (o vs hs : Sl), e = .returned (.pointer (some ⟨t, 0, none⟩)) ∧ Box w' t 98 (Rt.cells ⟨o, vs, hs, nd⟩) ∧ OwI w' w.heap.size o (Gt.uq zs) ∧ w.heap.size ≤ t ∧ Kept No w w'
set_option maxRecDepth 100000 in
set_option maxHeartbeats 4000000 in
theorem rTal_any (s : Sl) (zs : List Int) (nd : Int) (w : World) (hr : RdI w s zs) (hn : s.l ≤ 2000000) : Calls Try.prog 35 #[s.v, .int .i64 nd] w (TalOut w zs nd) := by
  refine hideC fun C HC => ?_
  have HR : Hid (RdI w s zs) := hr
  have hzl := hr.len
  clear hr
  have HF : Hid (Fq No w w []) := Fq.start _ _
  go_enter Try.func35, Try.ntmps35
  go_upto_region 0 with fail
  refine WL.start <| uK (.pointer none) <| WL.nil <| ?_
  try simp only [pS]
  go_upto_region 1 with fail
  refine WL.start <| uK (s.v) <| ?_
  try simp only [pS]
  refine uC 60 #[s.v] (rUnlike_any s zs _ (HR.out.no HF.out.kept) hn) ?_
  rintro e wk1 ⟨o, rfl, hO, hk⟩
  have hol : o.l ≤ 2000000 := by have h1 := hO.len; have h2 := Gt.uq_len zs; omega
  have HO : Hid (OwI wk1 w.heap.size o (Gt.uq zs)) := ⟨hO.own.lower HF.out.kept.size, hO.len⟩
  have HF : Hid (Fq No w (wk1) []) := HF.out.no hk
  clear hk hO
  refine ⟨o.v, rfl, ?_⟩
  try simp only [pS]
  refine uK (o.v) <| WL.nil <| ?_
  try simp only [pS]
  go_upto_region 2 with fail
  refine wp_region_held_drew (S := fun w' => Fq No w w' []) rfl (HF.out.drew) (fun hH => ?_)
  have HO : Hid (OwI (wk1.drew) w.heap.size o (Gt.uq zs)) := HO.out.no (Kept.refl No _).drew
  have HF : Hid (Fq No w (wk1.drew) []) := HF.out.drew
  generalize wk1.drew = wk2 at HF HO hH ⊢
  refine xV 0 8 o.v hH <| xV 1 9 o.v hH <| xV 2 10 (.int .i64 ((o.l : Nat) : Int)) hH <| xV 4 12 o.v hH <| xV 5 13 (.int .i64 ((o.l : Nat) : Int)) hH <| xV 7 15 (.int .i64 nd) hH <| ?_
  try simp only [pS]
  refine any_pick (rs := [3, 6]) (by kernel_rfl) (by simp) ?_
  intro i hi
  rcases pick2 hi with rfl | rfl
  ·skip
   clear hi
   refine step_run (i := 3) (o := { dst := some 11, op := Op.makeSlice 24 (Operand.tmp 10) (Operand.tmp 10), type := 24, pos := "ref.go:38", after := #[{ on := 2, ground := Ground.data }, { on := 2, ground := Ground.data }], guard := none }) rfl (by kernel_rfl) (exec_make 24 _ _ rfl _ _ (by kernel_rfl) (by kernel_rfl) (make_in _ o.l (by omega))) (Fq.front (l := []) (m := [_]) (hH.alloc _ _)) (fun hH => ?_)
   try simp only [pS]
   have HO : Hid (OwI (wk2.alloc (.cells ((inL (List.replicate o.l 0)).toArray) 3)) w.heap.size o (Gt.uq zs)) := HO.out.no ((Kept.refl No _).alloc _)
   have HF : Hid (Fq No w (wk2.alloc (.cells ((inL (List.replicate o.l 0)).toArray) 3)) [(wk2.heap.size, 3, (inL (List.replicate o.l 0)).toArray)]) := HF.out.alloc _ _
   generalize wk2.alloc (.cells ((inL (List.replicate o.l 0)).toArray) 3) = wk4 at HF HO hH ⊢
   generalize wk2.heap.size = gk3 at HF ⊢
   refine any_step (i := 6) (o := { dst := some 14, op := Op.makeSlice 53 (Operand.tmp 13) (Operand.tmp 13), type := 53, pos := "ref.go:38", after := #[{ on := 5, ground := Ground.data }, { on := 5, ground := Ground.data }], guard := none }) rfl (by kernel_rfl) (by kernel_rfl) (exec_make 53 _ _ rfl _ _ (by kernel_rfl) (by kernel_rfl) (make_bo _ o.l (by omega))) (Fq.front (l := []) (m := [_]) (hH.alloc _ _)) (fun hH => ?_)
   try simp only [pS]
   have HO : Hid (OwI (wk4.alloc (.cells ((boL (List.replicate o.l false)).toArray) 4)) w.heap.size o (Gt.uq zs)) := HO.out.no ((Kept.refl No _).alloc _)
   have HF : Hid (Fq No w (wk4.alloc (.cells ((boL (List.replicate o.l false)).toArray) 4)) [(gk3, 3, (inL (List.replicate o.l 0)).toArray), (wk4.heap.size, 4, (boL (List.replicate o.l false)).toArray)]) := HF.out.alloc _ _
   generalize wk4.alloc (.cells ((boL (List.replicate o.l false)).toArray) 4) = wk6 at HF HO hH ⊢
   generalize wk4.heap.size = gk5 at HF ⊢
   refine xU 8 16 (.agg (Rt.cells ⟨o, ⟨(some ⟨gk3, 0, none⟩), o.l, o.l⟩, ⟨(some ⟨gk5, 0, none⟩), o.l, o.l⟩, nd⟩)) (fun w' hw => exec_build 98 _ rfl (Rt.cells ⟨o, ⟨(some ⟨gk3, 0, none⟩), o.l, o.l⟩, ⟨(some ⟨gk5, 0, none⟩), o.l, o.l⟩, nd⟩) (by kernel_rfl)) hH ?_
   try simp only [pS]
   refine any_step (i := 9) (o := { dst := some 17, op := Op.box 98 (Operand.tmp 16), type := 95, pos := "ref.go:38", after := #[{ on := 8, ground := Ground.data }], guard := none }) rfl (by kernel_rfl) (by kernel_rfl) (exec_box 98 _ rfl (Rt.cells ⟨o, ⟨(some ⟨gk3, 0, none⟩), o.l, o.l⟩, ⟨(some ⟨gk5, 0, none⟩), o.l, o.l⟩, nd⟩) (by kernel_rfl)) (Fq.front (l := []) (m := [_]) (hH.alloc _ _)) (fun hH => ?_)
   try simp only [pS]
   have HO : Hid (OwI (wk6.alloc (.cells (Rt.cells ⟨o, ⟨(some ⟨gk3, 0, none⟩), o.l, o.l⟩, ⟨(some ⟨gk5, 0, none⟩), o.l, o.l⟩, nd⟩) 98)) w.heap.size o (Gt.uq zs)) := HO.out.no ((Kept.refl No _).alloc _)
   have HF : Hid (Fq No w (wk6.alloc (.cells (Rt.cells ⟨o, ⟨(some ⟨gk3, 0, none⟩), o.l, o.l⟩, ⟨(some ⟨gk5, 0, none⟩), o.l, o.l⟩, nd⟩) 98)) [(gk3, 3, (inL (List.replicate o.l 0)).toArray), (gk5, 4, (boL (List.replicate o.l false)).toArray), (wk6.heap.size, 98, Rt.cells ⟨o, ⟨(some ⟨gk3, 0, none⟩), o.l, o.l⟩, ⟨(some ⟨gk5, 0, none⟩), o.l, o.l⟩, nd⟩)]) := HF.out.alloc _ _
   generalize wk6.alloc (.cells (Rt.cells ⟨o, ⟨(some ⟨gk3, 0, none⟩), o.l, o.l⟩, ⟨(some ⟨gk5, 0, none⟩), o.l, o.l⟩, nd⟩) 98) = wk8 at HF HO hH ⊢
   generalize wk6.heap.size = gk7 at HF ⊢
   refine xV 10 4 (pV gk7 0) hH ?_
   try simp only [pS]
   refine wpAnyH_done (by kernel_rfl) ?_ _
   try simp only [pS]
   clear hH
   go_wp2
   rw [HC.out]
   exact ⟨gk7, _, _, _, rfl, HF.out.box 2 _ _ _ rfl, HO.out, (HF.out.low 2 _ _ _ rfl).elim id (fun e => e.elim), HF.out.kept⟩
  ·skip
   clear hi
   refine step_run (i := 6) (o := { dst := some 14, op := Op.makeSlice 53 (Operand.tmp 13) (Operand.tmp 13), type := 53, pos := "ref.go:38", after := #[{ on := 5, ground := Ground.data }, { on := 5, ground := Ground.data }], guard := none }) rfl (by kernel_rfl) (exec_make 53 _ _ rfl _ _ (by kernel_rfl) (by kernel_rfl) (make_bo _ o.l (by omega))) (Fq.front (l := []) (m := [_]) (hH.alloc _ _)) (fun hH => ?_)
   try simp only [pS]
   have HO : Hid (OwI (wk2.alloc (.cells ((boL (List.replicate o.l false)).toArray) 4)) w.heap.size o (Gt.uq zs)) := HO.out.no ((Kept.refl No _).alloc _)
   have HF : Hid (Fq No w (wk2.alloc (.cells ((boL (List.replicate o.l false)).toArray) 4)) [(wk2.heap.size, 4, (boL (List.replicate o.l false)).toArray)]) := HF.out.alloc _ _
   generalize wk2.alloc (.cells ((boL (List.replicate o.l false)).toArray) 4) = wk10 at HF HO hH ⊢
   generalize wk2.heap.size = gk9 at HF ⊢
   refine any_step (i := 3) (o := { dst := some 11, op := Op.makeSlice 24 (Operand.tmp 10) (Operand.tmp 10), type := 24, pos := "ref.go:38", after := #[{ on := 2, ground := Ground.data }, { on := 2, ground := Ground.data }], guard := none }) rfl (by kernel_rfl) (by kernel_rfl) (exec_make 24 _ _ rfl _ _ (by kernel_rfl) (by kernel_rfl) (make_in _ o.l (by omega))) (Fq.front (l := []) (m := [_]) (hH.alloc _ _)) (fun hH => ?_)
   try simp only [pS]
   have HO : Hid (OwI (wk10.alloc (.cells ((inL (List.replicate o.l 0)).toArray) 3)) w.heap.size o (Gt.uq zs)) := HO.out.no ((Kept.refl No _).alloc _)
   have HF : Hid (Fq No w (wk10.alloc (.cells ((inL (List.replicate o.l 0)).toArray) 3)) [(gk9, 4, (boL (List.replicate o.l false)).toArray), (wk10.heap.size, 3, (inL (List.replicate o.l 0)).toArray)]) := HF.out.alloc _ _
   generalize wk10.alloc (.cells ((inL (List.replicate o.l 0)).toArray) 3) = wk12 at HF HO hH ⊢
   generalize wk10.heap.size = gk11 at HF ⊢
   refine xU 8 16 (.agg (Rt.cells ⟨o, ⟨(some ⟨gk11, 0, none⟩), o.l, o.l⟩, ⟨(some ⟨gk9, 0, none⟩), o.l, o.l⟩, nd⟩)) (fun w' hw => exec_build 98 _ rfl (Rt.cells ⟨o, ⟨(some ⟨gk11, 0, none⟩), o.l, o.l⟩, ⟨(some ⟨gk9, 0, none⟩), o.l, o.l⟩, nd⟩) (by kernel_rfl)) hH ?_
   try simp only [pS]
   refine any_step (i := 9) (o := { dst := some 17, op := Op.box 98 (Operand.tmp 16), type := 95, pos := "ref.go:38", after := #[{ on := 8, ground := Ground.data }], guard := none }) rfl (by kernel_rfl) (by kernel_rfl) (exec_box 98 _ rfl (Rt.cells ⟨o, ⟨(some ⟨gk11, 0, none⟩), o.l, o.l⟩, ⟨(some ⟨gk9, 0, none⟩), o.l, o.l⟩, nd⟩) (by kernel_rfl)) (Fq.front (l := []) (m := [_]) (hH.alloc _ _)) (fun hH => ?_)
   try simp only [pS]
   have HO : Hid (OwI (wk12.alloc (.cells (Rt.cells ⟨o, ⟨(some ⟨gk11, 0, none⟩), o.l, o.l⟩, ⟨(some ⟨gk9, 0, none⟩), o.l, o.l⟩, nd⟩) 98)) w.heap.size o (Gt.uq zs)) := HO.out.no ((Kept.refl No _).alloc _)
   have HF : Hid (Fq No w (wk12.alloc (.cells (Rt.cells ⟨o, ⟨(some ⟨gk11, 0, none⟩), o.l, o.l⟩, ⟨(some ⟨gk9, 0, none⟩), o.l, o.l⟩, nd⟩) 98)) [(gk9, 4, (boL (List.replicate o.l false)).toArray), (gk11, 3, (inL (List.replicate o.l 0)).toArray), (wk12.heap.size, 98, Rt.cells ⟨o, ⟨(some ⟨gk11, 0, none⟩), o.l, o.l⟩, ⟨(some ⟨gk9, 0, none⟩), o.l, o.l⟩, nd⟩)]) := HF.out.alloc _ _
   generalize wk12.alloc (.cells (Rt.cells ⟨o, ⟨(some ⟨gk11, 0, none⟩), o.l, o.l⟩, ⟨(some ⟨gk9, 0, none⟩), o.l, o.l⟩, nd⟩) 98) = wk14 at HF HO hH ⊢
   generalize wk12.heap.size = gk13 at HF ⊢
   refine xV 10 4 (pV gk13 0) hH ?_
   try simp only [pS]
   refine wpAnyH_done (by kernel_rfl) ?_ _
   try simp only [pS]
   clear hH
   go_wp2
   rw [HC.out]
   exact ⟨gk13, _, _, _, rfl, HF.out.box 2 _ _ _ rfl, HO.out, (HF.out.low 2 _ _ _ rfl).elim id (fun e => e.elim), HF.out.kept⟩
def rv0 (x : Rs) (g : Sl) : Rv := ⟨x.cl, x.op, x.ky, g, x.mine, x.ch, x.n, x.rd, x.nt, x.ph, slZ, slZ, slZ, slZ, x.nk, x.de, x.tr, x.wo, x.dc, x.bk⟩
set_option maxRecDepth 100000 in
set_option maxHeartbeats 4000000 in
theorem rFresh0_any (J : Nat → Prop) (r : Nat) (x : Rs) (g : Sl) (w : World) (hf : Fq J w w [(r, 56, (rv0 x g).cells)]) (hg : OwI w 0 g x.zs) (hj : ∀ k, At g.a k → J k) (hnn : g.l ≤ 2000000) : Calls Try.prog 36 #[.pointer (some ⟨r, 0, none⟩)] w (fun e w' => e = .returned (.tuple #[]) ∧ RfAt w' (Jn J w) r (freshR x) ∧ Kept J w w') := by
  refine hideC fun C HC => ?_
  have HF : Hid (Fq J w w [(r, 56, (rv0 x g).cells)]) := hf
  have HG : Hid (OwI w 0 g x.zs) := hg
  have hzl := hg.len
  have HJ : Hid (∀ k, At g.a k → J k) := hj
  clear hf hg hj
  go_enter Try.func36, Try.ntmps36
  go_upto_region 0 with fail
  refine WL.start <| uK (pV r 0) <| uK (pV r 0) <| uK (pV r 0) <| uK (pV r 6) <| uL 24 ⟨r, 6, none⟩ (g.v) (load_one ((HF.out.box 0 _ _ _ rfl).cell 6 |>.trans (by kernel_rfl)) U24 rfl) <| uK (.int .i64 ((g.l : Nat) : Int)) <| ?_
  try simp only [pS]
  refine uR (.slice (some ⟨w.heap.size, 0, none⟩) g.l g.l) (w.alloc (.cells ((boL (List.replicate g.l false)).toArray) 4)) (exec_make 53 _ _ rfl _ _ (by kernel_rfl) (by kernel_rfl) (make_bo _ g.l (by omega))) ?_
  try simp only [pS]
  have HG : Hid (OwI (w.alloc (.cells ((boL (List.replicate g.l false)).toArray) 4)) 0 g x.zs) := HG.out.no ((Kept.refl No _).alloc _)
  have HF : Hid (Fq J w (w.alloc (.cells ((boL (List.replicate g.l false)).toArray) 4)) [(r, 56, Rv.cells (rv0 x g)), (w.heap.size, 4, (boL (List.replicate g.l false)).toArray)]) := HF.out.alloc _ _
  generalize w.alloc (.cells ((boL (List.replicate g.l false)).toArray) 4) = wk2 at HF HG ⊢
  generalize w.heap.size = gk1 at HF ⊢
  refine uK (pV r 0) <| uK (pV r 29) <| ?_
  try simp only [pS]
  refine uT 53 ⟨r, 29, none⟩ (.slice (some ⟨gk1, 0, none⟩) g.l g.l) (wk2.setRow r (Rv.cells ⟨x.cl, x.op, x.ky, g, x.mine, x.ch, x.n, x.rd, x.nt, x.ph, ⟨(some ⟨gk1, 0, none⟩), g.l, g.l⟩, slZ, slZ, slZ, x.nk, x.de, x.tr, x.wo, x.dc, x.bk⟩)) (rs (Rv.cs (rv0 x g)) ([.slice (some ⟨gk1, 0, none⟩) g.l g.l]) (Rv.cs ⟨x.cl, x.op, x.ky, g, x.mine, x.ch, x.n, x.rd, x.nt, x.ph, ⟨(some ⟨gk1, 0, none⟩), g.l, g.l⟩, slZ, slZ, slZ, x.nk, x.de, x.tr, x.wo, x.dc, x.bk⟩) (HF.out.box 0 _ _ _ rfl) S53 (by simp [Value.oneCell', Sl.v])) ?_
  try simp only [pS]
  have HG : Hid (OwI (wk2.setRow r (Rv.cells ⟨x.cl, x.op, x.ky, g, x.mine, x.ch, x.n, x.rd, x.nt, x.ph, ⟨(some ⟨gk1, 0, none⟩), g.l, g.l⟩, slZ, slZ, slZ, x.nk, x.de, x.tr, x.wo, x.dc, x.bk⟩)) 0 g x.zs) := HG.out.kept (Kept.setRow _ _ _) (fun k h e => (HG.out.own.notBox (HF.out.box 0 _ _ _ rfl) (by decide)) ((show k = r from e) ▸ h))
  have HF : Hid (Fq J w (wk2.setRow r (Rv.cells ⟨x.cl, x.op, x.ky, g, x.mine, x.ch, x.n, x.rd, x.nt, x.ph, ⟨(some ⟨gk1, 0, none⟩), g.l, g.l⟩, slZ, slZ, slZ, x.nk, x.de, x.tr, x.wo, x.dc, x.bk⟩)) [(r, 56, Rv.cells ⟨x.cl, x.op, x.ky, g, x.mine, x.ch, x.n, x.rd, x.nt, x.ph, ⟨(some ⟨gk1, 0, none⟩), g.l, g.l⟩, slZ, slZ, slZ, x.nk, x.de, x.tr, x.wo, x.dc, x.bk⟩), (gk1, 4, (boL (List.replicate g.l false)).toArray)]) := HF.out.set 0 rfl _
  generalize wk2.setRow r (Rv.cells ⟨x.cl, x.op, x.ky, g, x.mine, x.ch, x.n, x.rd, x.nt, x.ph, ⟨(some ⟨gk1, 0, none⟩), g.l, g.l⟩, slZ, slZ, slZ, x.nk, x.de, x.tr, x.wo, x.dc, x.bk⟩) = wk3 at HF HG ⊢
  refine WL.nil ?_
  try simp only [pS]
  go_upto_region 1 with fail
  refine WL.start <| uK (pV r 0) <| uK (pV r 0) <| uK (pV r 0) <| uK (pV r 6) <| uL 24 ⟨r, 6, none⟩ (g.v) (load_one ((HF.out.box 0 _ _ _ rfl).cell 6 |>.trans (by kernel_rfl)) U24 rfl) <| uK (.int .i64 ((g.l : Nat) : Int)) <| ?_
  try simp only [pS]
  refine uR (.slice (some ⟨wk3.heap.size, 0, none⟩) g.l g.l) (wk3.alloc (.cells ((boL (List.replicate g.l false)).toArray) 4)) (exec_make 53 _ _ rfl _ _ (by kernel_rfl) (by kernel_rfl) (make_bo _ g.l (by omega))) ?_
  try simp only [pS]
  have HG : Hid (OwI (wk3.alloc (.cells ((boL (List.replicate g.l false)).toArray) 4)) 0 g x.zs) := HG.out.no ((Kept.refl No _).alloc _)
  have HF : Hid (Fq J w (wk3.alloc (.cells ((boL (List.replicate g.l false)).toArray) 4)) [(r, 56, Rv.cells ⟨x.cl, x.op, x.ky, g, x.mine, x.ch, x.n, x.rd, x.nt, x.ph, ⟨(some ⟨gk1, 0, none⟩), g.l, g.l⟩, slZ, slZ, slZ, x.nk, x.de, x.tr, x.wo, x.dc, x.bk⟩), (gk1, 4, (boL (List.replicate g.l false)).toArray), (wk3.heap.size, 4, (boL (List.replicate g.l false)).toArray)]) := HF.out.alloc _ _
  generalize wk3.alloc (.cells ((boL (List.replicate g.l false)).toArray) 4) = wk5 at HF HG ⊢
  generalize wk3.heap.size = gk4 at HF ⊢
  refine uK (pV r 0) <| uK (pV r 30) <| ?_
  try simp only [pS]
  refine uT 53 ⟨r, 30, none⟩ (.slice (some ⟨gk4, 0, none⟩) g.l g.l) (wk5.setRow r (Rv.cells ⟨x.cl, x.op, x.ky, g, x.mine, x.ch, x.n, x.rd, x.nt, x.ph, ⟨(some ⟨gk1, 0, none⟩), g.l, g.l⟩, ⟨(some ⟨gk4, 0, none⟩), g.l, g.l⟩, slZ, slZ, x.nk, x.de, x.tr, x.wo, x.dc, x.bk⟩)) (rs (Rv.cs ⟨x.cl, x.op, x.ky, g, x.mine, x.ch, x.n, x.rd, x.nt, x.ph, ⟨(some ⟨gk1, 0, none⟩), g.l, g.l⟩, slZ, slZ, slZ, x.nk, x.de, x.tr, x.wo, x.dc, x.bk⟩) ([.slice (some ⟨gk4, 0, none⟩) g.l g.l]) (Rv.cs ⟨x.cl, x.op, x.ky, g, x.mine, x.ch, x.n, x.rd, x.nt, x.ph, ⟨(some ⟨gk1, 0, none⟩), g.l, g.l⟩, ⟨(some ⟨gk4, 0, none⟩), g.l, g.l⟩, slZ, slZ, x.nk, x.de, x.tr, x.wo, x.dc, x.bk⟩) (HF.out.box 0 _ _ _ rfl) S53 (by simp [Value.oneCell', Sl.v])) ?_
  try simp only [pS]
  have HG : Hid (OwI (wk5.setRow r (Rv.cells ⟨x.cl, x.op, x.ky, g, x.mine, x.ch, x.n, x.rd, x.nt, x.ph, ⟨(some ⟨gk1, 0, none⟩), g.l, g.l⟩, ⟨(some ⟨gk4, 0, none⟩), g.l, g.l⟩, slZ, slZ, x.nk, x.de, x.tr, x.wo, x.dc, x.bk⟩)) 0 g x.zs) := HG.out.kept (Kept.setRow _ _ _) (fun k h e => (HG.out.own.notBox (HF.out.box 0 _ _ _ rfl) (by decide)) ((show k = r from e) ▸ h))
  have HF : Hid (Fq J w (wk5.setRow r (Rv.cells ⟨x.cl, x.op, x.ky, g, x.mine, x.ch, x.n, x.rd, x.nt, x.ph, ⟨(some ⟨gk1, 0, none⟩), g.l, g.l⟩, ⟨(some ⟨gk4, 0, none⟩), g.l, g.l⟩, slZ, slZ, x.nk, x.de, x.tr, x.wo, x.dc, x.bk⟩)) [(r, 56, Rv.cells ⟨x.cl, x.op, x.ky, g, x.mine, x.ch, x.n, x.rd, x.nt, x.ph, ⟨(some ⟨gk1, 0, none⟩), g.l, g.l⟩, ⟨(some ⟨gk4, 0, none⟩), g.l, g.l⟩, slZ, slZ, x.nk, x.de, x.tr, x.wo, x.dc, x.bk⟩), (gk1, 4, (boL (List.replicate g.l false)).toArray), (gk4, 4, (boL (List.replicate g.l false)).toArray)]) := HF.out.set 0 rfl _
  generalize wk5.setRow r (Rv.cells ⟨x.cl, x.op, x.ky, g, x.mine, x.ch, x.n, x.rd, x.nt, x.ph, ⟨(some ⟨gk1, 0, none⟩), g.l, g.l⟩, ⟨(some ⟨gk4, 0, none⟩), g.l, g.l⟩, slZ, slZ, x.nk, x.de, x.tr, x.wo, x.dc, x.bk⟩) = wk6 at HF HG ⊢
  refine WL.nil ?_
  try simp only [pS]
  go_upto_region 2 with fail
  refine WL.start <| uK (pV r 0) <| uK (pV r 0) <| uK (pV r 0) <| uK (pV r 6) <| uL 24 ⟨r, 6, none⟩ (g.v) (load_one ((HF.out.box 0 _ _ _ rfl).cell 6 |>.trans (by kernel_rfl)) U24 rfl) <| uK (.int .i64 ((g.l : Nat) : Int)) <| ?_
  try simp only [pS]
  refine uR (.slice (some ⟨wk6.heap.size, 0, none⟩) g.l g.l) (wk6.alloc (.cells ((spL (List.replicate g.l spZ)).toArray) 39)) (exec_make 54 _ _ rfl _ _ (by kernel_rfl) (by kernel_rfl) (make_sp _ g.l (by omega))) ?_
  try simp only [pS]
  have HG : Hid (OwI (wk6.alloc (.cells ((spL (List.replicate g.l spZ)).toArray) 39)) 0 g x.zs) := HG.out.no ((Kept.refl No _).alloc _)
  have HF : Hid (Fq J w (wk6.alloc (.cells ((spL (List.replicate g.l spZ)).toArray) 39)) [(r, 56, Rv.cells ⟨x.cl, x.op, x.ky, g, x.mine, x.ch, x.n, x.rd, x.nt, x.ph, ⟨(some ⟨gk1, 0, none⟩), g.l, g.l⟩, ⟨(some ⟨gk4, 0, none⟩), g.l, g.l⟩, slZ, slZ, x.nk, x.de, x.tr, x.wo, x.dc, x.bk⟩), (gk1, 4, (boL (List.replicate g.l false)).toArray), (gk4, 4, (boL (List.replicate g.l false)).toArray), (wk6.heap.size, 39, (spL (List.replicate g.l spZ)).toArray)]) := HF.out.alloc _ _
  generalize wk6.alloc (.cells ((spL (List.replicate g.l spZ)).toArray) 39) = wk8 at HF HG ⊢
  generalize wk6.heap.size = gk7 at HF ⊢
  refine uK (pV r 0) <| uK (pV r 31) <| ?_
  try simp only [pS]
  refine uT 54 ⟨r, 31, none⟩ (.slice (some ⟨gk7, 0, none⟩) g.l g.l) (wk8.setRow r (Rv.cells ⟨x.cl, x.op, x.ky, g, x.mine, x.ch, x.n, x.rd, x.nt, x.ph, ⟨(some ⟨gk1, 0, none⟩), g.l, g.l⟩, ⟨(some ⟨gk4, 0, none⟩), g.l, g.l⟩, ⟨(some ⟨gk7, 0, none⟩), g.l, g.l⟩, slZ, x.nk, x.de, x.tr, x.wo, x.dc, x.bk⟩)) (rs (Rv.cs ⟨x.cl, x.op, x.ky, g, x.mine, x.ch, x.n, x.rd, x.nt, x.ph, ⟨(some ⟨gk1, 0, none⟩), g.l, g.l⟩, ⟨(some ⟨gk4, 0, none⟩), g.l, g.l⟩, slZ, slZ, x.nk, x.de, x.tr, x.wo, x.dc, x.bk⟩) ([.slice (some ⟨gk7, 0, none⟩) g.l g.l]) (Rv.cs ⟨x.cl, x.op, x.ky, g, x.mine, x.ch, x.n, x.rd, x.nt, x.ph, ⟨(some ⟨gk1, 0, none⟩), g.l, g.l⟩, ⟨(some ⟨gk4, 0, none⟩), g.l, g.l⟩, ⟨(some ⟨gk7, 0, none⟩), g.l, g.l⟩, slZ, x.nk, x.de, x.tr, x.wo, x.dc, x.bk⟩) (HF.out.box 0 _ _ _ rfl) S54 (by simp [Value.oneCell', Sl.v])) ?_
  try simp only [pS]
  have HG : Hid (OwI (wk8.setRow r (Rv.cells ⟨x.cl, x.op, x.ky, g, x.mine, x.ch, x.n, x.rd, x.nt, x.ph, ⟨(some ⟨gk1, 0, none⟩), g.l, g.l⟩, ⟨(some ⟨gk4, 0, none⟩), g.l, g.l⟩, ⟨(some ⟨gk7, 0, none⟩), g.l, g.l⟩, slZ, x.nk, x.de, x.tr, x.wo, x.dc, x.bk⟩)) 0 g x.zs) := HG.out.kept (Kept.setRow _ _ _) (fun k h e => (HG.out.own.notBox (HF.out.box 0 _ _ _ rfl) (by decide)) ((show k = r from e) ▸ h))
  have HF : Hid (Fq J w (wk8.setRow r (Rv.cells ⟨x.cl, x.op, x.ky, g, x.mine, x.ch, x.n, x.rd, x.nt, x.ph, ⟨(some ⟨gk1, 0, none⟩), g.l, g.l⟩, ⟨(some ⟨gk4, 0, none⟩), g.l, g.l⟩, ⟨(some ⟨gk7, 0, none⟩), g.l, g.l⟩, slZ, x.nk, x.de, x.tr, x.wo, x.dc, x.bk⟩)) [(r, 56, Rv.cells ⟨x.cl, x.op, x.ky, g, x.mine, x.ch, x.n, x.rd, x.nt, x.ph, ⟨(some ⟨gk1, 0, none⟩), g.l, g.l⟩, ⟨(some ⟨gk4, 0, none⟩), g.l, g.l⟩, ⟨(some ⟨gk7, 0, none⟩), g.l, g.l⟩, slZ, x.nk, x.de, x.tr, x.wo, x.dc, x.bk⟩), (gk1, 4, (boL (List.replicate g.l false)).toArray), (gk4, 4, (boL (List.replicate g.l false)).toArray), (gk7, 39, (spL (List.replicate g.l spZ)).toArray)]) := HF.out.set 0 rfl _
  generalize wk8.setRow r (Rv.cells ⟨x.cl, x.op, x.ky, g, x.mine, x.ch, x.n, x.rd, x.nt, x.ph, ⟨(some ⟨gk1, 0, none⟩), g.l, g.l⟩, ⟨(some ⟨gk4, 0, none⟩), g.l, g.l⟩, ⟨(some ⟨gk7, 0, none⟩), g.l, g.l⟩, slZ, x.nk, x.de, x.tr, x.wo, x.dc, x.bk⟩) = wk9 at HF HG ⊢
  refine WL.nil ?_
  try simp only [pS]
  go_upto_region 3 with fail
  refine WL.start <| uK (pV r 0) <| uK (pV r 0) <| uK (pV r 0) <| uK (pV r 6) <| uL 24 ⟨r, 6, none⟩ (g.v) (load_one ((HF.out.box 0 _ _ _ rfl).cell 6 |>.trans (by kernel_rfl)) U24 rfl) <| uK (.int .i64 ((g.l : Nat) : Int)) <| ?_
  try simp only [pS]
  refine uR (.slice (some ⟨wk9.heap.size, 0, none⟩) g.l g.l) (wk9.alloc (.cells ((cmL (List.replicate g.l cZ)).toArray) 28)) (exec_make 45 _ _ rfl _ _ (by kernel_rfl) (by kernel_rfl) (make_cm _ g.l (by omega))) ?_
  try simp only [pS]
  have HG : Hid (OwI (wk9.alloc (.cells ((cmL (List.replicate g.l cZ)).toArray) 28)) 0 g x.zs) := HG.out.no ((Kept.refl No _).alloc _)
  have HF : Hid (Fq J w (wk9.alloc (.cells ((cmL (List.replicate g.l cZ)).toArray) 28)) [(r, 56, Rv.cells ⟨x.cl, x.op, x.ky, g, x.mine, x.ch, x.n, x.rd, x.nt, x.ph, ⟨(some ⟨gk1, 0, none⟩), g.l, g.l⟩, ⟨(some ⟨gk4, 0, none⟩), g.l, g.l⟩, ⟨(some ⟨gk7, 0, none⟩), g.l, g.l⟩, slZ, x.nk, x.de, x.tr, x.wo, x.dc, x.bk⟩), (gk1, 4, (boL (List.replicate g.l false)).toArray), (gk4, 4, (boL (List.replicate g.l false)).toArray), (gk7, 39, (spL (List.replicate g.l spZ)).toArray), (wk9.heap.size, 28, (cmL (List.replicate g.l cZ)).toArray)]) := HF.out.alloc _ _
  generalize wk9.alloc (.cells ((cmL (List.replicate g.l cZ)).toArray) 28) = wk11 at HF HG ⊢
  generalize wk9.heap.size = gk10 at HF ⊢
  refine uK (pV r 0) <| uK (pV r 32) <| ?_
  try simp only [pS]
  refine uT 45 ⟨r, 32, none⟩ (.slice (some ⟨gk10, 0, none⟩) g.l g.l) (wk11.setRow r (Rv.cells (rvOf x g gk1 gk4 gk7 gk10))) (rs (Rv.cs ⟨x.cl, x.op, x.ky, g, x.mine, x.ch, x.n, x.rd, x.nt, x.ph, ⟨(some ⟨gk1, 0, none⟩), g.l, g.l⟩, ⟨(some ⟨gk4, 0, none⟩), g.l, g.l⟩, ⟨(some ⟨gk7, 0, none⟩), g.l, g.l⟩, slZ, x.nk, x.de, x.tr, x.wo, x.dc, x.bk⟩) ([.slice (some ⟨gk10, 0, none⟩) g.l g.l]) (Rv.cs (rvOf x g gk1 gk4 gk7 gk10)) (HF.out.box 0 _ _ _ rfl) S45 (by simp [Value.oneCell', Sl.v])) ?_
  try simp only [pS]
  have HG : Hid (OwI (wk11.setRow r (Rv.cells (rvOf x g gk1 gk4 gk7 gk10))) 0 g x.zs) := HG.out.kept (Kept.setRow _ _ _) (fun k h e => (HG.out.own.notBox (HF.out.box 0 _ _ _ rfl) (by decide)) ((show k = r from e) ▸ h))
  have HF : Hid (Fq J w (wk11.setRow r (Rv.cells (rvOf x g gk1 gk4 gk7 gk10))) [(r, 56, Rv.cells (rvOf x g gk1 gk4 gk7 gk10)), (gk1, 4, (boL (List.replicate g.l false)).toArray), (gk4, 4, (boL (List.replicate g.l false)).toArray), (gk7, 39, (spL (List.replicate g.l spZ)).toArray), (gk10, 28, (cmL (List.replicate g.l cZ)).toArray)]) := HF.out.set 0 rfl _
  generalize wk11.setRow r (Rv.cells (rvOf x g gk1 gk4 gk7 gk10)) = wk12 at HF HG ⊢
  refine WL.nil ?_
  try simp only [pS]
  go_upto_region 4 with fail
  refine WL.start <| uK (pV r 0) <| uK (pV r 0) <| uK (pV r 33) <| ?_
  try simp only [pS]
  refine uT 4 ⟨r, 33, none⟩ (.bool false) (wk12.setRow r (Rv.cells (rvOf {x with nk := false} g gk1 gk4 gk7 gk10))) (rs (Rv.cs (rvOf x g gk1 gk4 gk7 gk10)) ([.bool false]) (Rv.cs (rvOf {x with nk := false} g gk1 gk4 gk7 gk10)) (HF.out.box 0 _ _ _ rfl) S4 (by simp [Value.oneCell', Sl.v])) ?_
  try simp only [pS]
  have HG : Hid (OwI (wk12.setRow r (Rv.cells (rvOf {x with nk := false} g gk1 gk4 gk7 gk10))) 0 g x.zs) := HG.out.kept (Kept.setRow _ _ _) (fun k h e => (HG.out.own.notBox (HF.out.box 0 _ _ _ rfl) (by decide)) ((show k = r from e) ▸ h))
  have HF : Hid (Fq J w (wk12.setRow r (Rv.cells (rvOf {x with nk := false} g gk1 gk4 gk7 gk10))) [(r, 56, Rv.cells (rvOf {x with nk := false} g gk1 gk4 gk7 gk10)), (gk1, 4, (boL (List.replicate g.l false)).toArray), (gk4, 4, (boL (List.replicate g.l false)).toArray), (gk7, 39, (spL (List.replicate g.l spZ)).toArray), (gk10, 28, (cmL (List.replicate g.l cZ)).toArray)]) := HF.out.set 0 rfl _
  generalize wk12.setRow r (Rv.cells (rvOf {x with nk := false} g gk1 gk4 gk7 gk10)) = wk13 at HF HG ⊢
  refine WL.nil ?_
  try simp only [pS]
  go_wp2
  rw [HC.out]
  have hz : x.zs.length = g.l := hzl
  refine bodyPost_end (v := .tuple #[]) (by kernel_rfl) rfl ⟨rfl, RfB.mk' (x := freshR x) (g := g) (ba := gk1) (bc := gk4) (bh := gk7) (bm := gk10) ?_ HG.out HJ.out (by simp [freshR, hz]) (by simp [freshR, hz]) (by simp [freshR, hz]) (by simp [freshR, hz]) hnn, HF.out.kept⟩
  have e1 : (freshR x).qa = List.replicate g.l false := by simp [freshR, hz]
  have e2 : (freshR x).qc = List.replicate g.l false := by simp [freshR, hz]
  have e3 : (freshR x).qh = List.replicate g.l spZ := by simp [freshR, hz]
  have e4 : (freshR x).qm = List.replicate g.l cZ := by simp [freshR, hz]
  rw [e1, e2, e3, e4]
  exact HF.out
def newR0 (cl op : Int) (y : Ky) (zs : List Int) (c : Cm) (n rd : Int) : Rs := ⟨cl, op, y, Gt.uq zs, c, cZ, n, rd, n, 0, [], [], [], [], false, false, false, false, cZ, bvZ⟩
def newR (cl op : Int) (y : Ky) (zs : List Int) (c : Cm) (n rd : Int) : Rs := freshR (newR0 cl op y zs c n rd)
def RNewOut (w : World) (x : Rs) (e : Ending) (w' : World) : Prop := ∃ r, e = .returned (.pointer (some ⟨r, 0, none⟩)) ∧ RfAt w' (fun k => w.heap.size ≤ k) r x ∧ Kept No w w'
set_option maxRecDepth 100000 in
set_option maxHeartbeats 4000000 in
theorem rNew_any (cl op : Int) (y : Ky) (s : Sl) (zs : List Int) (c : Cm) (n rd : Int) (w : World) (hr : RdI w s zs) (hn : s.l ≤ 2000000) : Calls Try.prog 10 #[.int .i64 cl, .int .i64 op, .agg (Ky.cells y), s.v, .agg (Cm.cells c), .int .i64 n, .int .i64 rd] w (RNewOut w (newR cl op y zs c n rd)) := by
  refine hideC fun C HC => ?_
  have HR : Hid (RdI w s zs) := hr
  have hzl := hr.len
  clear hr
  have HF : Hid (Fq No w w []) := Fq.start _ _
  go_enter Try.func10, Try.ntmps10
  go_upto_region 0 with fail
  refine WL.start ?_
  refine uR (pV w.heap.size 0) (w.alloc (.cells (Ky.cells y) 23)) (exec_box 23 _ rfl (Ky.cells y) (by kernel_rfl)) ?_
  try simp only [pS]
  have HF : Hid (Fq No w (w.alloc (.cells (Ky.cells y) 23)) [(w.heap.size, 23, Ky.cells y)]) := HF.out.alloc _ _
  generalize w.alloc (.cells (Ky.cells y) 23) = wk2 at HF ⊢
  generalize w.heap.size = gk1 at HF ⊢
  refine uR (pV wk2.heap.size 0) (wk2.alloc (.cells (Cm.cells c) 28)) (exec_box 28 _ rfl (Cm.cells c) (by kernel_rfl)) ?_
  try simp only [pS]
  have HF : Hid (Fq No w (wk2.alloc (.cells (Cm.cells c) 28)) [(gk1, 23, Ky.cells y), (wk2.heap.size, 28, Cm.cells c)]) := HF.out.alloc _ _
  generalize wk2.alloc (.cells (Cm.cells c) 28) = wk4 at HF ⊢
  generalize wk2.heap.size = gk3 at HF ⊢
  refine uK (.pointer none) <| WL.nil <| ?_
  try simp only [pS]
  go_upto_region 1 with fail
  refine WL.start <| uK (s.v) <| ?_
  try simp only [pS]
  refine uC 35 #[s.v, .int .i64 0] (rTal_any s zs 0 _ (HR.out.no HF.out.kept) hn) ?_
  rintro e wk5 ⟨tb, o, vs, hs, rfl, hbt, hO, htl, hk⟩
  have hol : o.l ≤ 2000000 := by have h1 := hO.len; have h2 := Gt.uq_len zs; omega
  have HO : Hid (OwI wk5 w.heap.size o (Gt.uq zs)) := ⟨hO.own.lower HF.out.kept.size, hO.len⟩
  have HF : Hid (Fq No w (wk5) [(gk1, 23, Ky.cells y), (gk3, 28, Cm.cells c), (tb, 98, Rt.cells ⟨o, vs, hs, 0⟩)]) := HF.out.add hk htl hbt
  clear hk hO hbt htl
  refine ⟨.pointer (some ⟨tb, 0, none⟩), rfl, ?_⟩
  try simp only [pS]
  refine uK (pV tb 0) <| WL.nil <| ?_
  try simp only [pS]
  go_upto_region 2 with fail
  refine wp_region_held_drew (S := fun w' => Fq No w w' [(gk1, 23, Ky.cells y), (gk3, 28, Cm.cells c), (tb, 98, Rt.cells ⟨o, vs, hs, 0⟩)]) rfl (HF.out.drew) (fun hH => ?_)
  have HO : Hid (OwI (wk5.drew) w.heap.size o (Gt.uq zs)) := HO.out.no (Kept.refl No _).drew
  have HF : Hid (Fq No w (wk5.drew) [(gk1, 23, Ky.cells y), (gk3, 28, Cm.cells c), (tb, 98, Rt.cells ⟨o, vs, hs, 0⟩)]) := HF.out.drew
  generalize wk5.drew = wk6 at HF HO hH ⊢
  refine xV 0 19 (.int .i64 cl) hH <| xV 1 20 (.int .i64 op) hH <| xL 2 21 23 ⟨gk1, 0, none⟩ (.agg (Ky.cells y)) (fun _ hw => run_load_part (cs := Ky.cs y) (sub := Ky.cs y) (hw.box 0 _ _ _ rfl) (Part.all _) U23 rfl S23) hH <| xV 3 22 (pV tb 0) hH <| xV 4 23 (pV tb 0) hH <| xV 5 24 (pV tb 0) hH <| ?_
  try simp only [pS]
  refine xL 6 25 24 ⟨tb, 0, none⟩ o.v (fun _ hw => load_one ((hw.box 2 _ _ _ rfl).cell 0 |>.trans (by kernel_rfl)) U24 rfl) hH <| xL 7 26 28 ⟨gk3, 0, none⟩ (.agg (Cm.cells c)) (fun _ hw => run_load_part (cs := Cm.cs c) (sub := Cm.cs c) (hw.box 1 _ _ _ rfl) (Part.all _) U28 rfl S28) hH <| xV 8 27 (.int .i64 n) hH <| xV 9 28 (.int .i64 rd) hH <| xV 10 29 (.int .i64 n) hH <| xU 11 30 (.agg (Rv.cells ⟨cl, op, y, o, c, cZ, n, rd, n, 0, slZ, slZ, slZ, slZ, false, false, false, false, cZ, bvZ⟩)) (fun w' hw => exec_build 56 _ rfl (Rv.cells ⟨cl, op, y, o, c, cZ, n, rd, n, 0, slZ, slZ, slZ, slZ, false, false, false, false, cZ, bvZ⟩) (by kernel_rfl)) hH <| ?_
  try simp only [pS]
  refine any_step (i := 12) (o := { dst := some 16, op := Op.alloc 56, type := 0, pos := "ref.go:34", after := #[], guard := none }) rfl (by kernel_rfl) (by kernel_rfl) (exec_alloc 56 rfl (Rv.cells rvZ) Z56) (Fq.front (l := [(gk1, 23, Ky.cells y), (gk3, 28, Cm.cells c), (tb, 98, Rt.cells ⟨o, vs, hs, 0⟩)]) (m := [_]) (hH.alloc _ _)) (fun hH => ?_)
  try simp only [pS]
  have HO : Hid (OwI (wk6.alloc (.cells (Rv.cells rvZ) 56)) w.heap.size o (Gt.uq zs)) := HO.out.no ((Kept.refl No _).alloc _)
  have HF : Hid (Fq No w (wk6.alloc (.cells (Rv.cells rvZ) 56)) [(gk1, 23, Ky.cells y), (gk3, 28, Cm.cells c), (tb, 98, Rt.cells ⟨o, vs, hs, 0⟩), (wk6.heap.size, 56, Rv.cells rvZ)]) := HF.out.alloc _ _
  generalize wk6.alloc (.cells (Rv.cells rvZ) 56) = wk8 at HF HO hH ⊢
  generalize wk6.heap.size = gk7 at HF ⊢
  refine xS 13 56 ⟨gk7, 0, none⟩ (.agg (Rv.cells ⟨cl, op, y, o, c, cZ, n, rd, n, 0, slZ, slZ, slZ, slZ, false, false, false, false, cZ, bvZ⟩)) (w' := wk8.setRow gk7 (Rv.cells ⟨cl, op, y, o, c, cZ, n, rd, n, 0, slZ, slZ, slZ, slZ, false, false, false, false, cZ, bvZ⟩)) (rs (Rv.cs rvZ) (Rv.cs ⟨cl, op, y, o, c, cZ, n, rd, n, 0, slZ, slZ, slZ, slZ, false, false, false, false, cZ, bvZ⟩) (Rv.cs ⟨cl, op, y, o, c, cZ, n, rd, n, 0, slZ, slZ, slZ, slZ, false, false, false, false, cZ, bvZ⟩) (HF.out.box 3 _ _ _ rfl) S56 (Rv.oneL _)) (Fq.front (l := [(gk1, 23, Ky.cells y), (gk3, 28, Cm.cells c), (tb, 98, Rt.cells ⟨o, vs, hs, 0⟩)]) (m := [(gk7, 56, Rv.cells ⟨cl, op, y, o, c, cZ, n, rd, n, 0, slZ, slZ, slZ, slZ, false, false, false, false, cZ, bvZ⟩)]) (HF.out.set 3 rfl _)) (fun hH => ?_)
  try simp only [pS]
  have HO : Hid (OwI (wk8.setRow gk7 (Rv.cells ⟨cl, op, y, o, c, cZ, n, rd, n, 0, slZ, slZ, slZ, slZ, false, false, false, false, cZ, bvZ⟩)) w.heap.size o (Gt.uq zs)) := HO.out.kept (Kept.setRow _ _ _) (fun k h e => (HO.out.own.notBox (HF.out.box 3 _ _ _ rfl) (by decide)) ((show k = gk7 from e) ▸ h))
  have HF : Hid (Fq No w (wk8.setRow gk7 (Rv.cells ⟨cl, op, y, o, c, cZ, n, rd, n, 0, slZ, slZ, slZ, slZ, false, false, false, false, cZ, bvZ⟩)) [(gk1, 23, Ky.cells y), (gk3, 28, Cm.cells c), (tb, 98, Rt.cells ⟨o, vs, hs, 0⟩), (gk7, 56, Rv.cells ⟨cl, op, y, o, c, cZ, n, rd, n, 0, slZ, slZ, slZ, slZ, false, false, false, false, cZ, bvZ⟩)]) := HF.out.set 3 rfl _
  generalize wk8.setRow gk7 (Rv.cells ⟨cl, op, y, o, c, cZ, n, rd, n, 0, slZ, slZ, slZ, slZ, false, false, false, false, cZ, bvZ⟩) = wk9 at HF HO hH ⊢
  refine wpAnyH_done (by kernel_rfl) ?_ _
  try simp only [pS]
  clear hH
  go_upto_region 3 with fail
  refine WL.start ?_
  have hk0 := HF.out.kept
  have hf0 : Fq (fun k => w.heap.size ≤ k) wk9 wk9 [(gk7, 56, (rv0 (newR0 cl op y zs c n rd) o).cells)] := ⟨Kept.refl _ _, fun i g' T cs hi => by
    match i, hi with
    | 0, hi => cases hi; exact HF.out.box 3 _ _ _ rfl, fun i g' T cs hi => .inr (by
    match i, hi with
    | 0, hi => cases hi; exact (HF.out.low 3 _ _ _ rfl).elim id (fun e => e.elim)), fun i j g' T cs T' cs' hi hj => by
    have h1 := (List.getElem?_eq_some_iff.1 hi).1
    have h2 := (List.getElem?_eq_some_iff.1 hj).1
    simp at h1 h2
    omega⟩
  refine uC 36 #[pV gk7 0] (rFresh0_any (fun k => w.heap.size ≤ k) gk7 (newR0 cl op y zs c n rd) o wk9 hf0 ⟨HO.out.own.lower (Nat.zero_le _), HO.out.len⟩ (fun k e => HO.out.own.base e) hol) ?_
  rintro e w9 ⟨rfl, hR, hk9⟩
  have HZ : Hid (RNewOut w (newR cl op y zs c n rd) (.returned (.pointer (some ⟨gk7, 0, none⟩))) w9) := ⟨gk7, rfl, hR.wide (fun k e => e.elim id (fun l => Nat.le_trans hk0.size l)), hk0.trans hk9 (fun _ e => e) (fun k hk e => by have e : w.heap.size ≤ k := e; omega)⟩
  clear hR hk9 hf0 hk0 HO HF
  refine ⟨.tuple #[], rfl, ?_⟩
  try simp only [pS]
  refine WL.nil ?_
  try simp only [pS]
  go_wp2
  rw [HC.out]
  exact HZ.out

end Go.Proofs.Ytpabpeppgpeaoaa.Md
