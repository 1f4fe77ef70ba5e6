import Derived.Test.YtpabpeppgpeaoaaRp
namespace Go.Proofs.Ytpabpeppgpeaoaa.Md
open Go.RowKit Gt
set_option linter.unusedVariables false
set_option linter.unusedSimpArgs false

theorem eqlB_self (b : Bool) (w : World) : (binOp .eql 4 (.bool b) (.bool b)).run Try.prog w = .ok (.bool true) w := by cases b <;> kernel_rfl
theorem eqlC_self (c : Cm) (w : World) : (binOp .eql 28 (.agg (Cm.cells c)) (.agg (Cm.cells c))).run Try.prog w = .ok (.bool true) w := by
  have h := eqlC (jC c) (jC c) w
  rw [Go.Proofs.Ytpabpeppgpeaoaa.eqC_refl] at h
  exact h
theorem eqlN_self (a : Int) (w : World) : (binOp .eql 3 (.int .i64 a) (.int .i64 a)).run Try.prog w = .ok (.bool true) w := by rw [b_eql, beq_self_eq_true]
set_option maxRecDepth 100000 in
set_option maxHeartbeats 4000000 in
theorem shows_any (w0 : World) (I J : Nat → Prop) (p r : Nat) (s : PS) (x : Rs) (w : World) (hW : Wc w0 I J p r s x w) (hS : ShowR w0 s x) : Calls Try.prog 12 #[.pointer (some ⟨p, 0, none⟩), .pointer (some ⟨r, 0, none⟩)] w (fun e w' => e = .returned (.bool true) ∧ Kept No w w') := by
  refine hideC fun C HC => ?_
  have HW : Hid (Wc w0 I J p r s x w) := hW
  have HS : Hid (ShowR w0 s x) := hS
  clear hW hS
  have HF : Hid (Fq No w w []) := Fq.start _ _
  go_enter Try.func12, Try.ntmps12
  go_upto_region 0 with fail
  refine WL.start <| uK (.bool false) <| WL.nil <| ?_
  try simp only [pS]
  go_upto_region 1 with fail
  refine WL.start <| uK (pV p 0) <| ?_
  try simp only [pS]
  refine uC 21 #[pV p 0] (decided_P (HW.out.a.no HF.out.kept)) ?_
  rintro e wk1 ⟨rfl, hk⟩
  have HF : Hid (Fq No w (wk1) []) := HF.out.no hk
  clear hk
  refine ⟨.tuple #[.agg (Cm.cells x.dc), .bool x.de], by rw [← HS.out.dc, ← HS.out.de]; rfl, ?_⟩
  try simp only [pS]
  refine uK (.tuple #[.agg (Cm.cells x.dc), .bool x.de]) <| uK (.agg (Cm.cells x.dc)) <| uK (.bool x.de) <| ?_
  try simp only [pS]
  refine uR (pV wk1.heap.size 0) (wk1.alloc (.cells (Cm.cells cZ) 28)) (exec_alloc 28 rfl (Cm.cells cZ) Z28) ?_
  try simp only [pS]
  have HF : Hid (Fq No w (wk1.alloc (.cells (Cm.cells cZ) 28)) [(wk1.heap.size, 28, Cm.cells cZ)]) := HF.out.alloc _ _
  generalize wk1.alloc (.cells (Cm.cells cZ) 28) = wk3 at HF ⊢
  generalize wk1.heap.size = gk2 at HF ⊢
  refine uT 28 ⟨gk2, 0, none⟩ (.agg (Cm.cells x.dc)) (wk3.setRow gk2 (Cm.cells x.dc)) (rs (Cm.cs cZ) (Cm.cs x.dc) (Cm.cs x.dc) (HF.out.box 0 _ _ _ rfl) S28 (Cm.oneL _)) ?_
  try simp only [pS]
  have HF : Hid (Fq No w (wk3.setRow gk2 (Cm.cells x.dc)) [(gk2, 28, Cm.cells x.dc)]) := HF.out.set 0 rfl _
  generalize wk3.setRow gk2 (Cm.cells x.dc) = wk4 at HF ⊢
  refine uK (.bool x.de) <| WL.nil <| ?_
  try simp only [pS]
  go_upto_region 2 with fail
  refine WL.start <| uK (pV p 0) <| ?_
  try simp only [pS]
  refine uC 30 #[pV p 0] (trimmed_P (HW.out.a.no HF.out.kept)) ?_
  rintro e wk5 ⟨se, sl, rfl, hE, hL, hk⟩
  have HE : Hid (Ytpabpeppgpeaoaa.OwE wk5 w.heap.size se (triO s).2.1) := hE.lower HF.out.kept.size
  have HL : Hid (Ytpabpeppgpeaoaa.OwL wk5 w.heap.size sl (triO s).2.2.1) := hL.lower HF.out.kept.size
  have HF : Hid (Fq No w (wk5) [(gk2, 28, Cm.cells x.dc)]) := HF.out.no hk
  clear hk hE hL
  refine ⟨.tuple #[.agg (Bv.cells ⟨x.bk.up, ⟨se.a, se.l, se.k⟩, ⟨sl.a, sl.l, sl.k⟩⟩), .bool x.tr], by rw [HS.out.up, HS.out.tr]; rfl, ?_⟩
  try simp only [pS]
  refine uK (.tuple #[.agg (Bv.cells ⟨x.bk.up, ⟨se.a, se.l, se.k⟩, ⟨sl.a, sl.l, sl.k⟩⟩), .bool x.tr]) <| uK (.agg (Bv.cells ⟨x.bk.up, ⟨se.a, se.l, se.k⟩, ⟨sl.a, sl.l, sl.k⟩⟩)) <| uK (.bool x.tr) <| ?_
  try simp only [pS]
  refine uR (pV wk5.heap.size 0) (wk5.alloc (.cells (Bv.cells bvZ) 44)) (exec_alloc 44 rfl (Bv.cells bvZ) Z44) ?_
  try simp only [pS]
  have HE : Hid (Ytpabpeppgpeaoaa.OwE (wk5.alloc (.cells (Bv.cells bvZ) 44)) w.heap.size se (triO s).2.1) := HE.out.no ((Kept.refl No _).alloc _)
  have HL : Hid (Ytpabpeppgpeaoaa.OwL (wk5.alloc (.cells (Bv.cells bvZ) 44)) w.heap.size sl (triO s).2.2.1) := HL.out.no ((Kept.refl No _).alloc _)
  have HF : Hid (Fq No w (wk5.alloc (.cells (Bv.cells bvZ) 44)) [(gk2, 28, Cm.cells x.dc), (wk5.heap.size, 44, Bv.cells bvZ)]) := HF.out.alloc _ _
  generalize wk5.alloc (.cells (Bv.cells bvZ) 44) = wk7 at HF HE HL ⊢
  generalize wk5.heap.size = gk6 at HF ⊢
  refine uT 44 ⟨gk6, 0, none⟩ (.agg (Bv.cells ⟨x.bk.up, ⟨se.a, se.l, se.k⟩, ⟨sl.a, sl.l, sl.k⟩⟩)) (wk7.setRow gk6 (Bv.cells ⟨x.bk.up, ⟨se.a, se.l, se.k⟩, ⟨sl.a, sl.l, sl.k⟩⟩)) (rs (Bv.cs bvZ) (Bv.cs ⟨x.bk.up, ⟨se.a, se.l, se.k⟩, ⟨sl.a, sl.l, sl.k⟩⟩) (Bv.cs ⟨x.bk.up, ⟨se.a, se.l, se.k⟩, ⟨sl.a, sl.l, sl.k⟩⟩) (HF.out.box 1 _ _ _ rfl) S44 (Bv.oneL _)) ?_
  try simp only [pS]
  have HE : Hid (Ytpabpeppgpeaoaa.OwE (wk7.setRow gk6 (Bv.cells ⟨x.bk.up, ⟨se.a, se.l, se.k⟩, ⟨sl.a, sl.l, sl.k⟩⟩)) w.heap.size se (triO s).2.1) := HE.out.kept (Kept.setRow _ _ _) (fun k h e => (HE.out.own.notBox (HF.out.box 1 _ _ _ rfl) (by decide)) ((show k = gk6 from e) ▸ h))
  have HL : Hid (Ytpabpeppgpeaoaa.OwL (wk7.setRow gk6 (Bv.cells ⟨x.bk.up, ⟨se.a, se.l, se.k⟩, ⟨sl.a, sl.l, sl.k⟩⟩)) w.heap.size sl (triO s).2.2.1) := HL.out.kept (Kept.setRow _ _ _) (fun k h e => (HL.out.own.notBox (HF.out.box 1 _ _ _ rfl) (by decide)) ((show k = gk6 from e) ▸ h))
  have HF : Hid (Fq No w (wk7.setRow gk6 (Bv.cells ⟨x.bk.up, ⟨se.a, se.l, se.k⟩, ⟨sl.a, sl.l, sl.k⟩⟩)) [(gk2, 28, Cm.cells x.dc), (gk6, 44, Bv.cells ⟨x.bk.up, ⟨se.a, se.l, se.k⟩, ⟨sl.a, sl.l, sl.k⟩⟩)]) := HF.out.set 1 rfl _
  generalize wk7.setRow gk6 (Bv.cells ⟨x.bk.up, ⟨se.a, se.l, se.k⟩, ⟨sl.a, sl.l, sl.k⟩⟩) = wk8 at HF HE HL ⊢
  refine uK (.bool x.tr) <| WL.nil <| ?_
  try simp only [pS]
  go_upto_region 3 with fail
  refine wp_region_held_drew (S := fun w' => Kept No wk8.drew w') rfl (Kept.refl No _) (fun hH => ?_)
  have HF : Hid (Fq No w (wk8.drew) [(gk2, 28, Cm.cells x.dc), (gk6, 44, Bv.cells ⟨x.bk.up, ⟨se.a, se.l, se.k⟩, ⟨sl.a, sl.l, sl.k⟩⟩)]) := HF.out.drew
  have HWn : Hid (Wc w0 I J p r s x wk8.drew) := HW.out.no HF.out.kept
  obtain ⟨g, ba, bc, bh, bm, hBn⟩ := HWn.out.b
  have HBn : Hid (RfB wk8.drew J r x g ba bc bh bm) := hBn
  have HBr : Hid (Box wk8.drew r 56 (rvOf x g ba bc bh bm).cells) := hBn.fq.box 0 _ _ _ rfl
  have H5 : Hid (Box wk8.drew gk2 28 (Cm.cells x.dc)) := HF.out.box 0 _ _ _ rfl
  have H7 : Hid (Box wk8.drew gk6 44 (Bv.cells ⟨x.bk.up, ⟨se.a, se.l, se.k⟩, ⟨sl.a, sl.l, sl.k⟩⟩)) := HF.out.box 1 _ _ _ rfl
  have HE : Hid (Ytpabpeppgpeaoaa.OwE wk8.drew w.heap.size se (triO s).2.1) := HE.out.no (Kept.refl No _).drew
  have HL : Hid (Ytpabpeppgpeaoaa.OwL wk8.drew w.heap.size sl (triO s).2.2.1) := HL.out.no (Kept.refl No _).drew
  have hk0 : Kept No w0 wk8.drew := HW.out.kp.then HF.out.kept
  have HBE : Hid (Ytpabpeppgpeaoaa.RdE wk8.drew (jL x.bk.e) (triO s).2.1) := HS.out.bk.1.no hk0
  have HBL : Hid (Ytpabpeppgpeaoaa.RdL wk8.drew (jL x.bk.l) (triO s).2.2.1) := HS.out.bk.2.1.no hk0
  have hel : x.bk.e.l = se.l := HBE.out.len.symm.trans HE.out.len
  have hll0 : x.bk.l.l = sl.l := HBL.out.len.symm.trans HL.out.len
  have HEl : Hid (se.l = x.bk.e.l) := hel.symm
  have HLl : Hid (sl.l = x.bk.l.l) := hll0.symm
  have hle : se.l ≤ 4000000000000 := by have := HS.out.bk.2.2.1; omega
  have hll : sl.l ≤ 4000000000000 := by have := HS.out.bk.2.2.2; omega
  have hck : Bv.cells ⟨x.bk.up, ⟨x.bk.e.a, se.l, x.bk.e.k⟩, ⟨x.bk.l.a, sl.l, x.bk.l.k⟩⟩ = Bv.cells x.bk := by rw [← hel, ← hll0]
  have HSK : Hid (∀ W, Kept No wk8.drew W → Calls Try.prog 31 #[.agg (Bv.cells ⟨x.bk.up, ⟨se.a, se.l, se.k⟩, ⟨sl.a, sl.l, sl.k⟩⟩), .agg (Bv.cells x.bk)] W (fun e w' => e = .returned (.bool true) ∧ Kept No W w')) := show ∀ W, Kept No wk8.drew W → _ from fun W hW => by
    rw [← hck]
    exact sameK_any x.bk.up se.a x.bk.e.a sl.a x.bk.l.a se.l sl.l se.k x.bk.e.k sl.k x.bk.l.k _ _ _ ((rdE_md HE.out.rd).no hW) (by rw [HEl.out]; exact (rdE_md HBE.out).no hW) ((rdL_md HL.out.rd).no hW) (by rw [HLl.out]; exact (rdL_md HBL.out).no hW) hle hll
  have HK : Hid (Kept No w wk8.drew) := HF.out.kept
  clear hck hBn hk0 hel hll0 HF
  generalize wk8.drew = wk9 at HWn HBn HBr H5 H7 HE HL HBE HBL HK HSK hH ⊢
  refine xV 0 19 (.bool x.de) hH <| xV 1 20 (pV r 0) hH <| xV 2 21 (pV r 0) hH <| xV 3 22 (pV r 34) hH <| xL 4 23 4 ⟨r, 34, none⟩ (.bool x.de) (fun _ hw => load_one ((HBr.out.kept hw (fun e => e)).cell 34 |>.trans (by kernel_rfl)) U4 rfl) hH <| xB 5 24 .eql 4 (.bool x.de) (.bool x.de) (.bool true) (fun _ _ => eqlB_self _ _) hH <| ?_
  try simp only [pS]
  refine xV 6 25 (.bool true) hH <| xL 7 26 28 ⟨gk2, 0, none⟩ (.agg (Cm.cells x.dc)) (fun _ hw => run_load_part (cs := Cm.cs x.dc) (sub := Cm.cs x.dc) (H5.out.kept hw (fun e => e)) (Part.all _) U28 rfl S28) hH <| xV 8 27 (pV r 0) hH <| xV 9 28 (pV r 0) hH <| xV 10 29 (pV r 37) hH <| xL 11 30 28 ⟨r, 37, none⟩ (.agg (Cm.cells x.dc)) (fun _ hw => run_load_part (cs := Rv.cs (rvOf x g ba bc bh bm)) (sub := Cm.cs x.dc) (HBr.out.kept hw (fun e => e)) (part_of (by kernel_rfl)) U28 rfl S28) hH <| ?_
  try simp only [pS]
  refine xB 12 31 .eql 28 (.agg (Cm.cells x.dc)) (.agg (Cm.cells x.dc)) (.bool true) (fun _ _ => eqlC_self _ _) hH <| xV 13 32 (.bool true) hH <| xV 14 33 (.bool true) hH <| xV 15 34 (.bool x.tr) hH <| xV 16 35 (pV r 0) hH <| xV 17 36 (pV r 0) hH <| ?_
  try simp only [pS]
  refine xV 18 37 (pV r 35) hH <| xL 19 38 4 ⟨r, 35, none⟩ (.bool x.tr) (fun _ hw => load_one ((HBr.out.kept hw (fun e => e)).cell 35 |>.trans (by kernel_rfl)) U4 rfl) hH <| xB 20 39 .eql 4 (.bool x.tr) (.bool x.tr) (.bool true) (fun _ _ => eqlB_self _ _) hH <| xV 21 40 (.bool true) hH <| xV 22 41 (.bool true) hH <| xL 23 42 44 ⟨gk6, 0, none⟩ (.agg (Bv.cells ⟨x.bk.up, ⟨se.a, se.l, se.k⟩, ⟨sl.a, sl.l, sl.k⟩⟩)) (fun _ hw => run_load_part (cs := Bv.cs ⟨x.bk.up, ⟨se.a, se.l, se.k⟩, ⟨sl.a, sl.l, sl.k⟩⟩) (sub := Bv.cs ⟨x.bk.up, ⟨se.a, se.l, se.k⟩, ⟨sl.a, sl.l, sl.k⟩⟩) (H7.out.kept hw (fun e => e)) (Part.all _) U44 rfl S44) hH <| ?_
  try simp only [pS]
  refine xV 24 43 (pV r 0) hH <| xV 25 44 (pV r 0) hH <| xV 26 45 (pV r 46) hH <| xL 27 46 44 ⟨r, 46, none⟩ (.agg (Bv.cells x.bk)) (fun _ hw => run_load_part (cs := Rv.cs (rvOf x g ba bc bh bm)) (sub := Bv.cs x.bk) (HBr.out.kept hw (fun e => e)) (part_of (by kernel_rfl)) U44 rfl S44) hH <| ?_
  try simp only [pS]
  refine xC 28 47 31 #[.agg (Bv.cells ⟨x.bk.up, ⟨se.a, se.l, se.k⟩, ⟨sl.a, sl.l, sl.k⟩⟩), .agg (Bv.cells x.bk)] (HSK.out _ hH) ?_
  rintro e wk10 ⟨rfl, hk⟩
  have hH2 : Kept No wk9 wk10 := hH.then hk
  clear hk
  refine ⟨.bool true, rfl, hH2, fun hH => ?_⟩
  clear hH2
  try simp only [pS]
  refine xV 29 48 (.bool true) hH <| xV 30 49 (.bool true) hH <| xV 31 50 (pV p 0) hH <| xV 33 52 (pV r 0) hH <| xV 34 53 (pV r 0) hH <| xV 35 54 (pV r 36) hH <| ?_
  try simp only [pS]
  refine xL 36 55 4 ⟨r, 36, none⟩ (.bool x.wo) (fun _ hw => load_one ((HBr.out.kept hw (fun e => e)).cell 36 |>.trans (by kernel_rfl)) U4 rfl) hH ?_
  try simp only [pS]
  refine xC 32 51 14 #[pV p 0] (worn_P (HWn.out.a.no hH)) ?_
  rintro e wk11 ⟨rfl, hk⟩
  have hH2 : Kept No wk9 wk11 := hH.then hk
  clear hk
  refine ⟨.bool x.wo, by rw [HS.out.wo], hH2, fun hH => ?_⟩
  clear hH2
  try simp only [pS]
  refine xB 37 56 .eql 4 (.bool x.wo) (.bool x.wo) (.bool true) (fun _ _ => eqlB_self _ _) hH <| xV 38 57 (.bool true) hH <| xV 39 58 (.bool true) hH <| xV 40 59 (pV p 0) hH <| xV 42 61 (pV r 0) hH <| ?_
  try simp only [pS]
  refine xC 41 60 42 #[pV p 0] (ballot_P (HWn.out.a.no hH)) ?_
  rintro e wk12 ⟨rfl, hk⟩
  have hH2 : Kept No wk9 wk12 := by rw [hk]; exact hH
  clear hk
  refine ⟨.int .i64 x.nt, by rw [HS.out.nt], hH2, fun hH => ?_⟩
  clear hH2
  try simp only [pS]
  refine xC 43 62 43 #[pV r 0] (rBallot_any J r x g ba bc bh bm _ (HBn.out.no hH)) ?_
  rintro e wk13 ⟨rfl, hk⟩
  have hH2 : Kept No wk9 wk13 := hH.then hk
  clear hk
  refine ⟨.int .i64 x.nt, rfl, hH2, fun hH => ?_⟩
  clear hH2
  try simp only [pS]
  refine xB 44 63 .eql 3 (.int .i64 x.nt) (.int .i64 x.nt) (.bool true) (fun _ _ => eqlN_self _ _) hH <| xV 45 64 (.bool true) hH <| xV 46 65 (.bool true) hH <| xV 47 66 (pV p 0) hH <| xV 49 68 (pV r 0) hH <| ?_
  try simp only [pS]
  refine xC 48 67 22 #[pV p 0] (round_P (HWn.out.a.no hH)) ?_
  rintro e wk14 ⟨rfl, hk⟩
  have hH2 : Kept No wk9 wk14 := by rw [hk]; exact hH
  clear hk
  refine ⟨.int .i64 x.rd, by rw [HS.out.rd], hH2, fun hH => ?_⟩
  clear hH2
  try simp only [pS]
  refine xC 50 69 44 #[pV r 0] (rRound_any J r x g ba bc bh bm _ (HBn.out.no hH)) ?_
  rintro e wk15 ⟨rfl, hk⟩
  have hH2 : Kept No wk9 wk15 := hH.then hk
  clear hk
  refine ⟨.int .i64 x.rd, rfl, hH2, fun hH => ?_⟩
  clear hH2
  try simp only [pS]
  refine xB 51 70 .eql 3 (.int .i64 x.rd) (.int .i64 x.rd) (.bool true) (fun _ _ => eqlN_self _ _) hH <| xV 52 71 (.bool true) hH <| xV 53 4 (.bool true) hH <| ?_
  try simp only [pS]
  have hHe := hH
  refine wpAnyH_done (by kernel_rfl) ?_ _
  try simp only [pS]
  clear hH
  go_wp2
  rw [HC.out]
  exact ⟨rfl, HK.out.then hHe⟩

end Go.Proofs.Ytpabpeppgpeaoaa.Md
