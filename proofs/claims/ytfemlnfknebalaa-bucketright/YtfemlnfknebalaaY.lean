import Derived.Test.YtfemlnfknebalaaV
namespace Go.Proofs.Ytfemlnfknebalaa
open Go.RowKit
set_option linter.unusedVariables false
set_option linter.unusedSimpArgs false

set_option maxRecDepth 100000 in
set_option maxHeartbeats 4000000 in
theorem counted_list (bu : Int) (ba : Option Addr) (bn bc : Nat) (bsl : Sl) (nu : Int) (na : Option Addr) (nn nc : Nat) (nsl : Sl) (c : Cm) (er : Int) (ae : En) (xa : Option Addr) (xn xc : Nat) (es es2 l : List En) (w : World) (hb : RdE w ⟨ba, bn, bc⟩ es) (hn : RdE w ⟨na, nn, nc⟩ es2) (hx : RdE w ⟨xa, xn, xc⟩ l) (hbb : bn ≤ 1000) (hnb : nn ≤ 1000) (h0 : (er == 0) = true) (h1 : (c.k == 1) = false) (h2 : (c.k == 2) = false) (h4 : (c.k == 4) = true) (hez : ae = enZ) (hle : l = es) (hnn : nn = bn)  : Calls Try.prog 23 #[.agg (Bv.cells ⟨bu, ⟨ba, bn, bc⟩, bsl⟩), .agg (Bv.cells ⟨nu, ⟨na, nn, nc⟩, nsl⟩), .agg (Cm.cells c), .agg (Av.cells ⟨er, ae, ⟨xa, xn, xc⟩⟩)] w (fun e w' => e = .returned (.bool true) ∧ Kept No w w') := by
  obtain ⟨C, hC⟩ : ∃ C : Ending → World → Prop, C = (fun e w' => e = .returned (.bool true) ∧ Kept No w w') := ⟨_, rfl⟩
  have HC : Hid (C = (fun e w' => e = .returned (.bool true) ∧ Kept No w w')) := hC
  rw [← hC]
  clear hC
  have HB : Hid (RdE w ⟨ba, bn, bc⟩ es) := hb
  have HN : Hid (RdE w ⟨na, nn, nc⟩ es2) := hn
  have HX : Hid (RdE w ⟨xa, xn, xc⟩ l) := hx
  clear hb hn hx
  obtain ⟨z, hz⟩ : ∃ z, z = findE es2 c.nm := ⟨_, rfl⟩
  have HFz : Hid (findE es2 c.nm = z) := hz.symm
  clear hz
  obtain ⟨zb, hzb⟩ : ∃ zb, zb = eIs es2 c.nm := ⟨_, rfl⟩
  have HIz : Hid (eIs es2 c.nm = zb) := hzb.symm
  clear hzb
  have hxn : xn = bn := by have e1 : l.length = xn := HX.out.len; have e2 : es.length = bn := HB.out.len; rw [hle] at e1; omega
  have HF : Hid (Fr No w w []) := Fr.start _ _
  go_enter Try.func23, Try.ntmps23
  go_upto_region 0 with fail
  refine WL.start ?_
  refine wp_runW (.pointer (some ⟨w.heap.size, 0, none⟩)) (w.alloc (.cells (Bv.cells ⟨bu, ⟨ba, bn, bc⟩, bsl⟩) 25)) (exec_box 25 _ rfl (Bv.cells ⟨bu, ⟨ba, bn, bc⟩, bsl⟩) (by kernel_rfl)) (by kernel_rfl) ?_
  try simp only [pA, pB, p1, p2, p3]
  have HF : Hid (Fr No w (w.alloc (.cells (Bv.cells ⟨bu, ⟨ba, bn, bc⟩, bsl⟩) 25)) [(w.heap.size, 25, Bv.cells ⟨bu, ⟨ba, bn, bc⟩, bsl⟩)]) := HF.out.alloc _ _
  generalize w.alloc (.cells (Bv.cells ⟨bu, ⟨ba, bn, bc⟩, bsl⟩) 25) = wk2 at HF ⊢
  generalize w.heap.size = gk1 at HF ⊢
  refine wp_runW (.pointer (some ⟨wk2.heap.size, 0, none⟩)) (wk2.alloc (.cells (Bv.cells ⟨nu, ⟨na, nn, nc⟩, nsl⟩) 25)) (exec_box 25 _ rfl (Bv.cells ⟨nu, ⟨na, nn, nc⟩, nsl⟩) (by kernel_rfl)) (by kernel_rfl) ?_
  try simp only [pA, pB, p1, p2, p3]
  have HF : Hid (Fr No w (wk2.alloc (.cells (Bv.cells ⟨nu, ⟨na, nn, nc⟩, nsl⟩) 25)) [(gk1, 25, Bv.cells ⟨bu, ⟨ba, bn, bc⟩, bsl⟩), (wk2.heap.size, 25, Bv.cells ⟨nu, ⟨na, nn, nc⟩, nsl⟩)]) := HF.out.alloc _ _
  generalize wk2.alloc (.cells (Bv.cells ⟨nu, ⟨na, nn, nc⟩, nsl⟩) 25) = wk4 at HF ⊢
  generalize wk2.heap.size = gk3 at HF ⊢
  refine wp_runW (.pointer (some ⟨wk4.heap.size, 0, none⟩)) (wk4.alloc (.cells (Cm.cells c) 29)) (exec_box 29 _ rfl (Cm.cells c) (by kernel_rfl)) (by kernel_rfl) ?_
  try simp only [pA, pB, p1, p2, p3]
  have HF : Hid (Fr No w (wk4.alloc (.cells (Cm.cells c) 29)) [(gk1, 25, Bv.cells ⟨bu, ⟨ba, bn, bc⟩, bsl⟩), (gk3, 25, Bv.cells ⟨nu, ⟨na, nn, nc⟩, nsl⟩), (wk4.heap.size, 29, Cm.cells c)]) := HF.out.alloc _ _
  generalize wk4.alloc (.cells (Cm.cells c) 29) = wk6 at HF ⊢
  generalize wk4.heap.size = gk5 at HF ⊢
  refine wp_runW (.pointer (some ⟨wk6.heap.size, 0, none⟩)) (wk6.alloc (.cells (Av.cells ⟨er, ae, ⟨xa, xn, xc⟩⟩) 56)) (exec_box 56 _ rfl (Av.cells ⟨er, ae, ⟨xa, xn, xc⟩⟩) (by kernel_rfl)) (by kernel_rfl) ?_
  try simp only [pA, pB, p1, p2, p3]
  have HF : Hid (Fr No w (wk6.alloc (.cells (Av.cells ⟨er, ae, ⟨xa, xn, xc⟩⟩) 56)) [(gk1, 25, Bv.cells ⟨bu, ⟨ba, bn, bc⟩, bsl⟩), (gk3, 25, Bv.cells ⟨nu, ⟨na, nn, nc⟩, nsl⟩), (gk5, 29, Cm.cells c), (wk6.heap.size, 56, Av.cells ⟨er, ae, ⟨xa, xn, xc⟩⟩)]) := HF.out.alloc _ _
  generalize wk6.alloc (.cells (Av.cells ⟨er, ae, ⟨xa, xn, xc⟩⟩) 56) = wk8 at HF ⊢
  generalize wk6.heap.size = gk7 at HF ⊢
  refine wp_takeW (.bool false) (by kernel_rfl) (by kernel_rfl) ?_
  try simp only [pA, pB, p1, p2, p3]
  refine WL.nil ?_
  try simp only [pA, pB, p1, p2, p3]
  go_upto_region 1 with fail
  refine WL.start ?_
  refine wp_takeW (.pointer (some ⟨gk1, 1, none⟩)) (by kernel_rfl) (by kernel_rfl) ?_
  try simp only [pA, pB, p1, p2, p3]
  refine wp_takeW (.slice ba bn bc) (exec_load 22 _ rfl ⟨gk1, 1, none⟩ (by kernel_rfl) (.slice ba bn bc) (ld22 ((HF.out.box 0 _ _ _ rfl).cell 1))) (by kernel_rfl) ?_
  try simp only [pA, pB, p1, p2, p3]
  refine wp_takeW (.int .i64 ((bn : Nat) : Int)) (by kernel_rfl) (by kernel_rfl) ?_
  try simp only [pA, pB, p1, p2, p3]
  refine wp_takeW (.int .i64 ((bn : Nat) : Int)) (by kernel_rfl) (by kernel_rfl) ?_
  try simp only [pA, pB, p1, p2, p3]
  refine WL.nil ?_
  try simp only [pA, pB, p1, p2, p3]
  go_upto_region 2 with fail
  refine WL.start ?_
  refine wp_takeW (.pointer (some ⟨gk7, 0, none⟩)) (by kernel_rfl) (by kernel_rfl) ?_
  try simp only [pA, pB, p1, p2, p3]
  refine wp_takeW (.int .i64 er) (exec_load 46 _ rfl ⟨gk7, 0, none⟩ (by kernel_rfl) (.int .i64 er) (ld46 ((HF.out.box 3 _ _ _ rfl).cell 0))) (by kernel_rfl) ?_
  try simp only [pA, pB, p1, p2, p3]
  refine wp_takeW (.bool true) (exec_bin .eql 46 _ _ _ rfl (.int .i64 er) (.int .i64 0) (.bool true) (by kernel_rfl) (by kernel_rfl) (by kernel_rfl) (by rw [b_eql46, h0]; try rfl)) (by kernel_rfl) ?_
  try simp only [pA, pB, p1, p2, p3]
  refine wp_takeW (.bool true) (by kernel_rfl) (by kernel_rfl) ?_
  try simp only [pA, pB, p1, p2, p3]
  refine wp_takeW (.pointer (some ⟨gk5, 0, none⟩)) (by kernel_rfl) (by kernel_rfl) ?_
  try simp only [pA, pB, p1, p2, p3]
  refine wp_takeW (.int .i64 c.k) (exec_load 3 _ rfl ⟨gk5, 0, none⟩ (by kernel_rfl) (.int .i64 c.k) (ld3 ((HF.out.box 2 _ _ _ rfl).cell 0))) (by kernel_rfl) ?_
  try simp only [pA, pB, p1, p2, p3]
  refine wp_takeW (.bool false) (exec_bin .eql 3 _ _ _ rfl (.int .i64 c.k) (.int .i64 1) (.bool false) (by kernel_rfl) (by kernel_rfl) (by kernel_rfl) (by rw [b_eql, h1]; try rfl)) (by kernel_rfl) ?_
  try simp only [pA, pB, p1, p2, p3]
  refine wp_takeW (.bool false) (by kernel_rfl) (by kernel_rfl) ?_
  try simp only [pA, pB, p1, p2, p3]
  refine WL.nil ?_
  try simp only [pA, pB, p1, p2, p3]
  go_upto_region 4 with fail
  refine WL.start ?_
  refine wp_takeW (.pointer (some ⟨gk7, 0, none⟩)) (by kernel_rfl) (by kernel_rfl) ?_
  try simp only [pA, pB, p1, p2, p3]
  refine wp_takeW (.int .i64 er) (exec_load 46 _ rfl ⟨gk7, 0, none⟩ (by kernel_rfl) (.int .i64 er) (ld46 ((HF.out.box 3 _ _ _ rfl).cell 0))) (by kernel_rfl) ?_
  try simp only [pA, pB, p1, p2, p3]
  refine wp_takeW (.bool true) (exec_bin .eql 46 _ _ _ rfl (.int .i64 er) (.int .i64 0) (.bool true) (by kernel_rfl) (by kernel_rfl) (by kernel_rfl) (by rw [b_eql46, h0]; try rfl)) (by kernel_rfl) ?_
  try simp only [pA, pB, p1, p2, p3]
  refine wp_takeW (.bool true) (by kernel_rfl) (by kernel_rfl) ?_
  try simp only [pA, pB, p1, p2, p3]
  refine wp_takeW (.pointer (some ⟨gk5, 0, none⟩)) (by kernel_rfl) (by kernel_rfl) ?_
  try simp only [pA, pB, p1, p2, p3]
  refine wp_takeW (.int .i64 c.k) (exec_load 3 _ rfl ⟨gk5, 0, none⟩ (by kernel_rfl) (.int .i64 c.k) (ld3 ((HF.out.box 2 _ _ _ rfl).cell 0))) (by kernel_rfl) ?_
  try simp only [pA, pB, p1, p2, p3]
  refine wp_takeW (.bool false) (exec_bin .eql 3 _ _ _ rfl (.int .i64 c.k) (.int .i64 2) (.bool false) (by kernel_rfl) (by kernel_rfl) (by kernel_rfl) (by rw [b_eql, h2]; try rfl)) (by kernel_rfl) ?_
  try simp only [pA, pB, p1, p2, p3]
  refine wp_takeW (.bool false) (by kernel_rfl) (by kernel_rfl) ?_
  try simp only [pA, pB, p1, p2, p3]
  refine WL.nil ?_
  try simp only [pA, pB, p1, p2, p3]
  go_upto_region 6 with fail
  refine WL.start ?_
  refine wp_takeW (.agg (Bv.cells ⟨nu, ⟨na, nn, nc⟩, nsl⟩)) (exec_load 25 _ rfl ⟨gk3, 0, none⟩ (by kernel_rfl) (.agg (Bv.cells ⟨nu, ⟨na, nn, nc⟩, nsl⟩)) (ld25 (HF.out.box 1 _ _ _ rfl))) (by kernel_rfl) ?_
  try simp only [pA, pB, p1, p2, p3]
  refine wp_takeW (.pointer (some ⟨gk5, 3, none⟩)) (by kernel_rfl) (by kernel_rfl) ?_
  try simp only [pA, pB, p1, p2, p3]
  refine wp_takeW (.string c.nm) (exec_load 9 _ rfl ⟨gk5, 3, none⟩ (by kernel_rfl) (.string c.nm) (ld9 ((HF.out.box 2 _ _ _ rfl).cell 3))) (by kernel_rfl) ?_
  try simp only [pA, pB, p1, p2, p3]
  refine wp_callW 24 #[.agg (Bv.cells ⟨nu, ⟨na, nn, nc⟩, nsl⟩), .string c.nm] (by kernel_rfl) _ (find_any nu na nn nc nsl es2 c.nm _ HN.out.len (by omega) (HN.out.no HF.out.kept).row) (by kernel_rfl) ?_
  rintro e wk9 ⟨rfl, hk⟩
  have HF : Hid (Fr No w (wk9) [(gk1, 25, Bv.cells ⟨bu, ⟨ba, bn, bc⟩, bsl⟩), (gk3, 25, Bv.cells ⟨nu, ⟨na, nn, nc⟩, nsl⟩), (gk5, 29, Cm.cells c), (gk7, 56, Av.cells ⟨er, ae, ⟨xa, xn, xc⟩⟩)]) := HF.out.no hk
  clear hk
  refine ⟨.tuple #[.agg (En.cells z), .bool zb], by rw [HFz.out, HIz.out], ?_⟩
  try simp only [pA, pB, p1, p2, p3]
  refine wp_takeW (.tuple #[.agg (En.cells z), .bool zb]) (by kernel_rfl) (by kernel_rfl) ?_
  try simp only [pA, pB, p1, p2, p3]
  refine wp_takeW (.agg (En.cells z)) (by kernel_rfl) (by kernel_rfl) ?_
  try simp only [pA, pB, p1, p2, p3]
  refine wp_takeW (.bool zb) (by kernel_rfl) (by kernel_rfl) ?_
  try simp only [pA, pB, p1, p2, p3]
  refine wp_runW (.pointer (some ⟨wk9.heap.size, 0, none⟩)) (wk9.alloc (.cells (En.cells enZ) 54)) (exec_alloc 54 rfl (En.cells enZ) zero54) (by kernel_rfl) ?_
  try simp only [pA, pB, p1, p2, p3]
  have HF : Hid (Fr No w (wk9.alloc (.cells (En.cells enZ) 54)) [(gk1, 25, Bv.cells ⟨bu, ⟨ba, bn, bc⟩, bsl⟩), (gk3, 25, Bv.cells ⟨nu, ⟨na, nn, nc⟩, nsl⟩), (gk5, 29, Cm.cells c), (gk7, 56, Av.cells ⟨er, ae, ⟨xa, xn, xc⟩⟩), (wk9.heap.size, 54, En.cells enZ)]) := HF.out.alloc _ _
  generalize wk9.alloc (.cells (En.cells enZ) 54) = wk11 at HF ⊢
  generalize wk9.heap.size = gk10 at HF ⊢
  refine wp_storeW 54 _ _ rfl ⟨gk10, 0, none⟩ (.agg (En.cells z)) (by kernel_rfl) (by kernel_rfl) (wk11.setRow gk10 (En.cells z)) (st54 (HF.out.box 4 _ _ _ rfl) rfl) (by kernel_rfl) ?_
  try simp only [pA, pB, p1, p2, p3]
  have HF : Hid (Fr No w (wk11.setRow gk10 (En.cells z)) [(gk1, 25, Bv.cells ⟨bu, ⟨ba, bn, bc⟩, bsl⟩), (gk3, 25, Bv.cells ⟨nu, ⟨na, nn, nc⟩, nsl⟩), (gk5, 29, Cm.cells c), (gk7, 56, Av.cells ⟨er, ae, ⟨xa, xn, xc⟩⟩), (gk10, 54, En.cells z)]) := HF.out.set 4 rfl _
  generalize wk11.setRow gk10 (En.cells z) = wk12 at HF ⊢
  refine wp_takeW (.bool zb) (by kernel_rfl) (by kernel_rfl) ?_
  try simp only [pA, pB, p1, p2, p3]
  refine WL.nil ?_
  try simp only [pA, pB, p1, p2, p3]
  go_upto_region 7 with fail
  refine WL.start ?_
  refine wp_takeW (.pointer (some ⟨gk3, 1, none⟩)) (by kernel_rfl) (by kernel_rfl) ?_
  try simp only [pA, pB, p1, p2, p3]
  refine wp_takeW (.slice na nn nc) (exec_load 22 _ rfl ⟨gk3, 1, none⟩ (by kernel_rfl) (.slice na nn nc) (ld22 ((HF.out.box 1 _ _ _ rfl).cell 1))) (by kernel_rfl) ?_
  try simp only [pA, pB, p1, p2, p3]
  refine wp_takeW (.int .i64 ((nn : Nat) : Int)) (by kernel_rfl) (by kernel_rfl) ?_
  try simp only [pA, pB, p1, p2, p3]
  refine wp_takeW (.int .i64 ((bn : Nat) : Int)) (by kernel_rfl) (by kernel_rfl) ?_
  try simp only [pA, pB, p1, p2, p3]
  refine wp_takeW (.bool false) (exec_bin .neq 3 _ _ _ rfl (.int .i64 ((nn : Nat) : Int)) (.int .i64 ((bn : Nat) : Int)) (.bool false) (by kernel_rfl) (by kernel_rfl) (by kernel_rfl) (by rw [b_neq, show ((nn : Nat) : Int) = ((bn : Nat) : Int) by omega]; simp)) (by kernel_rfl) ?_
  try simp only [pA, pB, p1, p2, p3]
  refine wp_takeW (.bool false) (by kernel_rfl) (by kernel_rfl) ?_
  try simp only [pA, pB, p1, p2, p3]
  refine wp_takeW (.pointer (some ⟨gk7, 5, none⟩)) (by kernel_rfl) (by kernel_rfl) ?_
  try simp only [pA, pB, p1, p2, p3]
  refine wp_takeW (.slice xa xn xc) (exec_load 22 _ rfl ⟨gk7, 5, none⟩ (by kernel_rfl) (.slice xa xn xc) (ld22 ((HF.out.box 3 _ _ _ rfl).cell 5))) (by kernel_rfl) ?_
  try simp only [pA, pB, p1, p2, p3]
  refine wp_takeW (.int .i64 ((xn : Nat) : Int)) (by kernel_rfl) (by kernel_rfl) ?_
  try simp only [pA, pB, p1, p2, p3]
  cases q1 : (decide (0 < ((xn : Nat) : Int)))
  ·skip
   refine wp_takeW (.bool false) (exec_bin .gtr 3 _ _ _ rfl (.int .i64 ((xn : Nat) : Int)) (.int .i64 0) (.bool false) (by kernel_rfl) (by kernel_rfl) (by kernel_rfl) (by rw [b_gtr, q1]; try rfl)) (by kernel_rfl) ?_
   try simp only [pA, pB, p1, p2, p3]
   refine wp_takeW (.bool false) (by kernel_rfl) (by kernel_rfl) ?_
   try simp only [pA, pB, p1, p2, p3]
   refine wp_skip (by kernel_rfl) ?_
   try simp only [pA, pB, p1, p2, p3]
   refine wp_skip (by kernel_rfl) ?_
   try simp only [pA, pB, p1, p2, p3]
   refine wp_skip (by kernel_rfl) ?_
   try simp only [pA, pB, p1, p2, p3]
   refine wp_takeW (.bool false) (by kernel_rfl) (by kernel_rfl) ?_
   try simp only [pA, pB, p1, p2, p3]
   refine wp_takeW (.bool false) (by kernel_rfl) (by kernel_rfl) ?_
   try simp only [pA, pB, p1, p2, p3]
   refine WL.nil ?_
   try simp only [pA, pB, p1, p2, p3]
   go_upto_region 9 with fail
   refine WL.start ?_
   refine wp_takeW (.pointer (some ⟨gk5, 0, none⟩)) (by kernel_rfl) (by kernel_rfl) ?_
   try simp only [pA, pB, p1, p2, p3]
   refine wp_takeW (.int .i64 c.k) (exec_load 3 _ rfl ⟨gk5, 0, none⟩ (by kernel_rfl) (.int .i64 c.k) (ld3 ((HF.out.box 2 _ _ _ rfl).cell 0))) (by kernel_rfl) ?_
   try simp only [pA, pB, p1, p2, p3]
   refine wp_takeW (.bool true) (exec_bin .eql 3 _ _ _ rfl (.int .i64 c.k) (.int .i64 4) (.bool true) (by kernel_rfl) (by kernel_rfl) (by kernel_rfl) (by rw [b_eql, h4]; try rfl)) (by kernel_rfl) ?_
   try simp only [pA, pB, p1, p2, p3]
   refine wp_takeW (.bool true) (by kernel_rfl) (by kernel_rfl) ?_
   try simp only [pA, pB, p1, p2, p3]
   refine WL.nil ?_
   try simp only [pA, pB, p1, p2, p3]
   go_upto_region 10 with fail
   refine WL.start ?_
   refine wp_takeW (.pointer (some ⟨gk7, 0, none⟩)) (by kernel_rfl) (by kernel_rfl) ?_
   try simp only [pA, pB, p1, p2, p3]
   refine wp_takeW (.int .i64 er) (exec_load 46 _ rfl ⟨gk7, 0, none⟩ (by kernel_rfl) (.int .i64 er) (ld46 ((HF.out.box 3 _ _ _ rfl).cell 0))) (by kernel_rfl) ?_
   try simp only [pA, pB, p1, p2, p3]
   refine wp_takeW (.bool true) (exec_bin .eql 46 _ _ _ rfl (.int .i64 er) (.int .i64 0) (.bool true) (by kernel_rfl) (by kernel_rfl) (by kernel_rfl) (by rw [b_eql46, h0]; try rfl)) (by kernel_rfl) ?_
   try simp only [pA, pB, p1, p2, p3]
   refine wp_takeW (.bool true) (by kernel_rfl) (by kernel_rfl) ?_
   try simp only [pA, pB, p1, p2, p3]
   refine wp_takeW (.pointer (some ⟨gk7, 1, none⟩)) (by kernel_rfl) (by kernel_rfl) ?_
   try simp only [pA, pB, p1, p2, p3]
   refine wp_takeW (.agg (En.cells ae)) (exec_load 54 _ rfl ⟨gk7, 1, none⟩ (by kernel_rfl) (.agg (En.cells ae)) (ldAE (HF.out.box 3 _ _ _ rfl))) (by kernel_rfl) ?_
   try simp only [pA, pB, p1, p2, p3]
   refine wp_takeW (.agg (En.cells enZ)) (exec_build 54 _ rfl (En.cells enZ) (by kernel_rfl)) (by kernel_rfl) ?_
   try simp only [pA, pB, p1, p2, p3]
   refine wp_takeW (.bool true) (exec_bin .eql 54 _ _ _ rfl (.agg (En.cells ae)) (.agg (En.cells enZ)) (.bool true) (by kernel_rfl) (by kernel_rfl) (by kernel_rfl) (by rw [hez, eqE_eql, eqE_iff.2 rfl])) (by kernel_rfl) ?_
   try simp only [pA, pB, p1, p2, p3]
   refine wp_takeW (.bool true) (by kernel_rfl) (by kernel_rfl) ?_
   try simp only [pA, pB, p1, p2, p3]
   refine wp_takeW (.bool true) (by kernel_rfl) (by kernel_rfl) ?_
   try simp only [pA, pB, p1, p2, p3]
   refine wp_takeW (.pointer (some ⟨gk7, 5, none⟩)) (by kernel_rfl) (by kernel_rfl) ?_
   try simp only [pA, pB, p1, p2, p3]
   refine wp_takeW (.slice xa xn xc) (exec_load 22 _ rfl ⟨gk7, 5, none⟩ (by kernel_rfl) (.slice xa xn xc) (ld22 ((HF.out.box 3 _ _ _ rfl).cell 5))) (by kernel_rfl) ?_
   try simp only [pA, pB, p1, p2, p3]
   refine wp_takeW (.pointer (some ⟨gk1, 1, none⟩)) (by kernel_rfl) (by kernel_rfl) ?_
   try simp only [pA, pB, p1, p2, p3]
   refine wp_takeW (.slice ba bn bc) (exec_load 22 _ rfl ⟨gk1, 1, none⟩ (by kernel_rfl) (.slice ba bn bc) (ld22 ((HF.out.box 0 _ _ _ rfl).cell 1))) (by kernel_rfl) ?_
   try simp only [pA, pB, p1, p2, p3]
   refine wp_callW 35 #[.slice xa xn xc, .slice ba bn bc] (by kernel_rfl) _ (sameE_any xa xn xc ba bn bc l es _ (HX.out.no HF.out.kept) (HB.out.no HF.out.kept) (by omega)) (by kernel_rfl) ?_
   rintro e wk13 ⟨rfl, hk⟩
   have HF : Hid (Fr No w (wk13) [(gk1, 25, Bv.cells ⟨bu, ⟨ba, bn, bc⟩, bsl⟩), (gk3, 25, Bv.cells ⟨nu, ⟨na, nn, nc⟩, nsl⟩), (gk5, 29, Cm.cells c), (gk7, 56, Av.cells ⟨er, ae, ⟨xa, xn, xc⟩⟩), (gk10, 54, En.cells z)]) := HF.out.no hk
   clear hk
   refine ⟨.bool true, by rw [sameE_iff.2 hle], ?_⟩
   try simp only [pA, pB, p1, p2, p3]
   refine wp_takeW (.bool true) (by kernel_rfl) (by kernel_rfl) ?_
   try simp only [pA, pB, p1, p2, p3]
   refine wp_takeW (.bool true) (by kernel_rfl) (by kernel_rfl) ?_
   try simp only [pA, pB, p1, p2, p3]
   refine WL.nil ?_
   try simp only [pA, pB, p1, p2, p3]
   go_wp2
   rw [HC.out]
   exact ⟨rfl, HF.out.kept⟩
  ·skip
   refine wp_takeW (.bool true) (exec_bin .gtr 3 _ _ _ rfl (.int .i64 ((xn : Nat) : Int)) (.int .i64 0) (.bool true) (by kernel_rfl) (by kernel_rfl) (by kernel_rfl) (by rw [b_gtr, q1]; try rfl)) (by kernel_rfl) ?_
   try simp only [pA, pB, p1, p2, p3]
   refine wp_takeW (.bool true) (by kernel_rfl) (by kernel_rfl) ?_
   try simp only [pA, pB, p1, p2, p3]
   refine wp_takeW (.pointer (some ⟨gk5, 0, none⟩)) (by kernel_rfl) (by kernel_rfl) ?_
   try simp only [pA, pB, p1, p2, p3]
   refine wp_takeW (.int .i64 c.k) (exec_load 3 _ rfl ⟨gk5, 0, none⟩ (by kernel_rfl) (.int .i64 c.k) (ld3 ((HF.out.box 2 _ _ _ rfl).cell 0))) (by kernel_rfl) ?_
   try simp only [pA, pB, p1, p2, p3]
   refine wp_takeW (.bool false) (exec_bin .neq 3 _ _ _ rfl (.int .i64 c.k) (.int .i64 4) (.bool false) (by kernel_rfl) (by kernel_rfl) (by kernel_rfl) (by rw [b_neq, h4]; try rfl)) (by kernel_rfl) ?_
   try simp only [pA, pB, p1, p2, p3]
   refine wp_takeW (.bool false) (by kernel_rfl) (by kernel_rfl) ?_
   try simp only [pA, pB, p1, p2, p3]
   refine wp_takeW (.bool false) (by kernel_rfl) (by kernel_rfl) ?_
   try simp only [pA, pB, p1, p2, p3]
   refine WL.nil ?_
   try simp only [pA, pB, p1, p2, p3]
   go_upto_region 9 with fail
   refine WL.start ?_
   refine wp_takeW (.pointer (some ⟨gk5, 0, none⟩)) (by kernel_rfl) (by kernel_rfl) ?_
   try simp only [pA, pB, p1, p2, p3]
   refine wp_takeW (.int .i64 c.k) (exec_load 3 _ rfl ⟨gk5, 0, none⟩ (by kernel_rfl) (.int .i64 c.k) (ld3 ((HF.out.box 2 _ _ _ rfl).cell 0))) (by kernel_rfl) ?_
   try simp only [pA, pB, p1, p2, p3]
   refine wp_takeW (.bool true) (exec_bin .eql 3 _ _ _ rfl (.int .i64 c.k) (.int .i64 4) (.bool true) (by kernel_rfl) (by kernel_rfl) (by kernel_rfl) (by rw [b_eql, h4]; try rfl)) (by kernel_rfl) ?_
   try simp only [pA, pB, p1, p2, p3]
   refine wp_takeW (.bool true) (by kernel_rfl) (by kernel_rfl) ?_
   try simp only [pA, pB, p1, p2, p3]
   refine WL.nil ?_
   try simp only [pA, pB, p1, p2, p3]
   go_upto_region 10 with fail
   refine WL.start ?_
   refine wp_takeW (.pointer (some ⟨gk7, 0, none⟩)) (by kernel_rfl) (by kernel_rfl) ?_
   try simp only [pA, pB, p1, p2, p3]
   refine wp_takeW (.int .i64 er) (exec_load 46 _ rfl ⟨gk7, 0, none⟩ (by kernel_rfl) (.int .i64 er) (ld46 ((HF.out.box 3 _ _ _ rfl).cell 0))) (by kernel_rfl) ?_
   try simp only [pA, pB, p1, p2, p3]
   refine wp_takeW (.bool true) (exec_bin .eql 46 _ _ _ rfl (.int .i64 er) (.int .i64 0) (.bool true) (by kernel_rfl) (by kernel_rfl) (by kernel_rfl) (by rw [b_eql46, h0]; try rfl)) (by kernel_rfl) ?_
   try simp only [pA, pB, p1, p2, p3]
   refine wp_takeW (.bool true) (by kernel_rfl) (by kernel_rfl) ?_
   try simp only [pA, pB, p1, p2, p3]
   refine wp_takeW (.pointer (some ⟨gk7, 1, none⟩)) (by kernel_rfl) (by kernel_rfl) ?_
   try simp only [pA, pB, p1, p2, p3]
   refine wp_takeW (.agg (En.cells ae)) (exec_load 54 _ rfl ⟨gk7, 1, none⟩ (by kernel_rfl) (.agg (En.cells ae)) (ldAE (HF.out.box 3 _ _ _ rfl))) (by kernel_rfl) ?_
   try simp only [pA, pB, p1, p2, p3]
   refine wp_takeW (.agg (En.cells enZ)) (exec_build 54 _ rfl (En.cells enZ) (by kernel_rfl)) (by kernel_rfl) ?_
   try simp only [pA, pB, p1, p2, p3]
   refine wp_takeW (.bool true) (exec_bin .eql 54 _ _ _ rfl (.agg (En.cells ae)) (.agg (En.cells enZ)) (.bool true) (by kernel_rfl) (by kernel_rfl) (by kernel_rfl) (by rw [hez, eqE_eql, eqE_iff.2 rfl])) (by kernel_rfl) ?_
   try simp only [pA, pB, p1, p2, p3]
   refine wp_takeW (.bool true) (by kernel_rfl) (by kernel_rfl) ?_
   try simp only [pA, pB, p1, p2, p3]
   refine wp_takeW (.bool true) (by kernel_rfl) (by kernel_rfl) ?_
   try simp only [pA, pB, p1, p2, p3]
   refine wp_takeW (.pointer (some ⟨gk7, 5, none⟩)) (by kernel_rfl) (by kernel_rfl) ?_
   try simp only [pA, pB, p1, p2, p3]
   refine wp_takeW (.slice xa xn xc) (exec_load 22 _ rfl ⟨gk7, 5, none⟩ (by kernel_rfl) (.slice xa xn xc) (ld22 ((HF.out.box 3 _ _ _ rfl).cell 5))) (by kernel_rfl) ?_
   try simp only [pA, pB, p1, p2, p3]
   refine wp_takeW (.pointer (some ⟨gk1, 1, none⟩)) (by kernel_rfl) (by kernel_rfl) ?_
   try simp only [pA, pB, p1, p2, p3]
   refine wp_takeW (.slice ba bn bc) (exec_load 22 _ rfl ⟨gk1, 1, none⟩ (by kernel_rfl) (.slice ba bn bc) (ld22 ((HF.out.box 0 _ _ _ rfl).cell 1))) (by kernel_rfl) ?_
   try simp only [pA, pB, p1, p2, p3]
   refine wp_callW 35 #[.slice xa xn xc, .slice ba bn bc] (by kernel_rfl) _ (sameE_any xa xn xc ba bn bc l es _ (HX.out.no HF.out.kept) (HB.out.no HF.out.kept) (by omega)) (by kernel_rfl) ?_
   rintro e wk14 ⟨rfl, hk⟩
   have HF : Hid (Fr No w (wk14) [(gk1, 25, Bv.cells ⟨bu, ⟨ba, bn, bc⟩, bsl⟩), (gk3, 25, Bv.cells ⟨nu, ⟨na, nn, nc⟩, nsl⟩), (gk5, 29, Cm.cells c), (gk7, 56, Av.cells ⟨er, ae, ⟨xa, xn, xc⟩⟩), (gk10, 54, En.cells z)]) := HF.out.no hk
   clear hk
   refine ⟨.bool true, by rw [sameE_iff.2 hle], ?_⟩
   try simp only [pA, pB, p1, p2, p3]
   refine wp_takeW (.bool true) (by kernel_rfl) (by kernel_rfl) ?_
   try simp only [pA, pB, p1, p2, p3]
   refine wp_takeW (.bool true) (by kernel_rfl) (by kernel_rfl) ?_
   try simp only [pA, pB, p1, p2, p3]
   refine WL.nil ?_
   try simp only [pA, pB, p1, p2, p3]
   go_wp2
   rw [HC.out]
   exact ⟨rfl, HF.out.kept⟩
set_option maxRecDepth 100000 in
set_option maxHeartbeats 4000000 in
theorem counted_none (bu : Int) (ba : Option Addr) (bn bc : Nat) (bsl : Sl) (nu : Int) (na : Option Addr) (nn nc : Nat) (nsl : Sl) (c : Cm) (er : Int) (ae : En) (xa : Option Addr) (xn xc : Nat) (es es2 l : List En) (w : World) (hb : RdE w ⟨ba, bn, bc⟩ es) (hn : RdE w ⟨na, nn, nc⟩ es2) (hx : RdE w ⟨xa, xn, xc⟩ l) (hbb : bn ≤ 1000) (hnb : nn ≤ 1000) (h0 : (er == 0) = false) (h4 : (c.k == 4) = false) (her : (er == 102) = false → (er == 103) = true) (hez : ae = enZ) (hl0 : l = []) (hnn : nn = bn) (hq : eIs es2 c.nm = false)  : Calls Try.prog 23 #[.agg (Bv.cells ⟨bu, ⟨ba, bn, bc⟩, bsl⟩), .agg (Bv.cells ⟨nu, ⟨na, nn, nc⟩, nsl⟩), .agg (Cm.cells c), .agg (Av.cells ⟨er, ae, ⟨xa, xn, xc⟩⟩)] w (fun e w' => e = .returned (.bool true) ∧ Kept No w w') := by
  obtain ⟨C, hC⟩ : ∃ C : Ending → World → Prop, C = (fun e w' => e = .returned (.bool true) ∧ Kept No w w') := ⟨_, rfl⟩
  have HC : Hid (C = (fun e w' => e = .returned (.bool true) ∧ Kept No w w')) := hC
  rw [← hC]
  clear hC
  have HB : Hid (RdE w ⟨ba, bn, bc⟩ es) := hb
  have HN : Hid (RdE w ⟨na, nn, nc⟩ es2) := hn
  have HX : Hid (RdE w ⟨xa, xn, xc⟩ l) := hx
  clear hb hn hx
  obtain ⟨z, hz⟩ : ∃ z, z = findE es2 c.nm := ⟨_, rfl⟩
  have HFz : Hid (findE es2 c.nm = z) := hz.symm
  clear hz
  have HQ : Hid (eIs es2 c.nm = false) := hq
  have hxn : xn = 0 := by have e1 : l.length = xn := HX.out.len; rw [hl0] at e1; exact e1.symm
  have HF : Hid (Fr No w w []) := Fr.start _ _
  go_enter Try.func23, Try.ntmps23
  go_upto_region 0 with fail
  refine WL.start ?_
  refine wp_runW (.pointer (some ⟨w.heap.size, 0, none⟩)) (w.alloc (.cells (Bv.cells ⟨bu, ⟨ba, bn, bc⟩, bsl⟩) 25)) (exec_box 25 _ rfl (Bv.cells ⟨bu, ⟨ba, bn, bc⟩, bsl⟩) (by kernel_rfl)) (by kernel_rfl) ?_
  try simp only [pA, pB, p1, p2, p3]
  have HF : Hid (Fr No w (w.alloc (.cells (Bv.cells ⟨bu, ⟨ba, bn, bc⟩, bsl⟩) 25)) [(w.heap.size, 25, Bv.cells ⟨bu, ⟨ba, bn, bc⟩, bsl⟩)]) := HF.out.alloc _ _
  generalize w.alloc (.cells (Bv.cells ⟨bu, ⟨ba, bn, bc⟩, bsl⟩) 25) = wk2 at HF ⊢
  generalize w.heap.size = gk1 at HF ⊢
  refine wp_runW (.pointer (some ⟨wk2.heap.size, 0, none⟩)) (wk2.alloc (.cells (Bv.cells ⟨nu, ⟨na, nn, nc⟩, nsl⟩) 25)) (exec_box 25 _ rfl (Bv.cells ⟨nu, ⟨na, nn, nc⟩, nsl⟩) (by kernel_rfl)) (by kernel_rfl) ?_
  try simp only [pA, pB, p1, p2, p3]
  have HF : Hid (Fr No w (wk2.alloc (.cells (Bv.cells ⟨nu, ⟨na, nn, nc⟩, nsl⟩) 25)) [(gk1, 25, Bv.cells ⟨bu, ⟨ba, bn, bc⟩, bsl⟩), (wk2.heap.size, 25, Bv.cells ⟨nu, ⟨na, nn, nc⟩, nsl⟩)]) := HF.out.alloc _ _
  generalize wk2.alloc (.cells (Bv.cells ⟨nu, ⟨na, nn, nc⟩, nsl⟩) 25) = wk4 at HF ⊢
  generalize wk2.heap.size = gk3 at HF ⊢
  refine wp_runW (.pointer (some ⟨wk4.heap.size, 0, none⟩)) (wk4.alloc (.cells (Cm.cells c) 29)) (exec_box 29 _ rfl (Cm.cells c) (by kernel_rfl)) (by kernel_rfl) ?_
  try simp only [pA, pB, p1, p2, p3]
  have HF : Hid (Fr No w (wk4.alloc (.cells (Cm.cells c) 29)) [(gk1, 25, Bv.cells ⟨bu, ⟨ba, bn, bc⟩, bsl⟩), (gk3, 25, Bv.cells ⟨nu, ⟨na, nn, nc⟩, nsl⟩), (wk4.heap.size, 29, Cm.cells c)]) := HF.out.alloc _ _
  generalize wk4.alloc (.cells (Cm.cells c) 29) = wk6 at HF ⊢
  generalize wk4.heap.size = gk5 at HF ⊢
  refine wp_runW (.pointer (some ⟨wk6.heap.size, 0, none⟩)) (wk6.alloc (.cells (Av.cells ⟨er, ae, ⟨xa, xn, xc⟩⟩) 56)) (exec_box 56 _ rfl (Av.cells ⟨er, ae, ⟨xa, xn, xc⟩⟩) (by kernel_rfl)) (by kernel_rfl) ?_
  try simp only [pA, pB, p1, p2, p3]
  have HF : Hid (Fr No w (wk6.alloc (.cells (Av.cells ⟨er, ae, ⟨xa, xn, xc⟩⟩) 56)) [(gk1, 25, Bv.cells ⟨bu, ⟨ba, bn, bc⟩, bsl⟩), (gk3, 25, Bv.cells ⟨nu, ⟨na, nn, nc⟩, nsl⟩), (gk5, 29, Cm.cells c), (wk6.heap.size, 56, Av.cells ⟨er, ae, ⟨xa, xn, xc⟩⟩)]) := HF.out.alloc _ _
  generalize wk6.alloc (.cells (Av.cells ⟨er, ae, ⟨xa, xn, xc⟩⟩) 56) = wk8 at HF ⊢
  generalize wk6.heap.size = gk7 at HF ⊢
  refine wp_takeW (.bool false) (by kernel_rfl) (by kernel_rfl) ?_
  try simp only [pA, pB, p1, p2, p3]
  refine WL.nil ?_
  try simp only [pA, pB, p1, p2, p3]
  go_upto_region 1 with fail
  refine WL.start ?_
  refine wp_takeW (.pointer (some ⟨gk1, 1, none⟩)) (by kernel_rfl) (by kernel_rfl) ?_
  try simp only [pA, pB, p1, p2, p3]
  refine wp_takeW (.slice ba bn bc) (exec_load 22 _ rfl ⟨gk1, 1, none⟩ (by kernel_rfl) (.slice ba bn bc) (ld22 ((HF.out.box 0 _ _ _ rfl).cell 1))) (by kernel_rfl) ?_
  try simp only [pA, pB, p1, p2, p3]
  refine wp_takeW (.int .i64 ((bn : Nat) : Int)) (by kernel_rfl) (by kernel_rfl) ?_
  try simp only [pA, pB, p1, p2, p3]
  refine wp_takeW (.int .i64 ((bn : Nat) : Int)) (by kernel_rfl) (by kernel_rfl) ?_
  try simp only [pA, pB, p1, p2, p3]
  refine WL.nil ?_
  try simp only [pA, pB, p1, p2, p3]
  go_upto_region 2 with fail
  refine WL.start ?_
  refine wp_takeW (.pointer (some ⟨gk7, 0, none⟩)) (by kernel_rfl) (by kernel_rfl) ?_
  try simp only [pA, pB, p1, p2, p3]
  refine wp_takeW (.int .i64 er) (exec_load 46 _ rfl ⟨gk7, 0, none⟩ (by kernel_rfl) (.int .i64 er) (ld46 ((HF.out.box 3 _ _ _ rfl).cell 0))) (by kernel_rfl) ?_
  try simp only [pA, pB, p1, p2, p3]
  refine wp_takeW (.bool false) (exec_bin .eql 46 _ _ _ rfl (.int .i64 er) (.int .i64 0) (.bool false) (by kernel_rfl) (by kernel_rfl) (by kernel_rfl) (by rw [b_eql46, h0]; try rfl)) (by kernel_rfl) ?_
  try simp only [pA, pB, p1, p2, p3]
  refine wp_takeW (.bool false) (by kernel_rfl) (by kernel_rfl) ?_
  try simp only [pA, pB, p1, p2, p3]
  refine wp_skip (by kernel_rfl) ?_
  try simp only [pA, pB, p1, p2, p3]
  refine wp_skip (by kernel_rfl) ?_
  try simp only [pA, pB, p1, p2, p3]
  refine wp_skip (by kernel_rfl) ?_
  try simp only [pA, pB, p1, p2, p3]
  refine wp_takeW (.bool false) (by kernel_rfl) (by kernel_rfl) ?_
  try simp only [pA, pB, p1, p2, p3]
  refine WL.nil ?_
  try simp only [pA, pB, p1, p2, p3]
  go_upto_region 4 with fail
  refine WL.start ?_
  refine wp_takeW (.pointer (some ⟨gk7, 0, none⟩)) (by kernel_rfl) (by kernel_rfl) ?_
  try simp only [pA, pB, p1, p2, p3]
  refine wp_takeW (.int .i64 er) (exec_load 46 _ rfl ⟨gk7, 0, none⟩ (by kernel_rfl) (.int .i64 er) (ld46 ((HF.out.box 3 _ _ _ rfl).cell 0))) (by kernel_rfl) ?_
  try simp only [pA, pB, p1, p2, p3]
  refine wp_takeW (.bool false) (exec_bin .eql 46 _ _ _ rfl (.int .i64 er) (.int .i64 0) (.bool false) (by kernel_rfl) (by kernel_rfl) (by kernel_rfl) (by rw [b_eql46, h0]; try rfl)) (by kernel_rfl) ?_
  try simp only [pA, pB, p1, p2, p3]
  refine wp_takeW (.bool false) (by kernel_rfl) (by kernel_rfl) ?_
  try simp only [pA, pB, p1, p2, p3]
  refine wp_skip (by kernel_rfl) ?_
  try simp only [pA, pB, p1, p2, p3]
  refine wp_skip (by kernel_rfl) ?_
  try simp only [pA, pB, p1, p2, p3]
  refine wp_skip (by kernel_rfl) ?_
  try simp only [pA, pB, p1, p2, p3]
  refine wp_takeW (.bool false) (by kernel_rfl) (by kernel_rfl) ?_
  try simp only [pA, pB, p1, p2, p3]
  refine WL.nil ?_
  try simp only [pA, pB, p1, p2, p3]
  go_upto_region 6 with fail
  refine WL.start ?_
  refine wp_takeW (.agg (Bv.cells ⟨nu, ⟨na, nn, nc⟩, nsl⟩)) (exec_load 25 _ rfl ⟨gk3, 0, none⟩ (by kernel_rfl) (.agg (Bv.cells ⟨nu, ⟨na, nn, nc⟩, nsl⟩)) (ld25 (HF.out.box 1 _ _ _ rfl))) (by kernel_rfl) ?_
  try simp only [pA, pB, p1, p2, p3]
  refine wp_takeW (.pointer (some ⟨gk5, 3, none⟩)) (by kernel_rfl) (by kernel_rfl) ?_
  try simp only [pA, pB, p1, p2, p3]
  refine wp_takeW (.string c.nm) (exec_load 9 _ rfl ⟨gk5, 3, none⟩ (by kernel_rfl) (.string c.nm) (ld9 ((HF.out.box 2 _ _ _ rfl).cell 3))) (by kernel_rfl) ?_
  try simp only [pA, pB, p1, p2, p3]
  refine wp_callW 24 #[.agg (Bv.cells ⟨nu, ⟨na, nn, nc⟩, nsl⟩), .string c.nm] (by kernel_rfl) _ (find_any nu na nn nc nsl es2 c.nm _ HN.out.len (by omega) (HN.out.no HF.out.kept).row) (by kernel_rfl) ?_
  rintro e wk9 ⟨rfl, hk⟩
  have HF : Hid (Fr No w (wk9) [(gk1, 25, Bv.cells ⟨bu, ⟨ba, bn, bc⟩, bsl⟩), (gk3, 25, Bv.cells ⟨nu, ⟨na, nn, nc⟩, nsl⟩), (gk5, 29, Cm.cells c), (gk7, 56, Av.cells ⟨er, ae, ⟨xa, xn, xc⟩⟩)]) := HF.out.no hk
  clear hk
  refine ⟨.tuple #[.agg (En.cells z), .bool false], by rw [HFz.out, HQ.out], ?_⟩
  try simp only [pA, pB, p1, p2, p3]
  refine wp_takeW (.tuple #[.agg (En.cells z), .bool false]) (by kernel_rfl) (by kernel_rfl) ?_
  try simp only [pA, pB, p1, p2, p3]
  refine wp_takeW (.agg (En.cells z)) (by kernel_rfl) (by kernel_rfl) ?_
  try simp only [pA, pB, p1, p2, p3]
  refine wp_takeW (.bool false) (by kernel_rfl) (by kernel_rfl) ?_
  try simp only [pA, pB, p1, p2, p3]
  refine wp_runW (.pointer (some ⟨wk9.heap.size, 0, none⟩)) (wk9.alloc (.cells (En.cells enZ) 54)) (exec_alloc 54 rfl (En.cells enZ) zero54) (by kernel_rfl) ?_
  try simp only [pA, pB, p1, p2, p3]
  have HF : Hid (Fr No w (wk9.alloc (.cells (En.cells enZ) 54)) [(gk1, 25, Bv.cells ⟨bu, ⟨ba, bn, bc⟩, bsl⟩), (gk3, 25, Bv.cells ⟨nu, ⟨na, nn, nc⟩, nsl⟩), (gk5, 29, Cm.cells c), (gk7, 56, Av.cells ⟨er, ae, ⟨xa, xn, xc⟩⟩), (wk9.heap.size, 54, En.cells enZ)]) := HF.out.alloc _ _
  generalize wk9.alloc (.cells (En.cells enZ) 54) = wk11 at HF ⊢
  generalize wk9.heap.size = gk10 at HF ⊢
  refine wp_storeW 54 _ _ rfl ⟨gk10, 0, none⟩ (.agg (En.cells z)) (by kernel_rfl) (by kernel_rfl) (wk11.setRow gk10 (En.cells z)) (st54 (HF.out.box 4 _ _ _ rfl) rfl) (by kernel_rfl) ?_
  try simp only [pA, pB, p1, p2, p3]
  have HF : Hid (Fr No w (wk11.setRow gk10 (En.cells z)) [(gk1, 25, Bv.cells ⟨bu, ⟨ba, bn, bc⟩, bsl⟩), (gk3, 25, Bv.cells ⟨nu, ⟨na, nn, nc⟩, nsl⟩), (gk5, 29, Cm.cells c), (gk7, 56, Av.cells ⟨er, ae, ⟨xa, xn, xc⟩⟩), (gk10, 54, En.cells z)]) := HF.out.set 4 rfl _
  generalize wk11.setRow gk10 (En.cells z) = wk12 at HF ⊢
  refine wp_takeW (.bool false) (by kernel_rfl) (by kernel_rfl) ?_
  try simp only [pA, pB, p1, p2, p3]
  refine WL.nil ?_
  try simp only [pA, pB, p1, p2, p3]
  go_upto_region 7 with fail
  refine WL.start ?_
  refine wp_takeW (.pointer (some ⟨gk3, 1, none⟩)) (by kernel_rfl) (by kernel_rfl) ?_
  try simp only [pA, pB, p1, p2, p3]
  refine wp_takeW (.slice na nn nc) (exec_load 22 _ rfl ⟨gk3, 1, none⟩ (by kernel_rfl) (.slice na nn nc) (ld22 ((HF.out.box 1 _ _ _ rfl).cell 1))) (by kernel_rfl) ?_
  try simp only [pA, pB, p1, p2, p3]
  refine wp_takeW (.int .i64 ((nn : Nat) : Int)) (by kernel_rfl) (by kernel_rfl) ?_
  try simp only [pA, pB, p1, p2, p3]
  refine wp_takeW (.int .i64 ((bn : Nat) : Int)) (by kernel_rfl) (by kernel_rfl) ?_
  try simp only [pA, pB, p1, p2, p3]
  refine wp_takeW (.bool false) (exec_bin .neq 3 _ _ _ rfl (.int .i64 ((nn : Nat) : Int)) (.int .i64 ((bn : Nat) : Int)) (.bool false) (by kernel_rfl) (by kernel_rfl) (by kernel_rfl) (by rw [b_neq, show ((nn : Nat) : Int) = ((bn : Nat) : Int) by omega]; simp)) (by kernel_rfl) ?_
  try simp only [pA, pB, p1, p2, p3]
  refine wp_takeW (.bool false) (by kernel_rfl) (by kernel_rfl) ?_
  try simp only [pA, pB, p1, p2, p3]
  refine wp_takeW (.pointer (some ⟨gk7, 5, none⟩)) (by kernel_rfl) (by kernel_rfl) ?_
  try simp only [pA, pB, p1, p2, p3]
  refine wp_takeW (.slice xa xn xc) (exec_load 22 _ rfl ⟨gk7, 5, none⟩ (by kernel_rfl) (.slice xa xn xc) (ld22 ((HF.out.box 3 _ _ _ rfl).cell 5))) (by kernel_rfl) ?_
  try simp only [pA, pB, p1, p2, p3]
  refine wp_takeW (.int .i64 ((xn : Nat) : Int)) (by kernel_rfl) (by kernel_rfl) ?_
  try simp only [pA, pB, p1, p2, p3]
  refine wp_takeW (.bool false) (exec_bin .gtr 3 _ _ _ rfl (.int .i64 ((xn : Nat) : Int)) (.int .i64 0) (.bool false) (by kernel_rfl) (by kernel_rfl) (by kernel_rfl) (by rw [b_gtr, decide_eq_false (by omega)])) (by kernel_rfl) ?_
  try simp only [pA, pB, p1, p2, p3]
  refine wp_takeW (.bool false) (by kernel_rfl) (by kernel_rfl) ?_
  try simp only [pA, pB, p1, p2, p3]
  refine wp_skip (by kernel_rfl) ?_
  try simp only [pA, pB, p1, p2, p3]
  refine wp_skip (by kernel_rfl) ?_
  try simp only [pA, pB, p1, p2, p3]
  refine wp_skip (by kernel_rfl) ?_
  try simp only [pA, pB, p1, p2, p3]
  refine wp_takeW (.bool false) (by kernel_rfl) (by kernel_rfl) ?_
  try simp only [pA, pB, p1, p2, p3]
  refine wp_takeW (.bool false) (by kernel_rfl) (by kernel_rfl) ?_
  try simp only [pA, pB, p1, p2, p3]
  refine WL.nil ?_
  try simp only [pA, pB, p1, p2, p3]
  go_upto_region 9 with fail
  refine WL.start ?_
  refine wp_takeW (.pointer (some ⟨gk5, 0, none⟩)) (by kernel_rfl) (by kernel_rfl) ?_
  try simp only [pA, pB, p1, p2, p3]
  refine wp_takeW (.int .i64 c.k) (exec_load 3 _ rfl ⟨gk5, 0, none⟩ (by kernel_rfl) (.int .i64 c.k) (ld3 ((HF.out.box 2 _ _ _ rfl).cell 0))) (by kernel_rfl) ?_
  try simp only [pA, pB, p1, p2, p3]
  refine wp_takeW (.bool false) (exec_bin .eql 3 _ _ _ rfl (.int .i64 c.k) (.int .i64 4) (.bool false) (by kernel_rfl) (by kernel_rfl) (by kernel_rfl) (by rw [b_eql, h4]; try rfl)) (by kernel_rfl) ?_
  try simp only [pA, pB, p1, p2, p3]
  refine wp_takeW (.bool false) (by kernel_rfl) (by kernel_rfl) ?_
  try simp only [pA, pB, p1, p2, p3]
  refine WL.nil ?_
  try simp only [pA, pB, p1, p2, p3]
  go_upto_region 11 with fail
  refine WL.start ?_
  refine wp_takeW (.pointer (some ⟨gk7, 0, none⟩)) (by kernel_rfl) (by kernel_rfl) ?_
  try simp only [pA, pB, p1, p2, p3]
  refine wp_takeW (.int .i64 er) (exec_load 46 _ rfl ⟨gk7, 0, none⟩ (by kernel_rfl) (.int .i64 er) (ld46 ((HF.out.box 3 _ _ _ rfl).cell 0))) (by kernel_rfl) ?_
  try simp only [pA, pB, p1, p2, p3]
  cases q1 : (er == 102)
  ·skip
   refine wp_takeW (.bool false) (exec_bin .eql 46 _ _ _ rfl (.int .i64 er) (.int .i64 102) (.bool false) (by kernel_rfl) (by kernel_rfl) (by kernel_rfl) (by rw [b_eql46, q1]; try rfl)) (by kernel_rfl) ?_
   try simp only [pA, pB, p1, p2, p3]
   refine wp_takeW (.bool false) (by kernel_rfl) (by kernel_rfl) ?_
   try simp only [pA, pB, p1, p2, p3]
   refine wp_takeW (.pointer (some ⟨gk7, 0, none⟩)) (by kernel_rfl) (by kernel_rfl) ?_
   try simp only [pA, pB, p1, p2, p3]
   refine wp_takeW (.int .i64 er) (exec_load 46 _ rfl ⟨gk7, 0, none⟩ (by kernel_rfl) (.int .i64 er) (ld46 ((HF.out.box 3 _ _ _ rfl).cell 0))) (by kernel_rfl) ?_
   try simp only [pA, pB, p1, p2, p3]
   cases q2 : (er == 103)
   · exact absurd (her q1) (by rw [q2]; simp)
   ·skip
    refine wp_takeW (.bool true) (exec_bin .eql 46 _ _ _ rfl (.int .i64 er) (.int .i64 103) (.bool true) (by kernel_rfl) (by kernel_rfl) (by kernel_rfl) (by rw [b_eql46, q2]; try rfl)) (by kernel_rfl) ?_
    try simp only [pA, pB, p1, p2, p3]
    refine wp_takeW (.bool true) (by kernel_rfl) (by kernel_rfl) ?_
    try simp only [pA, pB, p1, p2, p3]
    refine wp_takeW (.bool true) (by kernel_rfl) (by kernel_rfl) ?_
    try simp only [pA, pB, p1, p2, p3]
    refine WL.nil ?_
    try simp only [pA, pB, p1, p2, p3]
    go_upto_region 12 with fail
    refine WL.start ?_
    refine wp_takeW (.bool false) (by kernel_rfl) (by kernel_rfl) ?_
    try simp only [pA, pB, p1, p2, p3]
    refine wp_takeW (.bool true) (by kernel_rfl) (by kernel_rfl) ?_
    try simp only [pA, pB, p1, p2, p3]
    refine wp_takeW (.bool true) (by kernel_rfl) (by kernel_rfl) ?_
    try simp only [pA, pB, p1, p2, p3]
    refine wp_takeW (.pointer (some ⟨gk7, 1, none⟩)) (by kernel_rfl) (by kernel_rfl) ?_
    try simp only [pA, pB, p1, p2, p3]
    refine wp_takeW (.agg (En.cells ae)) (exec_load 54 _ rfl ⟨gk7, 1, none⟩ (by kernel_rfl) (.agg (En.cells ae)) (ldAE (HF.out.box 3 _ _ _ rfl))) (by kernel_rfl) ?_
    try simp only [pA, pB, p1, p2, p3]
    refine wp_takeW (.agg (En.cells enZ)) (exec_build 54 _ rfl (En.cells enZ) (by kernel_rfl)) (by kernel_rfl) ?_
    try simp only [pA, pB, p1, p2, p3]
    refine wp_takeW (.bool true) (exec_bin .eql 54 _ _ _ rfl (.agg (En.cells ae)) (.agg (En.cells enZ)) (.bool true) (by kernel_rfl) (by kernel_rfl) (by kernel_rfl) (by rw [hez, eqE_eql, eqE_iff.2 rfl])) (by kernel_rfl) ?_
    try simp only [pA, pB, p1, p2, p3]
    refine wp_takeW (.bool true) (by kernel_rfl) (by kernel_rfl) ?_
    try simp only [pA, pB, p1, p2, p3]
    refine wp_takeW (.bool true) (by kernel_rfl) (by kernel_rfl) ?_
    try simp only [pA, pB, p1, p2, p3]
    refine WL.nil ?_
    try simp only [pA, pB, p1, p2, p3]
    go_wp2
    rw [HC.out]
    exact ⟨rfl, HF.out.kept⟩
  ·skip
   refine wp_takeW (.bool true) (exec_bin .eql 46 _ _ _ rfl (.int .i64 er) (.int .i64 102) (.bool true) (by kernel_rfl) (by kernel_rfl) (by kernel_rfl) (by rw [b_eql46, q1]; try rfl)) (by kernel_rfl) ?_
   try simp only [pA, pB, p1, p2, p3]
   refine wp_takeW (.bool true) (by kernel_rfl) (by kernel_rfl) ?_
   try simp only [pA, pB, p1, p2, p3]
   refine wp_skip (by kernel_rfl) ?_
   try simp only [pA, pB, p1, p2, p3]
   refine wp_skip (by kernel_rfl) ?_
   try simp only [pA, pB, p1, p2, p3]
   refine wp_skip (by kernel_rfl) ?_
   try simp only [pA, pB, p1, p2, p3]
   refine wp_takeW (.bool true) (by kernel_rfl) (by kernel_rfl) ?_
   try simp only [pA, pB, p1, p2, p3]
   refine wp_takeW (.bool true) (by kernel_rfl) (by kernel_rfl) ?_
   try simp only [pA, pB, p1, p2, p3]
   refine WL.nil ?_
   try simp only [pA, pB, p1, p2, p3]
   go_upto_region 12 with fail
   refine WL.start ?_
   refine wp_takeW (.bool false) (by kernel_rfl) (by kernel_rfl) ?_
   try simp only [pA, pB, p1, p2, p3]
   refine wp_takeW (.bool true) (by kernel_rfl) (by kernel_rfl) ?_
   try simp only [pA, pB, p1, p2, p3]
   refine wp_takeW (.bool true) (by kernel_rfl) (by kernel_rfl) ?_
   try simp only [pA, pB, p1, p2, p3]
   refine wp_takeW (.pointer (some ⟨gk7, 1, none⟩)) (by kernel_rfl) (by kernel_rfl) ?_
   try simp only [pA, pB, p1, p2, p3]
   refine wp_takeW (.agg (En.cells ae)) (exec_load 54 _ rfl ⟨gk7, 1, none⟩ (by kernel_rfl) (.agg (En.cells ae)) (ldAE (HF.out.box 3 _ _ _ rfl))) (by kernel_rfl) ?_
   try simp only [pA, pB, p1, p2, p3]
   refine wp_takeW (.agg (En.cells enZ)) (exec_build 54 _ rfl (En.cells enZ) (by kernel_rfl)) (by kernel_rfl) ?_
   try simp only [pA, pB, p1, p2, p3]
   refine wp_takeW (.bool true) (exec_bin .eql 54 _ _ _ rfl (.agg (En.cells ae)) (.agg (En.cells enZ)) (.bool true) (by kernel_rfl) (by kernel_rfl) (by kernel_rfl) (by rw [hez, eqE_eql, eqE_iff.2 rfl])) (by kernel_rfl) ?_
   try simp only [pA, pB, p1, p2, p3]
   refine wp_takeW (.bool true) (by kernel_rfl) (by kernel_rfl) ?_
   try simp only [pA, pB, p1, p2, p3]
   refine wp_takeW (.bool true) (by kernel_rfl) (by kernel_rfl) ?_
   try simp only [pA, pB, p1, p2, p3]
   refine WL.nil ?_
   try simp only [pA, pB, p1, p2, p3]
   go_wp2
   rw [HC.out]
   exact ⟨rfl, HF.out.kept⟩
set_option maxRecDepth 100000 in
set_option maxHeartbeats 4000000 in
theorem counted_del (bu : Int) (ba : Option Addr) (bn bc : Nat) (bsl : Sl) (nu : Int) (na : Option Addr) (nn nc : Nat) (nsl : Sl) (c : Cm) (er : Int) (ae : En) (xa : Option Addr) (xn xc : Nat) (es es2 l : List En) (w : World) (hb : RdE w ⟨ba, bn, bc⟩ es) (hn : RdE w ⟨na, nn, nc⟩ es2) (hx : RdE w ⟨xa, xn, xc⟩ l) (hbb : bn ≤ 1000) (hnb : nn ≤ 1000) (h0 : (er == 0) = true) (h1 : (c.k == 1) = false) (h2 : (c.k == 2) = true) (h4 : (c.k == 4) = false) (he2 : (er == 102) = false) (he3 : (er == 103) = false) (hl0 : l = []) (hnn : nn = bn - 1) (hb1 : 1 ≤ bn) (hq : eIs es2 c.nm = false) (hf1 : findE es c.nm = ae) (hi1 : eIs es c.nm = true)  : Calls Try.prog 23 #[.agg (Bv.cells ⟨bu, ⟨ba, bn, bc⟩, bsl⟩), .agg (Bv.cells ⟨nu, ⟨na, nn, nc⟩, nsl⟩), .agg (Cm.cells c), .agg (Av.cells ⟨er, ae, ⟨xa, xn, xc⟩⟩)] w (fun e w' => e = .returned (.bool true) ∧ Kept No w w') := by
  obtain ⟨C, hC⟩ : ∃ C : Ending → World → Prop, C = (fun e w' => e = .returned (.bool true) ∧ Kept No w w') := ⟨_, rfl⟩
  have HC : Hid (C = (fun e w' => e = .returned (.bool true) ∧ Kept No w w')) := hC
  rw [← hC]
  clear hC
  have HB : Hid (RdE w ⟨ba, bn, bc⟩ es) := hb
  have HN : Hid (RdE w ⟨na, nn, nc⟩ es2) := hn
  have HX : Hid (RdE w ⟨xa, xn, xc⟩ l) := hx
  clear hb hn hx
  obtain ⟨z, hz⟩ : ∃ z, z = findE es2 c.nm := ⟨_, rfl⟩
  have HFz : Hid (findE es2 c.nm = z) := hz.symm
  clear hz
  have HQ : Hid (eIs es2 c.nm = false) := hq
  have HF1 : Hid (findE es c.nm = ae) := hf1
  have HI1 : Hid (eIs es c.nm = true) := hi1
  have hxn : xn = 0 := by have e1 : l.length = xn := HX.out.len; rw [hl0] at e1; exact e1.symm
  have HF : Hid (Fr No w w []) := Fr.start _ _
  go_enter Try.func23, Try.ntmps23
  go_upto_region 0 with fail
  refine WL.start ?_
  refine wp_runW (.pointer (some ⟨w.heap.size, 0, none⟩)) (w.alloc (.cells (Bv.cells ⟨bu, ⟨ba, bn, bc⟩, bsl⟩) 25)) (exec_box 25 _ rfl (Bv.cells ⟨bu, ⟨ba, bn, bc⟩, bsl⟩) (by kernel_rfl)) (by kernel_rfl) ?_
  try simp only [pA, pB, p1, p2, p3]
  have HF : Hid (Fr No w (w.alloc (.cells (Bv.cells ⟨bu, ⟨ba, bn, bc⟩, bsl⟩) 25)) [(w.heap.size, 25, Bv.cells ⟨bu, ⟨ba, bn, bc⟩, bsl⟩)]) := HF.out.alloc _ _
  generalize w.alloc (.cells (Bv.cells ⟨bu, ⟨ba, bn, bc⟩, bsl⟩) 25) = wk2 at HF ⊢
  generalize w.heap.size = gk1 at HF ⊢
  refine wp_runW (.pointer (some ⟨wk2.heap.size, 0, none⟩)) (wk2.alloc (.cells (Bv.cells ⟨nu, ⟨na, nn, nc⟩, nsl⟩) 25)) (exec_box 25 _ rfl (Bv.cells ⟨nu, ⟨na, nn, nc⟩, nsl⟩) (by kernel_rfl)) (by kernel_rfl) ?_
  try simp only [pA, pB, p1, p2, p3]
  have HF : Hid (Fr No w (wk2.alloc (.cells (Bv.cells ⟨nu, ⟨na, nn, nc⟩, nsl⟩) 25)) [(gk1, 25, Bv.cells ⟨bu, ⟨ba, bn, bc⟩, bsl⟩), (wk2.heap.size, 25, Bv.cells ⟨nu, ⟨na, nn, nc⟩, nsl⟩)]) := HF.out.alloc _ _
  generalize wk2.alloc (.cells (Bv.cells ⟨nu, ⟨na, nn, nc⟩, nsl⟩) 25) = wk4 at HF ⊢
  generalize wk2.heap.size = gk3 at HF ⊢
  refine wp_runW (.pointer (some ⟨wk4.heap.size, 0, none⟩)) (wk4.alloc (.cells (Cm.cells c) 29)) (exec_box 29 _ rfl (Cm.cells c) (by kernel_rfl)) (by kernel_rfl) ?_
  try simp only [pA, pB, p1, p2, p3]
  have HF : Hid (Fr No w (wk4.alloc (.cells (Cm.cells c) 29)) [(gk1, 25, Bv.cells ⟨bu, ⟨ba, bn, bc⟩, bsl⟩), (gk3, 25, Bv.cells ⟨nu, ⟨na, nn, nc⟩, nsl⟩), (wk4.heap.size, 29, Cm.cells c)]) := HF.out.alloc _ _
  generalize wk4.alloc (.cells (Cm.cells c) 29) = wk6 at HF ⊢
  generalize wk4.heap.size = gk5 at HF ⊢
  refine wp_runW (.pointer (some ⟨wk6.heap.size, 0, none⟩)) (wk6.alloc (.cells (Av.cells ⟨er, ae, ⟨xa, xn, xc⟩⟩) 56)) (exec_box 56 _ rfl (Av.cells ⟨er, ae, ⟨xa, xn, xc⟩⟩) (by kernel_rfl)) (by kernel_rfl) ?_
  try simp only [pA, pB, p1, p2, p3]
  have HF : Hid (Fr No w (wk6.alloc (.cells (Av.cells ⟨er, ae, ⟨xa, xn, xc⟩⟩) 56)) [(gk1, 25, Bv.cells ⟨bu, ⟨ba, bn, bc⟩, bsl⟩), (gk3, 25, Bv.cells ⟨nu, ⟨na, nn, nc⟩, nsl⟩), (gk5, 29, Cm.cells c), (wk6.heap.size, 56, Av.cells ⟨er, ae, ⟨xa, xn, xc⟩⟩)]) := HF.out.alloc _ _
  generalize wk6.alloc (.cells (Av.cells ⟨er, ae, ⟨xa, xn, xc⟩⟩) 56) = wk8 at HF ⊢
  generalize wk6.heap.size = gk7 at HF ⊢
  refine wp_takeW (.bool false) (by kernel_rfl) (by kernel_rfl) ?_
  try simp only [pA, pB, p1, p2, p3]
  refine WL.nil ?_
  try simp only [pA, pB, p1, p2, p3]
  go_upto_region 1 with fail
  refine WL.start ?_
  refine wp_takeW (.pointer (some ⟨gk1, 1, none⟩)) (by kernel_rfl) (by kernel_rfl) ?_
  try simp only [pA, pB, p1, p2, p3]
  refine wp_takeW (.slice ba bn bc) (exec_load 22 _ rfl ⟨gk1, 1, none⟩ (by kernel_rfl) (.slice ba bn bc) (ld22 ((HF.out.box 0 _ _ _ rfl).cell 1))) (by kernel_rfl) ?_
  try simp only [pA, pB, p1, p2, p3]
  refine wp_takeW (.int .i64 ((bn : Nat) : Int)) (by kernel_rfl) (by kernel_rfl) ?_
  try simp only [pA, pB, p1, p2, p3]
  refine wp_takeW (.int .i64 ((bn : Nat) : Int)) (by kernel_rfl) (by kernel_rfl) ?_
  try simp only [pA, pB, p1, p2, p3]
  refine WL.nil ?_
  try simp only [pA, pB, p1, p2, p3]
  go_upto_region 2 with fail
  refine WL.start ?_
  refine wp_takeW (.pointer (some ⟨gk7, 0, none⟩)) (by kernel_rfl) (by kernel_rfl) ?_
  try simp only [pA, pB, p1, p2, p3]
  refine wp_takeW (.int .i64 er) (exec_load 46 _ rfl ⟨gk7, 0, none⟩ (by kernel_rfl) (.int .i64 er) (ld46 ((HF.out.box 3 _ _ _ rfl).cell 0))) (by kernel_rfl) ?_
  try simp only [pA, pB, p1, p2, p3]
  refine wp_takeW (.bool true) (exec_bin .eql 46 _ _ _ rfl (.int .i64 er) (.int .i64 0) (.bool true) (by kernel_rfl) (by kernel_rfl) (by kernel_rfl) (by rw [b_eql46, h0]; try rfl)) (by kernel_rfl) ?_
  try simp only [pA, pB, p1, p2, p3]
  refine wp_takeW (.bool true) (by kernel_rfl) (by kernel_rfl) ?_
  try simp only [pA, pB, p1, p2, p3]
  refine wp_takeW (.pointer (some ⟨gk5, 0, none⟩)) (by kernel_rfl) (by kernel_rfl) ?_
  try simp only [pA, pB, p1, p2, p3]
  refine wp_takeW (.int .i64 c.k) (exec_load 3 _ rfl ⟨gk5, 0, none⟩ (by kernel_rfl) (.int .i64 c.k) (ld3 ((HF.out.box 2 _ _ _ rfl).cell 0))) (by kernel_rfl) ?_
  try simp only [pA, pB, p1, p2, p3]
  refine wp_takeW (.bool false) (exec_bin .eql 3 _ _ _ rfl (.int .i64 c.k) (.int .i64 1) (.bool false) (by kernel_rfl) (by kernel_rfl) (by kernel_rfl) (by rw [b_eql, h1]; try rfl)) (by kernel_rfl) ?_
  try simp only [pA, pB, p1, p2, p3]
  refine wp_takeW (.bool false) (by kernel_rfl) (by kernel_rfl) ?_
  try simp only [pA, pB, p1, p2, p3]
  refine WL.nil ?_
  try simp only [pA, pB, p1, p2, p3]
  go_upto_region 4 with fail
  refine WL.start ?_
  refine wp_takeW (.pointer (some ⟨gk7, 0, none⟩)) (by kernel_rfl) (by kernel_rfl) ?_
  try simp only [pA, pB, p1, p2, p3]
  refine wp_takeW (.int .i64 er) (exec_load 46 _ rfl ⟨gk7, 0, none⟩ (by kernel_rfl) (.int .i64 er) (ld46 ((HF.out.box 3 _ _ _ rfl).cell 0))) (by kernel_rfl) ?_
  try simp only [pA, pB, p1, p2, p3]
  refine wp_takeW (.bool true) (exec_bin .eql 46 _ _ _ rfl (.int .i64 er) (.int .i64 0) (.bool true) (by kernel_rfl) (by kernel_rfl) (by kernel_rfl) (by rw [b_eql46, h0]; try rfl)) (by kernel_rfl) ?_
  try simp only [pA, pB, p1, p2, p3]
  refine wp_takeW (.bool true) (by kernel_rfl) (by kernel_rfl) ?_
  try simp only [pA, pB, p1, p2, p3]
  refine wp_takeW (.pointer (some ⟨gk5, 0, none⟩)) (by kernel_rfl) (by kernel_rfl) ?_
  try simp only [pA, pB, p1, p2, p3]
  refine wp_takeW (.int .i64 c.k) (exec_load 3 _ rfl ⟨gk5, 0, none⟩ (by kernel_rfl) (.int .i64 c.k) (ld3 ((HF.out.box 2 _ _ _ rfl).cell 0))) (by kernel_rfl) ?_
  try simp only [pA, pB, p1, p2, p3]
  refine wp_takeW (.bool true) (exec_bin .eql 3 _ _ _ rfl (.int .i64 c.k) (.int .i64 2) (.bool true) (by kernel_rfl) (by kernel_rfl) (by kernel_rfl) (by rw [b_eql, h2]; try rfl)) (by kernel_rfl) ?_
  try simp only [pA, pB, p1, p2, p3]
  refine wp_takeW (.bool true) (by kernel_rfl) (by kernel_rfl) ?_
  try simp only [pA, pB, p1, p2, p3]
  refine WL.nil ?_
  try simp only [pA, pB, p1, p2, p3]
  go_upto_region 5 with fail
  refine WL.start ?_
  refine wp_takeW (.int .i64 ((bn : Nat) : Int)) (by kernel_rfl) (by kernel_rfl) ?_
  try simp only [pA, pB, p1, p2, p3]
  refine wp_takeW (.int .i64 (((bn - 1) : Nat) : Int)) (exec_bin .sub 3 _ _ _ rfl (.int .i64 ((bn : Nat) : Int)) (.int .i64 1) (.int .i64 (((bn - 1) : Nat) : Int)) (by kernel_rfl) (by kernel_rfl) (by kernel_rfl) (b_subN bn 1 (bn - 1) (by omega) (by omega) _)) (by kernel_rfl) ?_
  try simp only [pA, pB, p1, p2, p3]
  refine wp_takeW (.int .i64 (((bn - 1) : Nat) : Int)) (by kernel_rfl) (by kernel_rfl) ?_
  try simp only [pA, pB, p1, p2, p3]
  refine WL.nil ?_
  try simp only [pA, pB, p1, p2, p3]
  go_upto_region 6 with fail
  refine WL.start ?_
  refine wp_takeW (.agg (Bv.cells ⟨nu, ⟨na, nn, nc⟩, nsl⟩)) (exec_load 25 _ rfl ⟨gk3, 0, none⟩ (by kernel_rfl) (.agg (Bv.cells ⟨nu, ⟨na, nn, nc⟩, nsl⟩)) (ld25 (HF.out.box 1 _ _ _ rfl))) (by kernel_rfl) ?_
  try simp only [pA, pB, p1, p2, p3]
  refine wp_takeW (.pointer (some ⟨gk5, 3, none⟩)) (by kernel_rfl) (by kernel_rfl) ?_
  try simp only [pA, pB, p1, p2, p3]
  refine wp_takeW (.string c.nm) (exec_load 9 _ rfl ⟨gk5, 3, none⟩ (by kernel_rfl) (.string c.nm) (ld9 ((HF.out.box 2 _ _ _ rfl).cell 3))) (by kernel_rfl) ?_
  try simp only [pA, pB, p1, p2, p3]
  refine wp_callW 24 #[.agg (Bv.cells ⟨nu, ⟨na, nn, nc⟩, nsl⟩), .string c.nm] (by kernel_rfl) _ (find_any nu na nn nc nsl es2 c.nm _ HN.out.len (by omega) (HN.out.no HF.out.kept).row) (by kernel_rfl) ?_
  rintro e wk9 ⟨rfl, hk⟩
  have HF : Hid (Fr No w (wk9) [(gk1, 25, Bv.cells ⟨bu, ⟨ba, bn, bc⟩, bsl⟩), (gk3, 25, Bv.cells ⟨nu, ⟨na, nn, nc⟩, nsl⟩), (gk5, 29, Cm.cells c), (gk7, 56, Av.cells ⟨er, ae, ⟨xa, xn, xc⟩⟩)]) := HF.out.no hk
  clear hk
  refine ⟨.tuple #[.agg (En.cells z), .bool false], by rw [HFz.out, HQ.out], ?_⟩
  try simp only [pA, pB, p1, p2, p3]
  refine wp_takeW (.tuple #[.agg (En.cells z), .bool false]) (by kernel_rfl) (by kernel_rfl) ?_
  try simp only [pA, pB, p1, p2, p3]
  refine wp_takeW (.agg (En.cells z)) (by kernel_rfl) (by kernel_rfl) ?_
  try simp only [pA, pB, p1, p2, p3]
  refine wp_takeW (.bool false) (by kernel_rfl) (by kernel_rfl) ?_
  try simp only [pA, pB, p1, p2, p3]
  refine wp_runW (.pointer (some ⟨wk9.heap.size, 0, none⟩)) (wk9.alloc (.cells (En.cells enZ) 54)) (exec_alloc 54 rfl (En.cells enZ) zero54) (by kernel_rfl) ?_
  try simp only [pA, pB, p1, p2, p3]
  have HF : Hid (Fr No w (wk9.alloc (.cells (En.cells enZ) 54)) [(gk1, 25, Bv.cells ⟨bu, ⟨ba, bn, bc⟩, bsl⟩), (gk3, 25, Bv.cells ⟨nu, ⟨na, nn, nc⟩, nsl⟩), (gk5, 29, Cm.cells c), (gk7, 56, Av.cells ⟨er, ae, ⟨xa, xn, xc⟩⟩), (wk9.heap.size, 54, En.cells enZ)]) := HF.out.alloc _ _
  generalize wk9.alloc (.cells (En.cells enZ) 54) = wk11 at HF ⊢
  generalize wk9.heap.size = gk10 at HF ⊢
  refine wp_storeW 54 _ _ rfl ⟨gk10, 0, none⟩ (.agg (En.cells z)) (by kernel_rfl) (by kernel_rfl) (wk11.setRow gk10 (En.cells z)) (st54 (HF.out.box 4 _ _ _ rfl) rfl) (by kernel_rfl) ?_
  try simp only [pA, pB, p1, p2, p3]
  have HF : Hid (Fr No w (wk11.setRow gk10 (En.cells z)) [(gk1, 25, Bv.cells ⟨bu, ⟨ba, bn, bc⟩, bsl⟩), (gk3, 25, Bv.cells ⟨nu, ⟨na, nn, nc⟩, nsl⟩), (gk5, 29, Cm.cells c), (gk7, 56, Av.cells ⟨er, ae, ⟨xa, xn, xc⟩⟩), (gk10, 54, En.cells z)]) := HF.out.set 4 rfl _
  generalize wk11.setRow gk10 (En.cells z) = wk12 at HF ⊢
  refine wp_takeW (.bool false) (by kernel_rfl) (by kernel_rfl) ?_
  try simp only [pA, pB, p1, p2, p3]
  refine WL.nil ?_
  try simp only [pA, pB, p1, p2, p3]
  go_upto_region 7 with fail
  refine WL.start ?_
  refine wp_takeW (.pointer (some ⟨gk3, 1, none⟩)) (by kernel_rfl) (by kernel_rfl) ?_
  try simp only [pA, pB, p1, p2, p3]
  refine wp_takeW (.slice na nn nc) (exec_load 22 _ rfl ⟨gk3, 1, none⟩ (by kernel_rfl) (.slice na nn nc) (ld22 ((HF.out.box 1 _ _ _ rfl).cell 1))) (by kernel_rfl) ?_
  try simp only [pA, pB, p1, p2, p3]
  refine wp_takeW (.int .i64 ((nn : Nat) : Int)) (by kernel_rfl) (by kernel_rfl) ?_
  try simp only [pA, pB, p1, p2, p3]
  refine wp_takeW (.int .i64 (((bn - 1) : Nat) : Int)) (by kernel_rfl) (by kernel_rfl) ?_
  try simp only [pA, pB, p1, p2, p3]
  refine wp_takeW (.bool false) (exec_bin .neq 3 _ _ _ rfl (.int .i64 ((nn : Nat) : Int)) (.int .i64 (((bn - 1) : Nat) : Int)) (.bool false) (by kernel_rfl) (by kernel_rfl) (by kernel_rfl) (by rw [b_neq, show ((nn : Nat) : Int) = (((bn - 1) : Nat) : Int) by omega]; simp)) (by kernel_rfl) ?_
  try simp only [pA, pB, p1, p2, p3]
  refine wp_takeW (.bool false) (by kernel_rfl) (by kernel_rfl) ?_
  try simp only [pA, pB, p1, p2, p3]
  refine wp_takeW (.pointer (some ⟨gk7, 5, none⟩)) (by kernel_rfl) (by kernel_rfl) ?_
  try simp only [pA, pB, p1, p2, p3]
  refine wp_takeW (.slice xa xn xc) (exec_load 22 _ rfl ⟨gk7, 5, none⟩ (by kernel_rfl) (.slice xa xn xc) (ld22 ((HF.out.box 3 _ _ _ rfl).cell 5))) (by kernel_rfl) ?_
  try simp only [pA, pB, p1, p2, p3]
  refine wp_takeW (.int .i64 ((xn : Nat) : Int)) (by kernel_rfl) (by kernel_rfl) ?_
  try simp only [pA, pB, p1, p2, p3]
  refine wp_takeW (.bool false) (exec_bin .gtr 3 _ _ _ rfl (.int .i64 ((xn : Nat) : Int)) (.int .i64 0) (.bool false) (by kernel_rfl) (by kernel_rfl) (by kernel_rfl) (by rw [b_gtr, decide_eq_false (by omega)])) (by kernel_rfl) ?_
  try simp only [pA, pB, p1, p2, p3]
  refine wp_takeW (.bool false) (by kernel_rfl) (by kernel_rfl) ?_
  try simp only [pA, pB, p1, p2, p3]
  refine wp_skip (by kernel_rfl) ?_
  try simp only [pA, pB, p1, p2, p3]
  refine wp_skip (by kernel_rfl) ?_
  try simp only [pA, pB, p1, p2, p3]
  refine wp_skip (by kernel_rfl) ?_
  try simp only [pA, pB, p1, p2, p3]
  refine wp_takeW (.bool false) (by kernel_rfl) (by kernel_rfl) ?_
  try simp only [pA, pB, p1, p2, p3]
  refine wp_takeW (.bool false) (by kernel_rfl) (by kernel_rfl) ?_
  try simp only [pA, pB, p1, p2, p3]
  refine WL.nil ?_
  try simp only [pA, pB, p1, p2, p3]
  go_upto_region 9 with fail
  refine WL.start ?_
  refine wp_takeW (.pointer (some ⟨gk5, 0, none⟩)) (by kernel_rfl) (by kernel_rfl) ?_
  try simp only [pA, pB, p1, p2, p3]
  refine wp_takeW (.int .i64 c.k) (exec_load 3 _ rfl ⟨gk5, 0, none⟩ (by kernel_rfl) (.int .i64 c.k) (ld3 ((HF.out.box 2 _ _ _ rfl).cell 0))) (by kernel_rfl) ?_
  try simp only [pA, pB, p1, p2, p3]
  refine wp_takeW (.bool false) (exec_bin .eql 3 _ _ _ rfl (.int .i64 c.k) (.int .i64 4) (.bool false) (by kernel_rfl) (by kernel_rfl) (by kernel_rfl) (by rw [b_eql, h4]; try rfl)) (by kernel_rfl) ?_
  try simp only [pA, pB, p1, p2, p3]
  refine wp_takeW (.bool false) (by kernel_rfl) (by kernel_rfl) ?_
  try simp only [pA, pB, p1, p2, p3]
  refine WL.nil ?_
  try simp only [pA, pB, p1, p2, p3]
  go_upto_region 11 with fail
  refine WL.start ?_
  refine wp_takeW (.pointer (some ⟨gk7, 0, none⟩)) (by kernel_rfl) (by kernel_rfl) ?_
  try simp only [pA, pB, p1, p2, p3]
  refine wp_takeW (.int .i64 er) (exec_load 46 _ rfl ⟨gk7, 0, none⟩ (by kernel_rfl) (.int .i64 er) (ld46 ((HF.out.box 3 _ _ _ rfl).cell 0))) (by kernel_rfl) ?_
  try simp only [pA, pB, p1, p2, p3]
  refine wp_takeW (.bool false) (exec_bin .eql 46 _ _ _ rfl (.int .i64 er) (.int .i64 102) (.bool false) (by kernel_rfl) (by kernel_rfl) (by kernel_rfl) (by rw [b_eql46, he2]; try rfl)) (by kernel_rfl) ?_
  try simp only [pA, pB, p1, p2, p3]
  refine wp_takeW (.bool false) (by kernel_rfl) (by kernel_rfl) ?_
  try simp only [pA, pB, p1, p2, p3]
  refine wp_takeW (.pointer (some ⟨gk7, 0, none⟩)) (by kernel_rfl) (by kernel_rfl) ?_
  try simp only [pA, pB, p1, p2, p3]
  refine wp_takeW (.int .i64 er) (exec_load 46 _ rfl ⟨gk7, 0, none⟩ (by kernel_rfl) (.int .i64 er) (ld46 ((HF.out.box 3 _ _ _ rfl).cell 0))) (by kernel_rfl) ?_
  try simp only [pA, pB, p1, p2, p3]
  refine wp_takeW (.bool false) (exec_bin .eql 46 _ _ _ rfl (.int .i64 er) (.int .i64 103) (.bool false) (by kernel_rfl) (by kernel_rfl) (by kernel_rfl) (by rw [b_eql46, he3]; try rfl)) (by kernel_rfl) ?_
  try simp only [pA, pB, p1, p2, p3]
  refine wp_takeW (.bool false) (by kernel_rfl) (by kernel_rfl) ?_
  try simp only [pA, pB, p1, p2, p3]
  refine wp_takeW (.bool false) (by kernel_rfl) (by kernel_rfl) ?_
  try simp only [pA, pB, p1, p2, p3]
  refine WL.nil ?_
  try simp only [pA, pB, p1, p2, p3]
  go_upto_region 13 with fail
  refine WL.start ?_
  refine wp_takeW (.pointer (some ⟨gk5, 0, none⟩)) (by kernel_rfl) (by kernel_rfl) ?_
  try simp only [pA, pB, p1, p2, p3]
  refine wp_takeW (.int .i64 c.k) (exec_load 3 _ rfl ⟨gk5, 0, none⟩ (by kernel_rfl) (.int .i64 c.k) (ld3 ((HF.out.box 2 _ _ _ rfl).cell 0))) (by kernel_rfl) ?_
  try simp only [pA, pB, p1, p2, p3]
  refine wp_takeW (.bool true) (exec_bin .eql 3 _ _ _ rfl (.int .i64 c.k) (.int .i64 2) (.bool true) (by kernel_rfl) (by kernel_rfl) (by kernel_rfl) (by rw [b_eql, h2]; try rfl)) (by kernel_rfl) ?_
  try simp only [pA, pB, p1, p2, p3]
  refine wp_takeW (.bool true) (by kernel_rfl) (by kernel_rfl) ?_
  try simp only [pA, pB, p1, p2, p3]
  refine WL.nil ?_
  try simp only [pA, pB, p1, p2, p3]
  go_upto_region 14 with fail
  refine WL.start ?_
  refine wp_takeW (.agg (Bv.cells ⟨bu, ⟨ba, bn, bc⟩, bsl⟩)) (exec_load 25 _ rfl ⟨gk1, 0, none⟩ (by kernel_rfl) (.agg (Bv.cells ⟨bu, ⟨ba, bn, bc⟩, bsl⟩)) (ld25 (HF.out.box 0 _ _ _ rfl))) (by kernel_rfl) ?_
  try simp only [pA, pB, p1, p2, p3]
  refine wp_takeW (.pointer (some ⟨gk5, 3, none⟩)) (by kernel_rfl) (by kernel_rfl) ?_
  try simp only [pA, pB, p1, p2, p3]
  refine wp_takeW (.string c.nm) (exec_load 9 _ rfl ⟨gk5, 3, none⟩ (by kernel_rfl) (.string c.nm) (ld9 ((HF.out.box 2 _ _ _ rfl).cell 3))) (by kernel_rfl) ?_
  try simp only [pA, pB, p1, p2, p3]
  refine wp_callW 24 #[.agg (Bv.cells ⟨bu, ⟨ba, bn, bc⟩, bsl⟩), .string c.nm] (by kernel_rfl) _ (find_any bu ba bn bc bsl es c.nm _ HB.out.len (by omega) (HB.out.no HF.out.kept).row) (by kernel_rfl) ?_
  rintro e wk13 ⟨rfl, hk⟩
  have HF : Hid (Fr No w (wk13) [(gk1, 25, Bv.cells ⟨bu, ⟨ba, bn, bc⟩, bsl⟩), (gk3, 25, Bv.cells ⟨nu, ⟨na, nn, nc⟩, nsl⟩), (gk5, 29, Cm.cells c), (gk7, 56, Av.cells ⟨er, ae, ⟨xa, xn, xc⟩⟩), (gk10, 54, En.cells z)]) := HF.out.no hk
  clear hk
  refine ⟨.tuple #[.agg (En.cells ae), .bool true], by rw [HF1.out, HI1.out], ?_⟩
  try simp only [pA, pB, p1, p2, p3]
  refine wp_takeW (.tuple #[.agg (En.cells ae), .bool true]) (by kernel_rfl) (by kernel_rfl) ?_
  try simp only [pA, pB, p1, p2, p3]
  refine wp_takeW (.agg (En.cells ae)) (by kernel_rfl) (by kernel_rfl) ?_
  try simp only [pA, pB, p1, p2, p3]
  refine wp_takeW (.bool true) (by kernel_rfl) (by kernel_rfl) ?_
  try simp only [pA, pB, p1, p2, p3]
  refine wp_runW (.pointer (some ⟨wk13.heap.size, 0, none⟩)) (wk13.alloc (.cells (En.cells enZ) 54)) (exec_alloc 54 rfl (En.cells enZ) zero54) (by kernel_rfl) ?_
  try simp only [pA, pB, p1, p2, p3]
  have HF : Hid (Fr No w (wk13.alloc (.cells (En.cells enZ) 54)) [(gk1, 25, Bv.cells ⟨bu, ⟨ba, bn, bc⟩, bsl⟩), (gk3, 25, Bv.cells ⟨nu, ⟨na, nn, nc⟩, nsl⟩), (gk5, 29, Cm.cells c), (gk7, 56, Av.cells ⟨er, ae, ⟨xa, xn, xc⟩⟩), (gk10, 54, En.cells z), (wk13.heap.size, 54, En.cells enZ)]) := HF.out.alloc _ _
  generalize wk13.alloc (.cells (En.cells enZ) 54) = wk15 at HF ⊢
  generalize wk13.heap.size = gk14 at HF ⊢
  refine wp_storeW 54 _ _ rfl ⟨gk14, 0, none⟩ (.agg (En.cells ae)) (by kernel_rfl) (by kernel_rfl) (wk15.setRow gk14 (En.cells ae)) (st54 (HF.out.box 5 _ _ _ rfl) rfl) (by kernel_rfl) ?_
  try simp only [pA, pB, p1, p2, p3]
  have HF : Hid (Fr No w (wk15.setRow gk14 (En.cells ae)) [(gk1, 25, Bv.cells ⟨bu, ⟨ba, bn, bc⟩, bsl⟩), (gk3, 25, Bv.cells ⟨nu, ⟨na, nn, nc⟩, nsl⟩), (gk5, 29, Cm.cells c), (gk7, 56, Av.cells ⟨er, ae, ⟨xa, xn, xc⟩⟩), (gk10, 54, En.cells z), (gk14, 54, En.cells ae)]) := HF.out.set 5 rfl _
  generalize wk15.setRow gk14 (En.cells ae) = wk16 at HF ⊢
  refine wp_takeW (.bool true) (by kernel_rfl) (by kernel_rfl) ?_
  try simp only [pA, pB, p1, p2, p3]
  refine WL.nil ?_
  try simp only [pA, pB, p1, p2, p3]
  go_upto_region 15 with fail
  refine WL.start ?_
  refine wp_takeW (.bool false) (by kernel_rfl) (by kernel_rfl) ?_
  try simp only [pA, pB, p1, p2, p3]
  refine wp_takeW (.bool true) (by kernel_rfl) (by kernel_rfl) ?_
  try simp only [pA, pB, p1, p2, p3]
  refine wp_takeW (.bool true) (by kernel_rfl) (by kernel_rfl) ?_
  try simp only [pA, pB, p1, p2, p3]
  refine wp_takeW (.bool true) (by kernel_rfl) (by kernel_rfl) ?_
  try simp only [pA, pB, p1, p2, p3]
  refine wp_takeW (.bool true) (by kernel_rfl) (by kernel_rfl) ?_
  try simp only [pA, pB, p1, p2, p3]
  refine wp_takeW (.bool true) (by kernel_rfl) (by kernel_rfl) ?_
  try simp only [pA, pB, p1, p2, p3]
  refine wp_takeW (.agg (En.cells ae)) (exec_load 54 _ rfl ⟨gk14, 0, none⟩ (by kernel_rfl) (.agg (En.cells ae)) (ld54 (HF.out.box 5 _ _ _ rfl))) (by kernel_rfl) ?_
  try simp only [pA, pB, p1, p2, p3]
  refine wp_takeW (.pointer (some ⟨gk7, 1, none⟩)) (by kernel_rfl) (by kernel_rfl) ?_
  try simp only [pA, pB, p1, p2, p3]
  refine wp_takeW (.agg (En.cells ae)) (exec_load 54 _ rfl ⟨gk7, 1, none⟩ (by kernel_rfl) (.agg (En.cells ae)) (ldAE (HF.out.box 3 _ _ _ rfl))) (by kernel_rfl) ?_
  try simp only [pA, pB, p1, p2, p3]
  refine wp_takeW (.bool true) (exec_bin .eql 54 _ _ _ rfl (.agg (En.cells ae)) (.agg (En.cells ae)) (.bool true) (by kernel_rfl) (by kernel_rfl) (by kernel_rfl) (by rw [eqE_eql, eqE_iff.2 rfl])) (by kernel_rfl) ?_
  try simp only [pA, pB, p1, p2, p3]
  refine wp_takeW (.bool true) (by kernel_rfl) (by kernel_rfl) ?_
  try simp only [pA, pB, p1, p2, p3]
  refine wp_takeW (.bool true) (by kernel_rfl) (by kernel_rfl) ?_
  try simp only [pA, pB, p1, p2, p3]
  refine WL.nil ?_
  try simp only [pA, pB, p1, p2, p3]
  go_wp2
  rw [HC.out]
  exact ⟨rfl, HF.out.kept⟩
set_option maxRecDepth 100000 in
set_option maxHeartbeats 4000000 in
theorem counted_new (bu : Int) (ba : Option Addr) (bn bc : Nat) (bsl : Sl) (nu : Int) (na : Option Addr) (nn nc : Nat) (nsl : Sl) (c : Cm) (er : Int) (ae : En) (xa : Option Addr) (xn xc : Nat) (es es2 l : List En) (w : World) (hb : RdE w ⟨ba, bn, bc⟩ es) (hn : RdE w ⟨na, nn, nc⟩ es2) (hx : RdE w ⟨xa, xn, xc⟩ l) (hbb : bn ≤ 1000) (hnb : nn ≤ 1000) (h0 : (er == 0) = true) (h1 : (c.k == 1) = true) (h2 : (c.k == 2) = false) (h4 : (c.k == 4) = false) (he2 : (er == 102) = false) (he3 : (er == 103) = false) (hl0 : l = []) (hnn : nn = bn + 1) (hf1 : findE es2 c.nm = ae) (hi1 : eIs es2 c.nm = true)  : Calls Try.prog 23 #[.agg (Bv.cells ⟨bu, ⟨ba, bn, bc⟩, bsl⟩), .agg (Bv.cells ⟨nu, ⟨na, nn, nc⟩, nsl⟩), .agg (Cm.cells c), .agg (Av.cells ⟨er, ae, ⟨xa, xn, xc⟩⟩)] w (fun e w' => e = .returned (.bool true) ∧ Kept No w w') := by
  obtain ⟨C, hC⟩ : ∃ C : Ending → World → Prop, C = (fun e w' => e = .returned (.bool true) ∧ Kept No w w') := ⟨_, rfl⟩
  have HC : Hid (C = (fun e w' => e = .returned (.bool true) ∧ Kept No w w')) := hC
  rw [← hC]
  clear hC
  have HB : Hid (RdE w ⟨ba, bn, bc⟩ es) := hb
  have HN : Hid (RdE w ⟨na, nn, nc⟩ es2) := hn
  have HX : Hid (RdE w ⟨xa, xn, xc⟩ l) := hx
  clear hb hn hx
  have HF1 : Hid (findE es2 c.nm = ae) := hf1
  have HI1 : Hid (eIs es2 c.nm = true) := hi1
  have hxn : xn = 0 := by have e1 : l.length = xn := HX.out.len; rw [hl0] at e1; exact e1.symm
  have HF : Hid (Fr No w w []) := Fr.start _ _
  go_enter Try.func23, Try.ntmps23
  go_upto_region 0 with fail
  refine WL.start ?_
  refine wp_runW (.pointer (some ⟨w.heap.size, 0, none⟩)) (w.alloc (.cells (Bv.cells ⟨bu, ⟨ba, bn, bc⟩, bsl⟩) 25)) (exec_box 25 _ rfl (Bv.cells ⟨bu, ⟨ba, bn, bc⟩, bsl⟩) (by kernel_rfl)) (by kernel_rfl) ?_
  try simp only [pA, pB, p1, p2, p3]
  have HF : Hid (Fr No w (w.alloc (.cells (Bv.cells ⟨bu, ⟨ba, bn, bc⟩, bsl⟩) 25)) [(w.heap.size, 25, Bv.cells ⟨bu, ⟨ba, bn, bc⟩, bsl⟩)]) := HF.out.alloc _ _
  generalize w.alloc (.cells (Bv.cells ⟨bu, ⟨ba, bn, bc⟩, bsl⟩) 25) = wk2 at HF ⊢
  generalize w.heap.size = gk1 at HF ⊢
  refine wp_runW (.pointer (some ⟨wk2.heap.size, 0, none⟩)) (wk2.alloc (.cells (Bv.cells ⟨nu, ⟨na, nn, nc⟩, nsl⟩) 25)) (exec_box 25 _ rfl (Bv.cells ⟨nu, ⟨na, nn, nc⟩, nsl⟩) (by kernel_rfl)) (by kernel_rfl) ?_
  try simp only [pA, pB, p1, p2, p3]
  have HF : Hid (Fr No w (wk2.alloc (.cells (Bv.cells ⟨nu, ⟨na, nn, nc⟩, nsl⟩) 25)) [(gk1, 25, Bv.cells ⟨bu, ⟨ba, bn, bc⟩, bsl⟩), (wk2.heap.size, 25, Bv.cells ⟨nu, ⟨na, nn, nc⟩, nsl⟩)]) := HF.out.alloc _ _
  generalize wk2.alloc (.cells (Bv.cells ⟨nu, ⟨na, nn, nc⟩, nsl⟩) 25) = wk4 at HF ⊢
  generalize wk2.heap.size = gk3 at HF ⊢
  refine wp_runW (.pointer (some ⟨wk4.heap.size, 0, none⟩)) (wk4.alloc (.cells (Cm.cells c) 29)) (exec_box 29 _ rfl (Cm.cells c) (by kernel_rfl)) (by kernel_rfl) ?_
  try simp only [pA, pB, p1, p2, p3]
  have HF : Hid (Fr No w (wk4.alloc (.cells (Cm.cells c) 29)) [(gk1, 25, Bv.cells ⟨bu, ⟨ba, bn, bc⟩, bsl⟩), (gk3, 25, Bv.cells ⟨nu, ⟨na, nn, nc⟩, nsl⟩), (wk4.heap.size, 29, Cm.cells c)]) := HF.out.alloc _ _
  generalize wk4.alloc (.cells (Cm.cells c) 29) = wk6 at HF ⊢
  generalize wk4.heap.size = gk5 at HF ⊢
  refine wp_runW (.pointer (some ⟨wk6.heap.size, 0, none⟩)) (wk6.alloc (.cells (Av.cells ⟨er, ae, ⟨xa, xn, xc⟩⟩) 56)) (exec_box 56 _ rfl (Av.cells ⟨er, ae, ⟨xa, xn, xc⟩⟩) (by kernel_rfl)) (by kernel_rfl) ?_
  try simp only [pA, pB, p1, p2, p3]
  have HF : Hid (Fr No w (wk6.alloc (.cells (Av.cells ⟨er, ae, ⟨xa, xn, xc⟩⟩) 56)) [(gk1, 25, Bv.cells ⟨bu, ⟨ba, bn, bc⟩, bsl⟩), (gk3, 25, Bv.cells ⟨nu, ⟨na, nn, nc⟩, nsl⟩), (gk5, 29, Cm.cells c), (wk6.heap.size, 56, Av.cells ⟨er, ae, ⟨xa, xn, xc⟩⟩)]) := HF.out.alloc _ _
  generalize wk6.alloc (.cells (Av.cells ⟨er, ae, ⟨xa, xn, xc⟩⟩) 56) = wk8 at HF ⊢
  generalize wk6.heap.size = gk7 at HF ⊢
  refine wp_takeW (.bool false) (by kernel_rfl) (by kernel_rfl) ?_
  try simp only [pA, pB, p1, p2, p3]
  refine WL.nil ?_
  try simp only [pA, pB, p1, p2, p3]
  go_upto_region 1 with fail
  refine WL.start ?_
  refine wp_takeW (.pointer (some ⟨gk1, 1, none⟩)) (by kernel_rfl) (by kernel_rfl) ?_
  try simp only [pA, pB, p1, p2, p3]
  refine wp_takeW (.slice ba bn bc) (exec_load 22 _ rfl ⟨gk1, 1, none⟩ (by kernel_rfl) (.slice ba bn bc) (ld22 ((HF.out.box 0 _ _ _ rfl).cell 1))) (by kernel_rfl) ?_
  try simp only [pA, pB, p1, p2, p3]
  refine wp_takeW (.int .i64 ((bn : Nat) : Int)) (by kernel_rfl) (by kernel_rfl) ?_
  try simp only [pA, pB, p1, p2, p3]
  refine wp_takeW (.int .i64 ((bn : Nat) : Int)) (by kernel_rfl) (by kernel_rfl) ?_
  try simp only [pA, pB, p1, p2, p3]
  refine WL.nil ?_
  try simp only [pA, pB, p1, p2, p3]
  go_upto_region 2 with fail
  refine WL.start ?_
  refine wp_takeW (.pointer (some ⟨gk7, 0, none⟩)) (by kernel_rfl) (by kernel_rfl) ?_
  try simp only [pA, pB, p1, p2, p3]
  refine wp_takeW (.int .i64 er) (exec_load 46 _ rfl ⟨gk7, 0, none⟩ (by kernel_rfl) (.int .i64 er) (ld46 ((HF.out.box 3 _ _ _ rfl).cell 0))) (by kernel_rfl) ?_
  try simp only [pA, pB, p1, p2, p3]
  refine wp_takeW (.bool true) (exec_bin .eql 46 _ _ _ rfl (.int .i64 er) (.int .i64 0) (.bool true) (by kernel_rfl) (by kernel_rfl) (by kernel_rfl) (by rw [b_eql46, h0]; try rfl)) (by kernel_rfl) ?_
  try simp only [pA, pB, p1, p2, p3]
  refine wp_takeW (.bool true) (by kernel_rfl) (by kernel_rfl) ?_
  try simp only [pA, pB, p1, p2, p3]
  refine wp_takeW (.pointer (some ⟨gk5, 0, none⟩)) (by kernel_rfl) (by kernel_rfl) ?_
  try simp only [pA, pB, p1, p2, p3]
  refine wp_takeW (.int .i64 c.k) (exec_load 3 _ rfl ⟨gk5, 0, none⟩ (by kernel_rfl) (.int .i64 c.k) (ld3 ((HF.out.box 2 _ _ _ rfl).cell 0))) (by kernel_rfl) ?_
  try simp only [pA, pB, p1, p2, p3]
  refine wp_takeW (.bool true) (exec_bin .eql 3 _ _ _ rfl (.int .i64 c.k) (.int .i64 1) (.bool true) (by kernel_rfl) (by kernel_rfl) (by kernel_rfl) (by rw [b_eql, h1]; try rfl)) (by kernel_rfl) ?_
  try simp only [pA, pB, p1, p2, p3]
  refine wp_takeW (.bool true) (by kernel_rfl) (by kernel_rfl) ?_
  try simp only [pA, pB, p1, p2, p3]
  refine WL.nil ?_
  try simp only [pA, pB, p1, p2, p3]
  go_upto_region 3 with fail
  refine WL.start ?_
  refine wp_takeW (.int .i64 ((bn : Nat) : Int)) (by kernel_rfl) (by kernel_rfl) ?_
  try simp only [pA, pB, p1, p2, p3]
  refine wp_takeW (.int .i64 (((bn + 1) : Nat) : Int)) (exec_bin .add 3 _ _ _ rfl (.int .i64 ((bn : Nat) : Int)) (.int .i64 1) (.int .i64 (((bn + 1) : Nat) : Int)) (by kernel_rfl) (by kernel_rfl) (by kernel_rfl) (b_addN bn 1 (bn + 1) rfl (by omega) _)) (by kernel_rfl) ?_
  try simp only [pA, pB, p1, p2, p3]
  refine wp_takeW (.int .i64 (((bn + 1) : Nat) : Int)) (by kernel_rfl) (by kernel_rfl) ?_
  try simp only [pA, pB, p1, p2, p3]
  refine WL.nil ?_
  try simp only [pA, pB, p1, p2, p3]
  go_upto_region 4 with fail
  refine WL.start ?_
  refine wp_takeW (.pointer (some ⟨gk7, 0, none⟩)) (by kernel_rfl) (by kernel_rfl) ?_
  try simp only [pA, pB, p1, p2, p3]
  refine wp_takeW (.int .i64 er) (exec_load 46 _ rfl ⟨gk7, 0, none⟩ (by kernel_rfl) (.int .i64 er) (ld46 ((HF.out.box 3 _ _ _ rfl).cell 0))) (by kernel_rfl) ?_
  try simp only [pA, pB, p1, p2, p3]
  refine wp_takeW (.bool true) (exec_bin .eql 46 _ _ _ rfl (.int .i64 er) (.int .i64 0) (.bool true) (by kernel_rfl) (by kernel_rfl) (by kernel_rfl) (by rw [b_eql46, h0]; try rfl)) (by kernel_rfl) ?_
  try simp only [pA, pB, p1, p2, p3]
  refine wp_takeW (.bool true) (by kernel_rfl) (by kernel_rfl) ?_
  try simp only [pA, pB, p1, p2, p3]
  refine wp_takeW (.pointer (some ⟨gk5, 0, none⟩)) (by kernel_rfl) (by kernel_rfl) ?_
  try simp only [pA, pB, p1, p2, p3]
  refine wp_takeW (.int .i64 c.k) (exec_load 3 _ rfl ⟨gk5, 0, none⟩ (by kernel_rfl) (.int .i64 c.k) (ld3 ((HF.out.box 2 _ _ _ rfl).cell 0))) (by kernel_rfl) ?_
  try simp only [pA, pB, p1, p2, p3]
  refine wp_takeW (.bool false) (exec_bin .eql 3 _ _ _ rfl (.int .i64 c.k) (.int .i64 2) (.bool false) (by kernel_rfl) (by kernel_rfl) (by kernel_rfl) (by rw [b_eql, h2]; try rfl)) (by kernel_rfl) ?_
  try simp only [pA, pB, p1, p2, p3]
  refine wp_takeW (.bool false) (by kernel_rfl) (by kernel_rfl) ?_
  try simp only [pA, pB, p1, p2, p3]
  refine WL.nil ?_
  try simp only [pA, pB, p1, p2, p3]
  go_upto_region 6 with fail
  refine WL.start ?_
  refine wp_takeW (.agg (Bv.cells ⟨nu, ⟨na, nn, nc⟩, nsl⟩)) (exec_load 25 _ rfl ⟨gk3, 0, none⟩ (by kernel_rfl) (.agg (Bv.cells ⟨nu, ⟨na, nn, nc⟩, nsl⟩)) (ld25 (HF.out.box 1 _ _ _ rfl))) (by kernel_rfl) ?_
  try simp only [pA, pB, p1, p2, p3]
  refine wp_takeW (.pointer (some ⟨gk5, 3, none⟩)) (by kernel_rfl) (by kernel_rfl) ?_
  try simp only [pA, pB, p1, p2, p3]
  refine wp_takeW (.string c.nm) (exec_load 9 _ rfl ⟨gk5, 3, none⟩ (by kernel_rfl) (.string c.nm) (ld9 ((HF.out.box 2 _ _ _ rfl).cell 3))) (by kernel_rfl) ?_
  try simp only [pA, pB, p1, p2, p3]
  refine wp_callW 24 #[.agg (Bv.cells ⟨nu, ⟨na, nn, nc⟩, nsl⟩), .string c.nm] (by kernel_rfl) _ (find_any nu na nn nc nsl es2 c.nm _ HN.out.len (by omega) (HN.out.no HF.out.kept).row) (by kernel_rfl) ?_
  rintro e wk9 ⟨rfl, hk⟩
  have HF : Hid (Fr No w (wk9) [(gk1, 25, Bv.cells ⟨bu, ⟨ba, bn, bc⟩, bsl⟩), (gk3, 25, Bv.cells ⟨nu, ⟨na, nn, nc⟩, nsl⟩), (gk5, 29, Cm.cells c), (gk7, 56, Av.cells ⟨er, ae, ⟨xa, xn, xc⟩⟩)]) := HF.out.no hk
  clear hk
  refine ⟨.tuple #[.agg (En.cells ae), .bool true], by rw [HF1.out, HI1.out], ?_⟩
  try simp only [pA, pB, p1, p2, p3]
  refine wp_takeW (.tuple #[.agg (En.cells ae), .bool true]) (by kernel_rfl) (by kernel_rfl) ?_
  try simp only [pA, pB, p1, p2, p3]
  refine wp_takeW (.agg (En.cells ae)) (by kernel_rfl) (by kernel_rfl) ?_
  try simp only [pA, pB, p1, p2, p3]
  refine wp_takeW (.bool true) (by kernel_rfl) (by kernel_rfl) ?_
  try simp only [pA, pB, p1, p2, p3]
  refine wp_runW (.pointer (some ⟨wk9.heap.size, 0, none⟩)) (wk9.alloc (.cells (En.cells enZ) 54)) (exec_alloc 54 rfl (En.cells enZ) zero54) (by kernel_rfl) ?_
  try simp only [pA, pB, p1, p2, p3]
  have HF : Hid (Fr No w (wk9.alloc (.cells (En.cells enZ) 54)) [(gk1, 25, Bv.cells ⟨bu, ⟨ba, bn, bc⟩, bsl⟩), (gk3, 25, Bv.cells ⟨nu, ⟨na, nn, nc⟩, nsl⟩), (gk5, 29, Cm.cells c), (gk7, 56, Av.cells ⟨er, ae, ⟨xa, xn, xc⟩⟩), (wk9.heap.size, 54, En.cells enZ)]) := HF.out.alloc _ _
  generalize wk9.alloc (.cells (En.cells enZ) 54) = wk11 at HF ⊢
  generalize wk9.heap.size = gk10 at HF ⊢
  refine wp_storeW 54 _ _ rfl ⟨gk10, 0, none⟩ (.agg (En.cells ae)) (by kernel_rfl) (by kernel_rfl) (wk11.setRow gk10 (En.cells ae)) (st54 (HF.out.box 4 _ _ _ rfl) rfl) (by kernel_rfl) ?_
  try simp only [pA, pB, p1, p2, p3]
  have HF : Hid (Fr No w (wk11.setRow gk10 (En.cells ae)) [(gk1, 25, Bv.cells ⟨bu, ⟨ba, bn, bc⟩, bsl⟩), (gk3, 25, Bv.cells ⟨nu, ⟨na, nn, nc⟩, nsl⟩), (gk5, 29, Cm.cells c), (gk7, 56, Av.cells ⟨er, ae, ⟨xa, xn, xc⟩⟩), (gk10, 54, En.cells ae)]) := HF.out.set 4 rfl _
  generalize wk11.setRow gk10 (En.cells ae) = wk12 at HF ⊢
  refine wp_takeW (.bool true) (by kernel_rfl) (by kernel_rfl) ?_
  try simp only [pA, pB, p1, p2, p3]
  refine WL.nil ?_
  try simp only [pA, pB, p1, p2, p3]
  go_upto_region 7 with fail
  refine WL.start ?_
  refine wp_takeW (.pointer (some ⟨gk3, 1, none⟩)) (by kernel_rfl) (by kernel_rfl) ?_
  try simp only [pA, pB, p1, p2, p3]
  refine wp_takeW (.slice na nn nc) (exec_load 22 _ rfl ⟨gk3, 1, none⟩ (by kernel_rfl) (.slice na nn nc) (ld22 ((HF.out.box 1 _ _ _ rfl).cell 1))) (by kernel_rfl) ?_
  try simp only [pA, pB, p1, p2, p3]
  refine wp_takeW (.int .i64 ((nn : Nat) : Int)) (by kernel_rfl) (by kernel_rfl) ?_
  try simp only [pA, pB, p1, p2, p3]
  refine wp_takeW (.int .i64 (((bn + 1) : Nat) : Int)) (by kernel_rfl) (by kernel_rfl) ?_
  try simp only [pA, pB, p1, p2, p3]
  refine wp_takeW (.bool false) (exec_bin .neq 3 _ _ _ rfl (.int .i64 ((nn : Nat) : Int)) (.int .i64 (((bn + 1) : Nat) : Int)) (.bool false) (by kernel_rfl) (by kernel_rfl) (by kernel_rfl) (by rw [b_neq, show ((nn : Nat) : Int) = (((bn + 1) : Nat) : Int) by omega]; simp)) (by kernel_rfl) ?_
  try simp only [pA, pB, p1, p2, p3]
  refine wp_takeW (.bool false) (by kernel_rfl) (by kernel_rfl) ?_
  try simp only [pA, pB, p1, p2, p3]
  refine wp_takeW (.pointer (some ⟨gk7, 5, none⟩)) (by kernel_rfl) (by kernel_rfl) ?_
  try simp only [pA, pB, p1, p2, p3]
  refine wp_takeW (.slice xa xn xc) (exec_load 22 _ rfl ⟨gk7, 5, none⟩ (by kernel_rfl) (.slice xa xn xc) (ld22 ((HF.out.box 3 _ _ _ rfl).cell 5))) (by kernel_rfl) ?_
  try simp only [pA, pB, p1, p2, p3]
  refine wp_takeW (.int .i64 ((xn : Nat) : Int)) (by kernel_rfl) (by kernel_rfl) ?_
  try simp only [pA, pB, p1, p2, p3]
  refine wp_takeW (.bool false) (exec_bin .gtr 3 _ _ _ rfl (.int .i64 ((xn : Nat) : Int)) (.int .i64 0) (.bool false) (by kernel_rfl) (by kernel_rfl) (by kernel_rfl) (by rw [b_gtr, decide_eq_false (by omega)])) (by kernel_rfl) ?_
  try simp only [pA, pB, p1, p2, p3]
  refine wp_takeW (.bool false) (by kernel_rfl) (by kernel_rfl) ?_
  try simp only [pA, pB, p1, p2, p3]
  refine wp_skip (by kernel_rfl) ?_
  try simp only [pA, pB, p1, p2, p3]
  refine wp_skip (by kernel_rfl) ?_
  try simp only [pA, pB, p1, p2, p3]
  refine wp_skip (by kernel_rfl) ?_
  try simp only [pA, pB, p1, p2, p3]
  refine wp_takeW (.bool false) (by kernel_rfl) (by kernel_rfl) ?_
  try simp only [pA, pB, p1, p2, p3]
  refine wp_takeW (.bool false) (by kernel_rfl) (by kernel_rfl) ?_
  try simp only [pA, pB, p1, p2, p3]
  refine WL.nil ?_
  try simp only [pA, pB, p1, p2, p3]
  go_upto_region 9 with fail
  refine WL.start ?_
  refine wp_takeW (.pointer (some ⟨gk5, 0, none⟩)) (by kernel_rfl) (by kernel_rfl) ?_
  try simp only [pA, pB, p1, p2, p3]
  refine wp_takeW (.int .i64 c.k) (exec_load 3 _ rfl ⟨gk5, 0, none⟩ (by kernel_rfl) (.int .i64 c.k) (ld3 ((HF.out.box 2 _ _ _ rfl).cell 0))) (by kernel_rfl) ?_
  try simp only [pA, pB, p1, p2, p3]
  refine wp_takeW (.bool false) (exec_bin .eql 3 _ _ _ rfl (.int .i64 c.k) (.int .i64 4) (.bool false) (by kernel_rfl) (by kernel_rfl) (by kernel_rfl) (by rw [b_eql, h4]; try rfl)) (by kernel_rfl) ?_
  try simp only [pA, pB, p1, p2, p3]
  refine wp_takeW (.bool false) (by kernel_rfl) (by kernel_rfl) ?_
  try simp only [pA, pB, p1, p2, p3]
  refine WL.nil ?_
  try simp only [pA, pB, p1, p2, p3]
  go_upto_region 11 with fail
  refine WL.start ?_
  refine wp_takeW (.pointer (some ⟨gk7, 0, none⟩)) (by kernel_rfl) (by kernel_rfl) ?_
  try simp only [pA, pB, p1, p2, p3]
  refine wp_takeW (.int .i64 er) (exec_load 46 _ rfl ⟨gk7, 0, none⟩ (by kernel_rfl) (.int .i64 er) (ld46 ((HF.out.box 3 _ _ _ rfl).cell 0))) (by kernel_rfl) ?_
  try simp only [pA, pB, p1, p2, p3]
  refine wp_takeW (.bool false) (exec_bin .eql 46 _ _ _ rfl (.int .i64 er) (.int .i64 102) (.bool false) (by kernel_rfl) (by kernel_rfl) (by kernel_rfl) (by rw [b_eql46, he2]; try rfl)) (by kernel_rfl) ?_
  try simp only [pA, pB, p1, p2, p3]
  refine wp_takeW (.bool false) (by kernel_rfl) (by kernel_rfl) ?_
  try simp only [pA, pB, p1, p2, p3]
  refine wp_takeW (.pointer (some ⟨gk7, 0, none⟩)) (by kernel_rfl) (by kernel_rfl) ?_
  try simp only [pA, pB, p1, p2, p3]
  refine wp_takeW (.int .i64 er) (exec_load 46 _ rfl ⟨gk7, 0, none⟩ (by kernel_rfl) (.int .i64 er) (ld46 ((HF.out.box 3 _ _ _ rfl).cell 0))) (by kernel_rfl) ?_
  try simp only [pA, pB, p1, p2, p3]
  refine wp_takeW (.bool false) (exec_bin .eql 46 _ _ _ rfl (.int .i64 er) (.int .i64 103) (.bool false) (by kernel_rfl) (by kernel_rfl) (by kernel_rfl) (by rw [b_eql46, he3]; try rfl)) (by kernel_rfl) ?_
  try simp only [pA, pB, p1, p2, p3]
  refine wp_takeW (.bool false) (by kernel_rfl) (by kernel_rfl) ?_
  try simp only [pA, pB, p1, p2, p3]
  refine wp_takeW (.bool false) (by kernel_rfl) (by kernel_rfl) ?_
  try simp only [pA, pB, p1, p2, p3]
  refine WL.nil ?_
  try simp only [pA, pB, p1, p2, p3]
  go_upto_region 13 with fail
  refine WL.start ?_
  refine wp_takeW (.pointer (some ⟨gk5, 0, none⟩)) (by kernel_rfl) (by kernel_rfl) ?_
  try simp only [pA, pB, p1, p2, p3]
  refine wp_takeW (.int .i64 c.k) (exec_load 3 _ rfl ⟨gk5, 0, none⟩ (by kernel_rfl) (.int .i64 c.k) (ld3 ((HF.out.box 2 _ _ _ rfl).cell 0))) (by kernel_rfl) ?_
  try simp only [pA, pB, p1, p2, p3]
  refine wp_takeW (.bool false) (exec_bin .eql 3 _ _ _ rfl (.int .i64 c.k) (.int .i64 2) (.bool false) (by kernel_rfl) (by kernel_rfl) (by kernel_rfl) (by rw [b_eql, h2]; try rfl)) (by kernel_rfl) ?_
  try simp only [pA, pB, p1, p2, p3]
  refine wp_takeW (.bool false) (by kernel_rfl) (by kernel_rfl) ?_
  try simp only [pA, pB, p1, p2, p3]
  refine WL.nil ?_
  try simp only [pA, pB, p1, p2, p3]
  go_upto_region 16 with fail
  refine WL.start ?_
  refine wp_takeW (.bool true) (by kernel_rfl) (by kernel_rfl) ?_
  try simp only [pA, pB, p1, p2, p3]
  refine wp_takeW (.bool true) (by kernel_rfl) (by kernel_rfl) ?_
  try simp only [pA, pB, p1, p2, p3]
  refine wp_takeW (.agg (En.cells ae)) (exec_load 54 _ rfl ⟨gk10, 0, none⟩ (by kernel_rfl) (.agg (En.cells ae)) (ld54 (HF.out.box 4 _ _ _ rfl))) (by kernel_rfl) ?_
  try simp only [pA, pB, p1, p2, p3]
  refine wp_takeW (.pointer (some ⟨gk7, 1, none⟩)) (by kernel_rfl) (by kernel_rfl) ?_
  try simp only [pA, pB, p1, p2, p3]
  refine wp_takeW (.agg (En.cells ae)) (exec_load 54 _ rfl ⟨gk7, 1, none⟩ (by kernel_rfl) (.agg (En.cells ae)) (ldAE (HF.out.box 3 _ _ _ rfl))) (by kernel_rfl) ?_
  try simp only [pA, pB, p1, p2, p3]
  refine wp_takeW (.bool true) (exec_bin .eql 54 _ _ _ rfl (.agg (En.cells ae)) (.agg (En.cells ae)) (.bool true) (by kernel_rfl) (by kernel_rfl) (by kernel_rfl) (by rw [eqE_eql, eqE_iff.2 rfl])) (by kernel_rfl) ?_
  try simp only [pA, pB, p1, p2, p3]
  refine wp_takeW (.bool true) (by kernel_rfl) (by kernel_rfl) ?_
  try simp only [pA, pB, p1, p2, p3]
  refine wp_takeW (.bool true) (by kernel_rfl) (by kernel_rfl) ?_
  try simp only [pA, pB, p1, p2, p3]
  refine WL.nil ?_
  try simp only [pA, pB, p1, p2, p3]
  go_wp2
  rw [HC.out]
  exact ⟨rfl, HF.out.kept⟩
set_option maxRecDepth 100000 in
set_option maxHeartbeats 4000000 in
theorem counted_same (bu : Int) (ba : Option Addr) (bn bc : Nat) (bsl : Sl) (nu : Int) (na : Option Addr) (nn nc : Nat) (nsl : Sl) (c : Cm) (er : Int) (ae : En) (xa : Option Addr) (xn xc : Nat) (es es2 l : List En) (w : World) (hb : RdE w ⟨ba, bn, bc⟩ es) (hn : RdE w ⟨na, nn, nc⟩ es2) (hx : RdE w ⟨xa, xn, xc⟩ l) (hbb : bn ≤ 1000) (hnb : nn ≤ 1000) (h01 : (er == 0) = true → (c.k == 1) = false) (h2 : (c.k == 2) = false) (h4 : (c.k == 4) = false) (he2 : (er == 102) = false) (he3 : (er == 103) = false) (hl0 : l = []) (hnn : nn = bn) (hf1 : findE es2 c.nm = ae) (hi1 : eIs es2 c.nm = true)  : Calls Try.prog 23 #[.agg (Bv.cells ⟨bu, ⟨ba, bn, bc⟩, bsl⟩), .agg (Bv.cells ⟨nu, ⟨na, nn, nc⟩, nsl⟩), .agg (Cm.cells c), .agg (Av.cells ⟨er, ae, ⟨xa, xn, xc⟩⟩)] w (fun e w' => e = .returned (.bool true) ∧ Kept No w w') := by
  obtain ⟨C, hC⟩ : ∃ C : Ending → World → Prop, C = (fun e w' => e = .returned (.bool true) ∧ Kept No w w') := ⟨_, rfl⟩
  have HC : Hid (C = (fun e w' => e = .returned (.bool true) ∧ Kept No w w')) := hC
  rw [← hC]
  clear hC
  have HB : Hid (RdE w ⟨ba, bn, bc⟩ es) := hb
  have HN : Hid (RdE w ⟨na, nn, nc⟩ es2) := hn
  have HX : Hid (RdE w ⟨xa, xn, xc⟩ l) := hx
  clear hb hn hx
  have HF1 : Hid (findE es2 c.nm = ae) := hf1
  have HI1 : Hid (eIs es2 c.nm = true) := hi1
  have hxn : xn = 0 := by have e1 : l.length = xn := HX.out.len; rw [hl0] at e1; exact e1.symm
  have HF : Hid (Fr No w w []) := Fr.start _ _
  go_enter Try.func23, Try.ntmps23
  go_upto_region 0 with fail
  refine WL.start ?_
  refine wp_runW (.pointer (some ⟨w.heap.size, 0, none⟩)) (w.alloc (.cells (Bv.cells ⟨bu, ⟨ba, bn, bc⟩, bsl⟩) 25)) (exec_box 25 _ rfl (Bv.cells ⟨bu, ⟨ba, bn, bc⟩, bsl⟩) (by kernel_rfl)) (by kernel_rfl) ?_
  try simp only [pA, pB, p1, p2, p3]
  have HF : Hid (Fr No w (w.alloc (.cells (Bv.cells ⟨bu, ⟨ba, bn, bc⟩, bsl⟩) 25)) [(w.heap.size, 25, Bv.cells ⟨bu, ⟨ba, bn, bc⟩, bsl⟩)]) := HF.out.alloc _ _
  generalize w.alloc (.cells (Bv.cells ⟨bu, ⟨ba, bn, bc⟩, bsl⟩) 25) = wk2 at HF ⊢
  generalize w.heap.size = gk1 at HF ⊢
  refine wp_runW (.pointer (some ⟨wk2.heap.size, 0, none⟩)) (wk2.alloc (.cells (Bv.cells ⟨nu, ⟨na, nn, nc⟩, nsl⟩) 25)) (exec_box 25 _ rfl (Bv.cells ⟨nu, ⟨na, nn, nc⟩, nsl⟩) (by kernel_rfl)) (by kernel_rfl) ?_
  try simp only [pA, pB, p1, p2, p3]
  have HF : Hid (Fr No w (wk2.alloc (.cells (Bv.cells ⟨nu, ⟨na, nn, nc⟩, nsl⟩) 25)) [(gk1, 25, Bv.cells ⟨bu, ⟨ba, bn, bc⟩, bsl⟩), (wk2.heap.size, 25, Bv.cells ⟨nu, ⟨na, nn, nc⟩, nsl⟩)]) := HF.out.alloc _ _
  generalize wk2.alloc (.cells (Bv.cells ⟨nu, ⟨na, nn, nc⟩, nsl⟩) 25) = wk4 at HF ⊢
  generalize wk2.heap.size = gk3 at HF ⊢
  refine wp_runW (.pointer (some ⟨wk4.heap.size, 0, none⟩)) (wk4.alloc (.cells (Cm.cells c) 29)) (exec_box 29 _ rfl (Cm.cells c) (by kernel_rfl)) (by kernel_rfl) ?_
  try simp only [pA, pB, p1, p2, p3]
  have HF : Hid (Fr No w (wk4.alloc (.cells (Cm.cells c) 29)) [(gk1, 25, Bv.cells ⟨bu, ⟨ba, bn, bc⟩, bsl⟩), (gk3, 25, Bv.cells ⟨nu, ⟨na, nn, nc⟩, nsl⟩), (wk4.heap.size, 29, Cm.cells c)]) := HF.out.alloc _ _
  generalize wk4.alloc (.cells (Cm.cells c) 29) = wk6 at HF ⊢
  generalize wk4.heap.size = gk5 at HF ⊢
  refine wp_runW (.pointer (some ⟨wk6.heap.size, 0, none⟩)) (wk6.alloc (.cells (Av.cells ⟨er, ae, ⟨xa, xn, xc⟩⟩) 56)) (exec_box 56 _ rfl (Av.cells ⟨er, ae, ⟨xa, xn, xc⟩⟩) (by kernel_rfl)) (by kernel_rfl) ?_
  try simp only [pA, pB, p1, p2, p3]
  have HF : Hid (Fr No w (wk6.alloc (.cells (Av.cells ⟨er, ae, ⟨xa, xn, xc⟩⟩) 56)) [(gk1, 25, Bv.cells ⟨bu, ⟨ba, bn, bc⟩, bsl⟩), (gk3, 25, Bv.cells ⟨nu, ⟨na, nn, nc⟩, nsl⟩), (gk5, 29, Cm.cells c), (wk6.heap.size, 56, Av.cells ⟨er, ae, ⟨xa, xn, xc⟩⟩)]) := HF.out.alloc _ _
  generalize wk6.alloc (.cells (Av.cells ⟨er, ae, ⟨xa, xn, xc⟩⟩) 56) = wk8 at HF ⊢
  generalize wk6.heap.size = gk7 at HF ⊢
  refine wp_takeW (.bool false) (by kernel_rfl) (by kernel_rfl) ?_
  try simp only [pA, pB, p1, p2, p3]
  refine WL.nil ?_
  try simp only [pA, pB, p1, p2, p3]
  go_upto_region 1 with fail
  refine WL.start ?_
  refine wp_takeW (.pointer (some ⟨gk1, 1, none⟩)) (by kernel_rfl) (by kernel_rfl) ?_
  try simp only [pA, pB, p1, p2, p3]
  refine wp_takeW (.slice ba bn bc) (exec_load 22 _ rfl ⟨gk1, 1, none⟩ (by kernel_rfl) (.slice ba bn bc) (ld22 ((HF.out.box 0 _ _ _ rfl).cell 1))) (by kernel_rfl) ?_
  try simp only [pA, pB, p1, p2, p3]
  refine wp_takeW (.int .i64 ((bn : Nat) : Int)) (by kernel_rfl) (by kernel_rfl) ?_
  try simp only [pA, pB, p1, p2, p3]
  refine wp_takeW (.int .i64 ((bn : Nat) : Int)) (by kernel_rfl) (by kernel_rfl) ?_
  try simp only [pA, pB, p1, p2, p3]
  refine WL.nil ?_
  try simp only [pA, pB, p1, p2, p3]
  go_upto_region 2 with fail
  refine WL.start ?_
  refine wp_takeW (.pointer (some ⟨gk7, 0, none⟩)) (by kernel_rfl) (by kernel_rfl) ?_
  try simp only [pA, pB, p1, p2, p3]
  refine wp_takeW (.int .i64 er) (exec_load 46 _ rfl ⟨gk7, 0, none⟩ (by kernel_rfl) (.int .i64 er) (ld46 ((HF.out.box 3 _ _ _ rfl).cell 0))) (by kernel_rfl) ?_
  try simp only [pA, pB, p1, p2, p3]
  cases q1 : (er == 0)
  ·skip
   refine wp_takeW (.bool false) (exec_bin .eql 46 _ _ _ rfl (.int .i64 er) (.int .i64 0) (.bool false) (by kernel_rfl) (by kernel_rfl) (by kernel_rfl) (by rw [b_eql46, q1]; try rfl)) (by kernel_rfl) ?_
   try simp only [pA, pB, p1, p2, p3]
   refine wp_takeW (.bool false) (by kernel_rfl) (by kernel_rfl) ?_
   try simp only [pA, pB, p1, p2, p3]
   refine wp_skip (by kernel_rfl) ?_
   try simp only [pA, pB, p1, p2, p3]
   refine wp_skip (by kernel_rfl) ?_
   try simp only [pA, pB, p1, p2, p3]
   refine wp_skip (by kernel_rfl) ?_
   try simp only [pA, pB, p1, p2, p3]
   refine wp_takeW (.bool false) (by kernel_rfl) (by kernel_rfl) ?_
   try simp only [pA, pB, p1, p2, p3]
   refine WL.nil ?_
   try simp only [pA, pB, p1, p2, p3]
   go_upto_region 4 with fail
   refine WL.start ?_
   refine wp_takeW (.pointer (some ⟨gk7, 0, none⟩)) (by kernel_rfl) (by kernel_rfl) ?_
   try simp only [pA, pB, p1, p2, p3]
   refine wp_takeW (.int .i64 er) (exec_load 46 _ rfl ⟨gk7, 0, none⟩ (by kernel_rfl) (.int .i64 er) (ld46 ((HF.out.box 3 _ _ _ rfl).cell 0))) (by kernel_rfl) ?_
   try simp only [pA, pB, p1, p2, p3]
   refine wp_takeW (.bool false) (exec_bin .eql 46 _ _ _ rfl (.int .i64 er) (.int .i64 0) (.bool false) (by kernel_rfl) (by kernel_rfl) (by kernel_rfl) (by rw [b_eql46, q1]; try rfl)) (by kernel_rfl) ?_
   try simp only [pA, pB, p1, p2, p3]
   refine wp_takeW (.bool false) (by kernel_rfl) (by kernel_rfl) ?_
   try simp only [pA, pB, p1, p2, p3]
   refine wp_skip (by kernel_rfl) ?_
   try simp only [pA, pB, p1, p2, p3]
   refine wp_skip (by kernel_rfl) ?_
   try simp only [pA, pB, p1, p2, p3]
   refine wp_skip (by kernel_rfl) ?_
   try simp only [pA, pB, p1, p2, p3]
   refine wp_takeW (.bool false) (by kernel_rfl) (by kernel_rfl) ?_
   try simp only [pA, pB, p1, p2, p3]
   refine WL.nil ?_
   try simp only [pA, pB, p1, p2, p3]
   go_upto_region 6 with fail
   refine WL.start ?_
   refine wp_takeW (.agg (Bv.cells ⟨nu, ⟨na, nn, nc⟩, nsl⟩)) (exec_load 25 _ rfl ⟨gk3, 0, none⟩ (by kernel_rfl) (.agg (Bv.cells ⟨nu, ⟨na, nn, nc⟩, nsl⟩)) (ld25 (HF.out.box 1 _ _ _ rfl))) (by kernel_rfl) ?_
   try simp only [pA, pB, p1, p2, p3]
   refine wp_takeW (.pointer (some ⟨gk5, 3, none⟩)) (by kernel_rfl) (by kernel_rfl) ?_
   try simp only [pA, pB, p1, p2, p3]
   refine wp_takeW (.string c.nm) (exec_load 9 _ rfl ⟨gk5, 3, none⟩ (by kernel_rfl) (.string c.nm) (ld9 ((HF.out.box 2 _ _ _ rfl).cell 3))) (by kernel_rfl) ?_
   try simp only [pA, pB, p1, p2, p3]
   refine wp_callW 24 #[.agg (Bv.cells ⟨nu, ⟨na, nn, nc⟩, nsl⟩), .string c.nm] (by kernel_rfl) _ (find_any nu na nn nc nsl es2 c.nm _ HN.out.len (by omega) (HN.out.no HF.out.kept).row) (by kernel_rfl) ?_
   rintro e wk9 ⟨rfl, hk⟩
   have HF : Hid (Fr No w (wk9) [(gk1, 25, Bv.cells ⟨bu, ⟨ba, bn, bc⟩, bsl⟩), (gk3, 25, Bv.cells ⟨nu, ⟨na, nn, nc⟩, nsl⟩), (gk5, 29, Cm.cells c), (gk7, 56, Av.cells ⟨er, ae, ⟨xa, xn, xc⟩⟩)]) := HF.out.no hk
   clear hk
   refine ⟨.tuple #[.agg (En.cells ae), .bool true], by rw [HF1.out, HI1.out], ?_⟩
   try simp only [pA, pB, p1, p2, p3]
   refine wp_takeW (.tuple #[.agg (En.cells ae), .bool true]) (by kernel_rfl) (by kernel_rfl) ?_
   try simp only [pA, pB, p1, p2, p3]
   refine wp_takeW (.agg (En.cells ae)) (by kernel_rfl) (by kernel_rfl) ?_
   try simp only [pA, pB, p1, p2, p3]
   refine wp_takeW (.bool true) (by kernel_rfl) (by kernel_rfl) ?_
   try simp only [pA, pB, p1, p2, p3]
   refine wp_runW (.pointer (some ⟨wk9.heap.size, 0, none⟩)) (wk9.alloc (.cells (En.cells enZ) 54)) (exec_alloc 54 rfl (En.cells enZ) zero54) (by kernel_rfl) ?_
   try simp only [pA, pB, p1, p2, p3]
   have HF : Hid (Fr No w (wk9.alloc (.cells (En.cells enZ) 54)) [(gk1, 25, Bv.cells ⟨bu, ⟨ba, bn, bc⟩, bsl⟩), (gk3, 25, Bv.cells ⟨nu, ⟨na, nn, nc⟩, nsl⟩), (gk5, 29, Cm.cells c), (gk7, 56, Av.cells ⟨er, ae, ⟨xa, xn, xc⟩⟩), (wk9.heap.size, 54, En.cells enZ)]) := HF.out.alloc _ _
   generalize wk9.alloc (.cells (En.cells enZ) 54) = wk11 at HF ⊢
   generalize wk9.heap.size = gk10 at HF ⊢
   refine wp_storeW 54 _ _ rfl ⟨gk10, 0, none⟩ (.agg (En.cells ae)) (by kernel_rfl) (by kernel_rfl) (wk11.setRow gk10 (En.cells ae)) (st54 (HF.out.box 4 _ _ _ rfl) rfl) (by kernel_rfl) ?_
   try simp only [pA, pB, p1, p2, p3]
   have HF : Hid (Fr No w (wk11.setRow gk10 (En.cells ae)) [(gk1, 25, Bv.cells ⟨bu, ⟨ba, bn, bc⟩, bsl⟩), (gk3, 25, Bv.cells ⟨nu, ⟨na, nn, nc⟩, nsl⟩), (gk5, 29, Cm.cells c), (gk7, 56, Av.cells ⟨er, ae, ⟨xa, xn, xc⟩⟩), (gk10, 54, En.cells ae)]) := HF.out.set 4 rfl _
   generalize wk11.setRow gk10 (En.cells ae) = wk12 at HF ⊢
   refine wp_takeW (.bool true) (by kernel_rfl) (by kernel_rfl) ?_
   try simp only [pA, pB, p1, p2, p3]
   refine WL.nil ?_
   try simp only [pA, pB, p1, p2, p3]
   go_upto_region 7 with fail
   refine WL.start ?_
   refine wp_takeW (.pointer (some ⟨gk3, 1, none⟩)) (by kernel_rfl) (by kernel_rfl) ?_
   try simp only [pA, pB, p1, p2, p3]
   refine wp_takeW (.slice na nn nc) (exec_load 22 _ rfl ⟨gk3, 1, none⟩ (by kernel_rfl) (.slice na nn nc) (ld22 ((HF.out.box 1 _ _ _ rfl).cell 1))) (by kernel_rfl) ?_
   try simp only [pA, pB, p1, p2, p3]
   refine wp_takeW (.int .i64 ((nn : Nat) : Int)) (by kernel_rfl) (by kernel_rfl) ?_
   try simp only [pA, pB, p1, p2, p3]
   refine wp_takeW (.int .i64 ((bn : Nat) : Int)) (by kernel_rfl) (by kernel_rfl) ?_
   try simp only [pA, pB, p1, p2, p3]
   refine wp_takeW (.bool false) (exec_bin .neq 3 _ _ _ rfl (.int .i64 ((nn : Nat) : Int)) (.int .i64 ((bn : Nat) : Int)) (.bool false) (by kernel_rfl) (by kernel_rfl) (by kernel_rfl) (by rw [b_neq, show ((nn : Nat) : Int) = ((bn : Nat) : Int) by omega]; simp)) (by kernel_rfl) ?_
   try simp only [pA, pB, p1, p2, p3]
   refine wp_takeW (.bool false) (by kernel_rfl) (by kernel_rfl) ?_
   try simp only [pA, pB, p1, p2, p3]
   refine wp_takeW (.pointer (some ⟨gk7, 5, none⟩)) (by kernel_rfl) (by kernel_rfl) ?_
   try simp only [pA, pB, p1, p2, p3]
   refine wp_takeW (.slice xa xn xc) (exec_load 22 _ rfl ⟨gk7, 5, none⟩ (by kernel_rfl) (.slice xa xn xc) (ld22 ((HF.out.box 3 _ _ _ rfl).cell 5))) (by kernel_rfl) ?_
   try simp only [pA, pB, p1, p2, p3]
   refine wp_takeW (.int .i64 ((xn : Nat) : Int)) (by kernel_rfl) (by kernel_rfl) ?_
   try simp only [pA, pB, p1, p2, p3]
   refine wp_takeW (.bool false) (exec_bin .gtr 3 _ _ _ rfl (.int .i64 ((xn : Nat) : Int)) (.int .i64 0) (.bool false) (by kernel_rfl) (by kernel_rfl) (by kernel_rfl) (by rw [b_gtr, decide_eq_false (by omega)])) (by kernel_rfl) ?_
   try simp only [pA, pB, p1, p2, p3]
   refine wp_takeW (.bool false) (by kernel_rfl) (by kernel_rfl) ?_
   try simp only [pA, pB, p1, p2, p3]
   refine wp_skip (by kernel_rfl) ?_
   try simp only [pA, pB, p1, p2, p3]
   refine wp_skip (by kernel_rfl) ?_
   try simp only [pA, pB, p1, p2, p3]
   refine wp_skip (by kernel_rfl) ?_
   try simp only [pA, pB, p1, p2, p3]
   refine wp_takeW (.bool false) (by kernel_rfl) (by kernel_rfl) ?_
   try simp only [pA, pB, p1, p2, p3]
   refine wp_takeW (.bool false) (by kernel_rfl) (by kernel_rfl) ?_
   try simp only [pA, pB, p1, p2, p3]
   refine WL.nil ?_
   try simp only [pA, pB, p1, p2, p3]
   go_upto_region 9 with fail
   refine WL.start ?_
   refine wp_takeW (.pointer (some ⟨gk5, 0, none⟩)) (by kernel_rfl) (by kernel_rfl) ?_
   try simp only [pA, pB, p1, p2, p3]
   refine wp_takeW (.int .i64 c.k) (exec_load 3 _ rfl ⟨gk5, 0, none⟩ (by kernel_rfl) (.int .i64 c.k) (ld3 ((HF.out.box 2 _ _ _ rfl).cell 0))) (by kernel_rfl) ?_
   try simp only [pA, pB, p1, p2, p3]
   refine wp_takeW (.bool false) (exec_bin .eql 3 _ _ _ rfl (.int .i64 c.k) (.int .i64 4) (.bool false) (by kernel_rfl) (by kernel_rfl) (by kernel_rfl) (by rw [b_eql, h4]; try rfl)) (by kernel_rfl) ?_
   try simp only [pA, pB, p1, p2, p3]
   refine wp_takeW (.bool false) (by kernel_rfl) (by kernel_rfl) ?_
   try simp only [pA, pB, p1, p2, p3]
   refine WL.nil ?_
   try simp only [pA, pB, p1, p2, p3]
   go_upto_region 11 with fail
   refine WL.start ?_
   refine wp_takeW (.pointer (some ⟨gk7, 0, none⟩)) (by kernel_rfl) (by kernel_rfl) ?_
   try simp only [pA, pB, p1, p2, p3]
   refine wp_takeW (.int .i64 er) (exec_load 46 _ rfl ⟨gk7, 0, none⟩ (by kernel_rfl) (.int .i64 er) (ld46 ((HF.out.box 3 _ _ _ rfl).cell 0))) (by kernel_rfl) ?_
   try simp only [pA, pB, p1, p2, p3]
   refine wp_takeW (.bool false) (exec_bin .eql 46 _ _ _ rfl (.int .i64 er) (.int .i64 102) (.bool false) (by kernel_rfl) (by kernel_rfl) (by kernel_rfl) (by rw [b_eql46, he2]; try rfl)) (by kernel_rfl) ?_
   try simp only [pA, pB, p1, p2, p3]
   refine wp_takeW (.bool false) (by kernel_rfl) (by kernel_rfl) ?_
   try simp only [pA, pB, p1, p2, p3]
   refine wp_takeW (.pointer (some ⟨gk7, 0, none⟩)) (by kernel_rfl) (by kernel_rfl) ?_
   try simp only [pA, pB, p1, p2, p3]
   refine wp_takeW (.int .i64 er) (exec_load 46 _ rfl ⟨gk7, 0, none⟩ (by kernel_rfl) (.int .i64 er) (ld46 ((HF.out.box 3 _ _ _ rfl).cell 0))) (by kernel_rfl) ?_
   try simp only [pA, pB, p1, p2, p3]
   refine wp_takeW (.bool false) (exec_bin .eql 46 _ _ _ rfl (.int .i64 er) (.int .i64 103) (.bool false) (by kernel_rfl) (by kernel_rfl) (by kernel_rfl) (by rw [b_eql46, he3]; try rfl)) (by kernel_rfl) ?_
   try simp only [pA, pB, p1, p2, p3]
   refine wp_takeW (.bool false) (by kernel_rfl) (by kernel_rfl) ?_
   try simp only [pA, pB, p1, p2, p3]
   refine wp_takeW (.bool false) (by kernel_rfl) (by kernel_rfl) ?_
   try simp only [pA, pB, p1, p2, p3]
   refine WL.nil ?_
   try simp only [pA, pB, p1, p2, p3]
   go_upto_region 13 with fail
   refine WL.start ?_
   refine wp_takeW (.pointer (some ⟨gk5, 0, none⟩)) (by kernel_rfl) (by kernel_rfl) ?_
   try simp only [pA, pB, p1, p2, p3]
   refine wp_takeW (.int .i64 c.k) (exec_load 3 _ rfl ⟨gk5, 0, none⟩ (by kernel_rfl) (.int .i64 c.k) (ld3 ((HF.out.box 2 _ _ _ rfl).cell 0))) (by kernel_rfl) ?_
   try simp only [pA, pB, p1, p2, p3]
   refine wp_takeW (.bool false) (exec_bin .eql 3 _ _ _ rfl (.int .i64 c.k) (.int .i64 2) (.bool false) (by kernel_rfl) (by kernel_rfl) (by kernel_rfl) (by rw [b_eql, h2]; try rfl)) (by kernel_rfl) ?_
   try simp only [pA, pB, p1, p2, p3]
   refine wp_takeW (.bool false) (by kernel_rfl) (by kernel_rfl) ?_
   try simp only [pA, pB, p1, p2, p3]
   refine WL.nil ?_
   try simp only [pA, pB, p1, p2, p3]
   go_upto_region 16 with fail
   refine WL.start ?_
   refine wp_takeW (.bool true) (by kernel_rfl) (by kernel_rfl) ?_
   try simp only [pA, pB, p1, p2, p3]
   refine wp_takeW (.bool true) (by kernel_rfl) (by kernel_rfl) ?_
   try simp only [pA, pB, p1, p2, p3]
   refine wp_takeW (.agg (En.cells ae)) (exec_load 54 _ rfl ⟨gk10, 0, none⟩ (by kernel_rfl) (.agg (En.cells ae)) (ld54 (HF.out.box 4 _ _ _ rfl))) (by kernel_rfl) ?_
   try simp only [pA, pB, p1, p2, p3]
   refine wp_takeW (.pointer (some ⟨gk7, 1, none⟩)) (by kernel_rfl) (by kernel_rfl) ?_
   try simp only [pA, pB, p1, p2, p3]
   refine wp_takeW (.agg (En.cells ae)) (exec_load 54 _ rfl ⟨gk7, 1, none⟩ (by kernel_rfl) (.agg (En.cells ae)) (ldAE (HF.out.box 3 _ _ _ rfl))) (by kernel_rfl) ?_
   try simp only [pA, pB, p1, p2, p3]
   refine wp_takeW (.bool true) (exec_bin .eql 54 _ _ _ rfl (.agg (En.cells ae)) (.agg (En.cells ae)) (.bool true) (by kernel_rfl) (by kernel_rfl) (by kernel_rfl) (by rw [eqE_eql, eqE_iff.2 rfl])) (by kernel_rfl) ?_
   try simp only [pA, pB, p1, p2, p3]
   refine wp_takeW (.bool true) (by kernel_rfl) (by kernel_rfl) ?_
   try simp only [pA, pB, p1, p2, p3]
   refine wp_takeW (.bool true) (by kernel_rfl) (by kernel_rfl) ?_
   try simp only [pA, pB, p1, p2, p3]
   refine WL.nil ?_
   try simp only [pA, pB, p1, p2, p3]
   go_wp2
   rw [HC.out]
   exact ⟨rfl, HF.out.kept⟩
  ·skip
   refine wp_takeW (.bool true) (exec_bin .eql 46 _ _ _ rfl (.int .i64 er) (.int .i64 0) (.bool true) (by kernel_rfl) (by kernel_rfl) (by kernel_rfl) (by rw [b_eql46, q1]; try rfl)) (by kernel_rfl) ?_
   try simp only [pA, pB, p1, p2, p3]
   refine wp_takeW (.bool true) (by kernel_rfl) (by kernel_rfl) ?_
   try simp only [pA, pB, p1, p2, p3]
   refine wp_takeW (.pointer (some ⟨gk5, 0, none⟩)) (by kernel_rfl) (by kernel_rfl) ?_
   try simp only [pA, pB, p1, p2, p3]
   refine wp_takeW (.int .i64 c.k) (exec_load 3 _ rfl ⟨gk5, 0, none⟩ (by kernel_rfl) (.int .i64 c.k) (ld3 ((HF.out.box 2 _ _ _ rfl).cell 0))) (by kernel_rfl) ?_
   try simp only [pA, pB, p1, p2, p3]
   cases q2 : (c.k == 1)
   ·skip
    refine wp_takeW (.bool false) (exec_bin .eql 3 _ _ _ rfl (.int .i64 c.k) (.int .i64 1) (.bool false) (by kernel_rfl) (by kernel_rfl) (by kernel_rfl) (by rw [b_eql, q2]; try rfl)) (by kernel_rfl) ?_
    try simp only [pA, pB, p1, p2, p3]
    refine wp_takeW (.bool false) (by kernel_rfl) (by kernel_rfl) ?_
    try simp only [pA, pB, p1, p2, p3]
    refine WL.nil ?_
    try simp only [pA, pB, p1, p2, p3]
    go_upto_region 4 with fail
    refine WL.start ?_
    refine wp_takeW (.pointer (some ⟨gk7, 0, none⟩)) (by kernel_rfl) (by kernel_rfl) ?_
    try simp only [pA, pB, p1, p2, p3]
    refine wp_takeW (.int .i64 er) (exec_load 46 _ rfl ⟨gk7, 0, none⟩ (by kernel_rfl) (.int .i64 er) (ld46 ((HF.out.box 3 _ _ _ rfl).cell 0))) (by kernel_rfl) ?_
    try simp only [pA, pB, p1, p2, p3]
    refine wp_takeW (.bool true) (exec_bin .eql 46 _ _ _ rfl (.int .i64 er) (.int .i64 0) (.bool true) (by kernel_rfl) (by kernel_rfl) (by kernel_rfl) (by rw [b_eql46, q1]; try rfl)) (by kernel_rfl) ?_
    try simp only [pA, pB, p1, p2, p3]
    refine wp_takeW (.bool true) (by kernel_rfl) (by kernel_rfl) ?_
    try simp only [pA, pB, p1, p2, p3]
    refine wp_takeW (.pointer (some ⟨gk5, 0, none⟩)) (by kernel_rfl) (by kernel_rfl) ?_
    try simp only [pA, pB, p1, p2, p3]
    refine wp_takeW (.int .i64 c.k) (exec_load 3 _ rfl ⟨gk5, 0, none⟩ (by kernel_rfl) (.int .i64 c.k) (ld3 ((HF.out.box 2 _ _ _ rfl).cell 0))) (by kernel_rfl) ?_
    try simp only [pA, pB, p1, p2, p3]
    refine wp_takeW (.bool false) (exec_bin .eql 3 _ _ _ rfl (.int .i64 c.k) (.int .i64 2) (.bool false) (by kernel_rfl) (by kernel_rfl) (by kernel_rfl) (by rw [b_eql, h2]; try rfl)) (by kernel_rfl) ?_
    try simp only [pA, pB, p1, p2, p3]
    refine wp_takeW (.bool false) (by kernel_rfl) (by kernel_rfl) ?_
    try simp only [pA, pB, p1, p2, p3]
    refine WL.nil ?_
    try simp only [pA, pB, p1, p2, p3]
    go_upto_region 6 with fail
    refine WL.start ?_
    refine wp_takeW (.agg (Bv.cells ⟨nu, ⟨na, nn, nc⟩, nsl⟩)) (exec_load 25 _ rfl ⟨gk3, 0, none⟩ (by kernel_rfl) (.agg (Bv.cells ⟨nu, ⟨na, nn, nc⟩, nsl⟩)) (ld25 (HF.out.box 1 _ _ _ rfl))) (by kernel_rfl) ?_
    try simp only [pA, pB, p1, p2, p3]
    refine wp_takeW (.pointer (some ⟨gk5, 3, none⟩)) (by kernel_rfl) (by kernel_rfl) ?_
    try simp only [pA, pB, p1, p2, p3]
    refine wp_takeW (.string c.nm) (exec_load 9 _ rfl ⟨gk5, 3, none⟩ (by kernel_rfl) (.string c.nm) (ld9 ((HF.out.box 2 _ _ _ rfl).cell 3))) (by kernel_rfl) ?_
    try simp only [pA, pB, p1, p2, p3]
    refine wp_callW 24 #[.agg (Bv.cells ⟨nu, ⟨na, nn, nc⟩, nsl⟩), .string c.nm] (by kernel_rfl) _ (find_any nu na nn nc nsl es2 c.nm _ HN.out.len (by omega) (HN.out.no HF.out.kept).row) (by kernel_rfl) ?_
    rintro e wk13 ⟨rfl, hk⟩
    have HF : Hid (Fr No w (wk13) [(gk1, 25, Bv.cells ⟨bu, ⟨ba, bn, bc⟩, bsl⟩), (gk3, 25, Bv.cells ⟨nu, ⟨na, nn, nc⟩, nsl⟩), (gk5, 29, Cm.cells c), (gk7, 56, Av.cells ⟨er, ae, ⟨xa, xn, xc⟩⟩)]) := HF.out.no hk
    clear hk
    refine ⟨.tuple #[.agg (En.cells ae), .bool true], by rw [HF1.out, HI1.out], ?_⟩
    try simp only [pA, pB, p1, p2, p3]
    refine wp_takeW (.tuple #[.agg (En.cells ae), .bool true]) (by kernel_rfl) (by kernel_rfl) ?_
    try simp only [pA, pB, p1, p2, p3]
    refine wp_takeW (.agg (En.cells ae)) (by kernel_rfl) (by kernel_rfl) ?_
    try simp only [pA, pB, p1, p2, p3]
    refine wp_takeW (.bool true) (by kernel_rfl) (by kernel_rfl) ?_
    try simp only [pA, pB, p1, p2, p3]
    refine wp_runW (.pointer (some ⟨wk13.heap.size, 0, none⟩)) (wk13.alloc (.cells (En.cells enZ) 54)) (exec_alloc 54 rfl (En.cells enZ) zero54) (by kernel_rfl) ?_
    try simp only [pA, pB, p1, p2, p3]
    have HF : Hid (Fr No w (wk13.alloc (.cells (En.cells enZ) 54)) [(gk1, 25, Bv.cells ⟨bu, ⟨ba, bn, bc⟩, bsl⟩), (gk3, 25, Bv.cells ⟨nu, ⟨na, nn, nc⟩, nsl⟩), (gk5, 29, Cm.cells c), (gk7, 56, Av.cells ⟨er, ae, ⟨xa, xn, xc⟩⟩), (wk13.heap.size, 54, En.cells enZ)]) := HF.out.alloc _ _
    generalize wk13.alloc (.cells (En.cells enZ) 54) = wk15 at HF ⊢
    generalize wk13.heap.size = gk14 at HF ⊢
    refine wp_storeW 54 _ _ rfl ⟨gk14, 0, none⟩ (.agg (En.cells ae)) (by kernel_rfl) (by kernel_rfl) (wk15.setRow gk14 (En.cells ae)) (st54 (HF.out.box 4 _ _ _ rfl) rfl) (by kernel_rfl) ?_
    try simp only [pA, pB, p1, p2, p3]
    have HF : Hid (Fr No w (wk15.setRow gk14 (En.cells ae)) [(gk1, 25, Bv.cells ⟨bu, ⟨ba, bn, bc⟩, bsl⟩), (gk3, 25, Bv.cells ⟨nu, ⟨na, nn, nc⟩, nsl⟩), (gk5, 29, Cm.cells c), (gk7, 56, Av.cells ⟨er, ae, ⟨xa, xn, xc⟩⟩), (gk14, 54, En.cells ae)]) := HF.out.set 4 rfl _
    generalize wk15.setRow gk14 (En.cells ae) = wk16 at HF ⊢
    refine wp_takeW (.bool true) (by kernel_rfl) (by kernel_rfl) ?_
    try simp only [pA, pB, p1, p2, p3]
    refine WL.nil ?_
    try simp only [pA, pB, p1, p2, p3]
    go_upto_region 7 with fail
    refine WL.start ?_
    refine wp_takeW (.pointer (some ⟨gk3, 1, none⟩)) (by kernel_rfl) (by kernel_rfl) ?_
    try simp only [pA, pB, p1, p2, p3]
    refine wp_takeW (.slice na nn nc) (exec_load 22 _ rfl ⟨gk3, 1, none⟩ (by kernel_rfl) (.slice na nn nc) (ld22 ((HF.out.box 1 _ _ _ rfl).cell 1))) (by kernel_rfl) ?_
    try simp only [pA, pB, p1, p2, p3]
    refine wp_takeW (.int .i64 ((nn : Nat) : Int)) (by kernel_rfl) (by kernel_rfl) ?_
    try simp only [pA, pB, p1, p2, p3]
    refine wp_takeW (.int .i64 ((bn : Nat) : Int)) (by kernel_rfl) (by kernel_rfl) ?_
    try simp only [pA, pB, p1, p2, p3]
    refine wp_takeW (.bool false) (exec_bin .neq 3 _ _ _ rfl (.int .i64 ((nn : Nat) : Int)) (.int .i64 ((bn : Nat) : Int)) (.bool false) (by kernel_rfl) (by kernel_rfl) (by kernel_rfl) (by rw [b_neq, show ((nn : Nat) : Int) = ((bn : Nat) : Int) by omega]; simp)) (by kernel_rfl) ?_
    try simp only [pA, pB, p1, p2, p3]
    refine wp_takeW (.bool false) (by kernel_rfl) (by kernel_rfl) ?_
    try simp only [pA, pB, p1, p2, p3]
    refine wp_takeW (.pointer (some ⟨gk7, 5, none⟩)) (by kernel_rfl) (by kernel_rfl) ?_
    try simp only [pA, pB, p1, p2, p3]
    refine wp_takeW (.slice xa xn xc) (exec_load 22 _ rfl ⟨gk7, 5, none⟩ (by kernel_rfl) (.slice xa xn xc) (ld22 ((HF.out.box 3 _ _ _ rfl).cell 5))) (by kernel_rfl) ?_
    try simp only [pA, pB, p1, p2, p3]
    refine wp_takeW (.int .i64 ((xn : Nat) : Int)) (by kernel_rfl) (by kernel_rfl) ?_
    try simp only [pA, pB, p1, p2, p3]
    refine wp_takeW (.bool false) (exec_bin .gtr 3 _ _ _ rfl (.int .i64 ((xn : Nat) : Int)) (.int .i64 0) (.bool false) (by kernel_rfl) (by kernel_rfl) (by kernel_rfl) (by rw [b_gtr, decide_eq_false (by omega)])) (by kernel_rfl) ?_
    try simp only [pA, pB, p1, p2, p3]
    refine wp_takeW (.bool false) (by kernel_rfl) (by kernel_rfl) ?_
    try simp only [pA, pB, p1, p2, p3]
    refine wp_skip (by kernel_rfl) ?_
    try simp only [pA, pB, p1, p2, p3]
    refine wp_skip (by kernel_rfl) ?_
    try simp only [pA, pB, p1, p2, p3]
    refine wp_skip (by kernel_rfl) ?_
    try simp only [pA, pB, p1, p2, p3]
    refine wp_takeW (.bool false) (by kernel_rfl) (by kernel_rfl) ?_
    try simp only [pA, pB, p1, p2, p3]
    refine wp_takeW (.bool false) (by kernel_rfl) (by kernel_rfl) ?_
    try simp only [pA, pB, p1, p2, p3]
    refine WL.nil ?_
    try simp only [pA, pB, p1, p2, p3]
    go_upto_region 9 with fail
    refine WL.start ?_
    refine wp_takeW (.pointer (some ⟨gk5, 0, none⟩)) (by kernel_rfl) (by kernel_rfl) ?_
    try simp only [pA, pB, p1, p2, p3]
    refine wp_takeW (.int .i64 c.k) (exec_load 3 _ rfl ⟨gk5, 0, none⟩ (by kernel_rfl) (.int .i64 c.k) (ld3 ((HF.out.box 2 _ _ _ rfl).cell 0))) (by kernel_rfl) ?_
    try simp only [pA, pB, p1, p2, p3]
    refine wp_takeW (.bool false) (exec_bin .eql 3 _ _ _ rfl (.int .i64 c.k) (.int .i64 4) (.bool false) (by kernel_rfl) (by kernel_rfl) (by kernel_rfl) (by rw [b_eql, h4]; try rfl)) (by kernel_rfl) ?_
    try simp only [pA, pB, p1, p2, p3]
    refine wp_takeW (.bool false) (by kernel_rfl) (by kernel_rfl) ?_
    try simp only [pA, pB, p1, p2, p3]
    refine WL.nil ?_
    try simp only [pA, pB, p1, p2, p3]
    go_upto_region 11 with fail
    refine WL.start ?_
    refine wp_takeW (.pointer (some ⟨gk7, 0, none⟩)) (by kernel_rfl) (by kernel_rfl) ?_
    try simp only [pA, pB, p1, p2, p3]
    refine wp_takeW (.int .i64 er) (exec_load 46 _ rfl ⟨gk7, 0, none⟩ (by kernel_rfl) (.int .i64 er) (ld46 ((HF.out.box 3 _ _ _ rfl).cell 0))) (by kernel_rfl) ?_
    try simp only [pA, pB, p1, p2, p3]
    refine wp_takeW (.bool false) (exec_bin .eql 46 _ _ _ rfl (.int .i64 er) (.int .i64 102) (.bool false) (by kernel_rfl) (by kernel_rfl) (by kernel_rfl) (by rw [b_eql46, he2]; try rfl)) (by kernel_rfl) ?_
    try simp only [pA, pB, p1, p2, p3]
    refine wp_takeW (.bool false) (by kernel_rfl) (by kernel_rfl) ?_
    try simp only [pA, pB, p1, p2, p3]
    refine wp_takeW (.pointer (some ⟨gk7, 0, none⟩)) (by kernel_rfl) (by kernel_rfl) ?_
    try simp only [pA, pB, p1, p2, p3]
    refine wp_takeW (.int .i64 er) (exec_load 46 _ rfl ⟨gk7, 0, none⟩ (by kernel_rfl) (.int .i64 er) (ld46 ((HF.out.box 3 _ _ _ rfl).cell 0))) (by kernel_rfl) ?_
    try simp only [pA, pB, p1, p2, p3]
    refine wp_takeW (.bool false) (exec_bin .eql 46 _ _ _ rfl (.int .i64 er) (.int .i64 103) (.bool false) (by kernel_rfl) (by kernel_rfl) (by kernel_rfl) (by rw [b_eql46, he3]; try rfl)) (by kernel_rfl) ?_
    try simp only [pA, pB, p1, p2, p3]
    refine wp_takeW (.bool false) (by kernel_rfl) (by kernel_rfl) ?_
    try simp only [pA, pB, p1, p2, p3]
    refine wp_takeW (.bool false) (by kernel_rfl) (by kernel_rfl) ?_
    try simp only [pA, pB, p1, p2, p3]
    refine WL.nil ?_
    try simp only [pA, pB, p1, p2, p3]
    go_upto_region 13 with fail
    refine WL.start ?_
    refine wp_takeW (.pointer (some ⟨gk5, 0, none⟩)) (by kernel_rfl) (by kernel_rfl) ?_
    try simp only [pA, pB, p1, p2, p3]
    refine wp_takeW (.int .i64 c.k) (exec_load 3 _ rfl ⟨gk5, 0, none⟩ (by kernel_rfl) (.int .i64 c.k) (ld3 ((HF.out.box 2 _ _ _ rfl).cell 0))) (by kernel_rfl) ?_
    try simp only [pA, pB, p1, p2, p3]
    refine wp_takeW (.bool false) (exec_bin .eql 3 _ _ _ rfl (.int .i64 c.k) (.int .i64 2) (.bool false) (by kernel_rfl) (by kernel_rfl) (by kernel_rfl) (by rw [b_eql, h2]; try rfl)) (by kernel_rfl) ?_
    try simp only [pA, pB, p1, p2, p3]
    refine wp_takeW (.bool false) (by kernel_rfl) (by kernel_rfl) ?_
    try simp only [pA, pB, p1, p2, p3]
    refine WL.nil ?_
    try simp only [pA, pB, p1, p2, p3]
    go_upto_region 16 with fail
    refine WL.start ?_
    refine wp_takeW (.bool true) (by kernel_rfl) (by kernel_rfl) ?_
    try simp only [pA, pB, p1, p2, p3]
    refine wp_takeW (.bool true) (by kernel_rfl) (by kernel_rfl) ?_
    try simp only [pA, pB, p1, p2, p3]
    refine wp_takeW (.agg (En.cells ae)) (exec_load 54 _ rfl ⟨gk14, 0, none⟩ (by kernel_rfl) (.agg (En.cells ae)) (ld54 (HF.out.box 4 _ _ _ rfl))) (by kernel_rfl) ?_
    try simp only [pA, pB, p1, p2, p3]
    refine wp_takeW (.pointer (some ⟨gk7, 1, none⟩)) (by kernel_rfl) (by kernel_rfl) ?_
    try simp only [pA, pB, p1, p2, p3]
    refine wp_takeW (.agg (En.cells ae)) (exec_load 54 _ rfl ⟨gk7, 1, none⟩ (by kernel_rfl) (.agg (En.cells ae)) (ldAE (HF.out.box 3 _ _ _ rfl))) (by kernel_rfl) ?_
    try simp only [pA, pB, p1, p2, p3]
    refine wp_takeW (.bool true) (exec_bin .eql 54 _ _ _ rfl (.agg (En.cells ae)) (.agg (En.cells ae)) (.bool true) (by kernel_rfl) (by kernel_rfl) (by kernel_rfl) (by rw [eqE_eql, eqE_iff.2 rfl])) (by kernel_rfl) ?_
    try simp only [pA, pB, p1, p2, p3]
    refine wp_takeW (.bool true) (by kernel_rfl) (by kernel_rfl) ?_
    try simp only [pA, pB, p1, p2, p3]
    refine wp_takeW (.bool true) (by kernel_rfl) (by kernel_rfl) ?_
    try simp only [pA, pB, p1, p2, p3]
    refine WL.nil ?_
    try simp only [pA, pB, p1, p2, p3]
    go_wp2
    rw [HC.out]
    exact ⟨rfl, HF.out.kept⟩
   · exact absurd (h01 q1) (by rw [q2]; simp)

end Go.Proofs.Ytfemlnfknebalaa
