import Derived.Test.YtfemlnfknebalabD
namespace Go.Proofs.Ytfemlnfknebalab
open Go.RowKit
set_option linter.unusedVariables false
set_option linter.unusedSimpArgs false

def findE (es : List En) (n : ByteArray) : En := if eIs es n then eAt es (eIx es n) else enZ
def findL (es : List La) (n : Int) : La := if lIs es n then lAt es (lIx es n) else laZ
theorem findE_yes {es : List En} {n : ByteArray} (h : eIs es n = true) : findE es n = eAt es (eIx es n) := by unfold findE; rw [h]; rfl
theorem findE_no {es : List En} {n : ByteArray} (h : eIs es n = false) : findE es n = enZ := by unfold findE; rw [h]; rfl
theorem findL_yes {es : List La} {n : Int} (h : lIs es n = true) : findL es n = lAt es (lIx es n) := by unfold findL; rw [h]; rfl
theorem findL_no {es : List La} {n : Int} (h : lIs es n = false) : findL es n = laZ := by unfold findL; rw [h]; rfl
set_option maxRecDepth 100000 in
set_option maxHeartbeats 4000000 in
theorem find_any (up : Int) (a : Option Addr) (m cap : Nat) (sl : Sl) (es : List En) (n : ByteArray) (w : World) (hm : es.length = m) (hb : m ≤ 140737488355328) (hr : Es w a es) : Calls Try.prog 26 #[.agg (Bv.cells ⟨up, ⟨a, m, cap⟩, sl⟩), .string n] w (fun e w' => e = .returned (.tuple #[.agg (findE es n).cells, .bool (eIs es n)]) ∧ Kept No w w') := by
  obtain ⟨C, hC⟩ : ∃ C : Ending → World → Prop, C = (fun e w' => e = .returned (.tuple #[.agg (findE es n).cells, .bool (eIs es n)]) ∧ Kept No w w') := ⟨_, rfl⟩
  have HC : Hid (C = (fun e w' => e = .returned (.tuple #[.agg (findE es n).cells, .bool (eIs es n)]) ∧ Kept No w w')) := hC
  rw [← hC]
  clear hC
  have HX : Hid (∀ W, Kept No w W → Calls Try.prog 28 #[.slice a m cap, .string n] W (fun e w' => e = .returned (.tuple #[.int .i64 (eIx es n : Nat), .bool (eIs es n)]) ∧ Kept No W w')) := fun W hk => entryAt_any a m cap es n W hm hb (RowsAt.no hr hk)
  cases hq : eIs es n
  · have HQ : Hid (eIs es n = false) := hq
    have HE : Hid (findE es n = enZ) := findE_no hq
    rw [hq] at HX
    clear hq hr hm hb
    obtain ⟨ix, hix⟩ : ∃ ix, ix = eIx es n := ⟨_, rfl⟩
    rw [← hix] at HX
    clear hix
    have HF : Hid (Fr No w w []) := Fr.start _ _
    go_enter Try.func26, Try.ntmps26
    go_upto_region 0 with fail
    refine WL.start ?_
    refine wp_runW (.pointer (some ⟨w.heap.size, 0, none⟩)) (w.alloc (.cells (Bv.cells ⟨up, ⟨a, m, cap⟩, sl⟩) 26)) (exec_box 26 _ rfl (Bv.cells ⟨up, ⟨a, m, cap⟩, sl⟩) (by kernel_rfl)) (by kernel_rfl) ?_
    try simp only [pA, pB, p1, p2, p3]
    have HF : Hid (Fr No w (w.alloc (.cells (Bv.cells ⟨up, ⟨a, m, cap⟩, sl⟩) 26)) [(w.heap.size, 26, Bv.cells ⟨up, ⟨a, m, cap⟩, sl⟩)]) := HF.out.alloc _ _
    generalize w.alloc (.cells (Bv.cells ⟨up, ⟨a, m, cap⟩, sl⟩) 26) = wk2 at HF ⊢
    generalize w.heap.size = gk1 at HF ⊢
    refine wp_runW (.pointer (some ⟨wk2.heap.size, 0, none⟩)) (wk2.alloc (.cells (En.cells enZ) 34)) (exec_alloc 34 rfl (En.cells enZ) zero54) (by kernel_rfl) ?_
    try simp only [pA, pB, p1, p2, p3]
    have HF : Hid (Fr No w (wk2.alloc (.cells (En.cells enZ) 34)) [(gk1, 26, Bv.cells ⟨up, ⟨a, m, cap⟩, sl⟩), (wk2.heap.size, 34, En.cells enZ)]) := HF.out.alloc _ _
    generalize wk2.alloc (.cells (En.cells enZ) 34) = wk4 at HF ⊢
    generalize wk2.heap.size = gk3 at HF ⊢
    refine tK (.bool false) ?_
    try simp only [pA, pB, p1, p2, p3]
    refine WL.nil ?_
    try simp only [pA, pB, p1, p2, p3]
    go_upto_region 1 with fail
    refine WL.start ?_
    refine tK (.pointer (some ⟨gk1, 1, none⟩)) ?_
    try simp only [pA, pB, p1, p2, p3]
    refine tW (.slice a m cap) (exec_load 23 _ rfl ⟨gk1, 1, none⟩ (by kernel_rfl) (.slice a m cap) (ld22 ((HF.out.box 0 _ _ _ rfl).cell 1))) ?_
    try simp only [pA, pB, p1, p2, p3]
    refine tK (.string n) ?_
    try simp only [pA, pB, p1, p2, p3]
    refine wp_callW 28 #[.slice a m cap, .string n] (by kernel_rfl) _ (HX.out _ HF.out.kept) (by kernel_rfl) ?_
    rintro e wk5 ⟨rfl, hk⟩
    have HF : Hid (Fr No w (wk5) [(gk1, 26, Bv.cells ⟨up, ⟨a, m, cap⟩, sl⟩), (gk3, 34, En.cells enZ)]) := HF.out.no hk
    clear hk
    refine ⟨.tuple #[.int .i64 (ix : Nat), .bool false], rfl, ?_⟩
    try simp only [pA, pB, p1, p2, p3]
    refine tK (.tuple #[.int .i64 (ix : Nat), .bool false]) ?_
    try simp only [pA, pB, p1, p2, p3]
    refine tK (.int .i64 (ix : Nat)) ?_
    try simp only [pA, pB, p1, p2, p3]
    refine tK (.bool false) ?_
    try simp only [pA, pB, p1, p2, p3]
    refine tK (.int .i64 (ix : Nat)) ?_
    try simp only [pA, pB, p1, p2, p3]
    refine tK (.bool false) ?_
    try simp only [pA, pB, p1, p2, p3]
    refine WL.nil ?_
    try simp only [pA, pB, p1, p2, p3]
    go_upto_region 2 with fail
    refine WL.start ?_
    refine tK (.bool false) ?_
    try simp only [pA, pB, p1, p2, p3]
    refine tK (.bool true) ?_
    try simp only [pA, pB, p1, p2, p3]
    refine WL.nil ?_
    try simp only [pA, pB, p1, p2, p3]
    go_upto_region 3 with fail
    refine WL.start ?_
    refine tW (.agg (En.cells enZ)) (exec_build 34 _ rfl (En.cells enZ) (by kernel_rfl)) ?_
    try simp only [pA, pB, p1, p2, p3]
    refine wp_storeW 34 _ _ rfl ⟨gk3, 0, none⟩ (.agg (En.cells enZ)) (by kernel_rfl) (by kernel_rfl) (wk5.setRow gk3 (En.cells enZ)) (st54 (HF.out.box 1 _ _ _ rfl) rfl) (by kernel_rfl) ?_
    try simp only [pA, pB, p1, p2, p3]
    have HF : Hid (Fr No w (wk5.setRow gk3 (En.cells enZ)) [(gk1, 26, Bv.cells ⟨up, ⟨a, m, cap⟩, sl⟩), (gk3, 34, En.cells enZ)]) := HF.out.set 1 rfl _
    generalize wk5.setRow gk3 (En.cells enZ) = wk6 at HF ⊢
    refine tK (.bool false) ?_
    try simp only [pA, pB, p1, p2, p3]
    refine WL.nil ?_
    try simp only [pA, pB, p1, p2, p3]
    go_wp2
    rw [HC.out]
    refine bodyPost_ret (results_row_tmp (by rfl) _ _ gk3 (En.cells enZ) (by rfl) (ld54 (HF.out.box 1 _ _ _ rfl))) rfl ?_
    exact ⟨by rw [HE.out, HQ.out]; rfl, HF.out.kept⟩
  · have hlt := eIs_lt hq
    obtain ⟨b, off, rfl, hcell⟩ := Es.at hr hlt
    have HCE : Hid (∀ (j : Nat) v, (eAt es (eIx es n)).cs[j]? = some v → w.cell? ⟨b, off + (eIx es n) * 4 + j, none⟩ = some v) := hcell
    have HQ : Hid (eIs es n = true) := hq
    have HE : Hid (findE es n = eAt es (eIx es n)) := findE_yes hq
    have hxm : eIx es n < m := by rw [← hm]; exact hlt
    rw [hq] at HX
    clear hcell hq hlt hr hm hb
    generalize eAt es (eIx es n) = x at HCE HE
    obtain ⟨ix, hix⟩ : ∃ ix, ix = eIx es n := ⟨_, rfl⟩
    rw [← hix] at HCE HX hxm
    clear hix
    have HF : Hid (Fr No w w []) := Fr.start _ _
    go_enter Try.func26, Try.ntmps26
    go_upto_region 0 with fail
    refine WL.start ?_
    refine wp_runW (.pointer (some ⟨w.heap.size, 0, none⟩)) (w.alloc (.cells (Bv.cells ⟨up, ⟨(some ⟨b, off, none⟩), m, cap⟩, sl⟩) 26)) (exec_box 26 _ rfl (Bv.cells ⟨up, ⟨(some ⟨b, off, none⟩), m, cap⟩, sl⟩) (by kernel_rfl)) (by kernel_rfl) ?_
    try simp only [pA, pB, p1, p2, p3]
    have HF : Hid (Fr No w (w.alloc (.cells (Bv.cells ⟨up, ⟨(some ⟨b, off, none⟩), m, cap⟩, sl⟩) 26)) [(w.heap.size, 26, Bv.cells ⟨up, ⟨(some ⟨b, off, none⟩), m, cap⟩, sl⟩)]) := HF.out.alloc _ _
    generalize w.alloc (.cells (Bv.cells ⟨up, ⟨(some ⟨b, off, none⟩), m, cap⟩, sl⟩) 26) = wk2 at HF ⊢
    generalize w.heap.size = gk1 at HF ⊢
    refine wp_runW (.pointer (some ⟨wk2.heap.size, 0, none⟩)) (wk2.alloc (.cells (En.cells enZ) 34)) (exec_alloc 34 rfl (En.cells enZ) zero54) (by kernel_rfl) ?_
    try simp only [pA, pB, p1, p2, p3]
    have HF : Hid (Fr No w (wk2.alloc (.cells (En.cells enZ) 34)) [(gk1, 26, Bv.cells ⟨up, ⟨(some ⟨b, off, none⟩), m, cap⟩, sl⟩), (wk2.heap.size, 34, En.cells enZ)]) := HF.out.alloc _ _
    generalize wk2.alloc (.cells (En.cells enZ) 34) = wk4 at HF ⊢
    generalize wk2.heap.size = gk3 at HF ⊢
    refine tK (.bool false) ?_
    try simp only [pA, pB, p1, p2, p3]
    refine WL.nil ?_
    try simp only [pA, pB, p1, p2, p3]
    go_upto_region 1 with fail
    refine WL.start ?_
    refine tK (.pointer (some ⟨gk1, 1, none⟩)) ?_
    try simp only [pA, pB, p1, p2, p3]
    refine tW (.slice (some ⟨b, off, none⟩) m cap) (exec_load 23 _ rfl ⟨gk1, 1, none⟩ (by kernel_rfl) (.slice (some ⟨b, off, none⟩) m cap) (ld22 ((HF.out.box 0 _ _ _ rfl).cell 1))) ?_
    try simp only [pA, pB, p1, p2, p3]
    refine tK (.string n) ?_
    try simp only [pA, pB, p1, p2, p3]
    refine wp_callW 28 #[.slice (some ⟨b, off, none⟩) m cap, .string n] (by kernel_rfl) _ (HX.out _ HF.out.kept) (by kernel_rfl) ?_
    rintro e wk5 ⟨rfl, hk⟩
    have HF : Hid (Fr No w (wk5) [(gk1, 26, Bv.cells ⟨up, ⟨(some ⟨b, off, none⟩), m, cap⟩, sl⟩), (gk3, 34, En.cells enZ)]) := HF.out.no hk
    clear hk
    refine ⟨.tuple #[.int .i64 (ix : Nat), .bool true], rfl, ?_⟩
    try simp only [pA, pB, p1, p2, p3]
    refine tK (.tuple #[.int .i64 (ix : Nat), .bool true]) ?_
    try simp only [pA, pB, p1, p2, p3]
    refine tK (.int .i64 (ix : Nat)) ?_
    try simp only [pA, pB, p1, p2, p3]
    refine tK (.bool true) ?_
    try simp only [pA, pB, p1, p2, p3]
    refine tK (.int .i64 (ix : Nat)) ?_
    try simp only [pA, pB, p1, p2, p3]
    refine tK (.bool true) ?_
    try simp only [pA, pB, p1, p2, p3]
    refine WL.nil ?_
    try simp only [pA, pB, p1, p2, p3]
    go_upto_region 2 with fail
    refine WL.start ?_
    refine tK (.bool true) ?_
    try simp only [pA, pB, p1, p2, p3]
    refine tK (.bool false) ?_
    try simp only [pA, pB, p1, p2, p3]
    refine WL.nil ?_
    try simp only [pA, pB, p1, p2, p3]
    go_upto_region 4 with fail
    refine WL.start ?_
    refine tK (.pointer (some ⟨gk1, 1, none⟩)) ?_
    try simp only [pA, pB, p1, p2, p3]
    refine tW (.slice (some ⟨b, off, none⟩) m cap) (exec_load 23 _ rfl ⟨gk1, 1, none⟩ (by kernel_rfl) (.slice (some ⟨b, off, none⟩) m cap) (ld22 ((HF.out.box 0 _ _ _ rfl).cell 1))) ?_
    try simp only [pA, pB, p1, p2, p3]
    refine tK (.int .i64 (ix : Nat)) ?_
    try simp only [pA, pB, p1, p2, p3]
    refine tW (.pointer (some ⟨b, off + ix * 4, none⟩)) (exec_ixA 23 4 Try.und22e Try.size22e _ _ rfl b off m cap ix (by kernel_rfl) (by kernel_rfl) hxm) ?_
    try simp only [pA, pB, p1, p2, p3]
    refine tW (.agg (En.cells x)) (exec_load 34 _ rfl ⟨b, off + ix * 4, none⟩ (by kernel_rfl) (.agg (En.cells x)) (load_E (fun j v h => HF.out.kept.cell (HCE.out j v h) (fun e => e)))) ?_
    try simp only [pA, pB, p1, p2, p3]
    refine wp_storeW 34 _ _ rfl ⟨gk3, 0, none⟩ (.agg (En.cells x)) (by kernel_rfl) (by kernel_rfl) (wk5.setRow gk3 (En.cells x)) (st54 (HF.out.box 1 _ _ _ rfl) rfl) (by kernel_rfl) ?_
    try simp only [pA, pB, p1, p2, p3]
    have HF : Hid (Fr No w (wk5.setRow gk3 (En.cells x)) [(gk1, 26, Bv.cells ⟨up, ⟨(some ⟨b, off, none⟩), m, cap⟩, sl⟩), (gk3, 34, En.cells x)]) := HF.out.set 1 rfl _
    generalize wk5.setRow gk3 (En.cells x) = wk6 at HF ⊢
    refine tK (.bool true) ?_
    try simp only [pA, pB, p1, p2, p3]
    refine WL.nil ?_
    try simp only [pA, pB, p1, p2, p3]
    go_wp2
    rw [HC.out]
    refine bodyPost_ret (results_row_tmp (by rfl) _ _ gk3 (En.cells x) (by rfl) (ld54 (HF.out.box 1 _ _ _ rfl))) rfl ?_
    exact ⟨by rw [HE.out, HQ.out]; rfl, HF.out.kept⟩
set_option maxRecDepth 100000 in
set_option maxHeartbeats 4000000 in
theorem refusal_any (b : Bv) (c : Cm) (w : World) : Calls Try.prog 22 #[.agg b.cells, .agg c.cells] w (fun e w' => e = .returned (.int .i64 (refS b.up c)) ∧ Kept No w w') := by
  obtain ⟨C, hC⟩ : ∃ C : Ending → World → Prop, C = (fun e w' => e = .returned (.int .i64 (refS b.up c)) ∧ Kept No w w') := ⟨_, rfl⟩
  have HC : Hid (C = (fun e w' => e = .returned (.int .i64 (refS b.up c)) ∧ Kept No w w')) := hC
  rw [← hC]
  clear hC
  have HF : Hid (Fr No w w []) := Fr.start _ _
  go_enter Try.func22, Try.ntmps22
  go_upto_region 0 with fail
  refine WL.start ?_
  refine wp_runW (.pointer (some ⟨w.heap.size, 0, none⟩)) (w.alloc (.cells (Bv.cells b) 26)) (exec_box 26 _ rfl (Bv.cells b) (by kernel_rfl)) (by kernel_rfl) ?_
  try simp only [pA, pB, p1, p2, p3]
  have HF : Hid (Fr No w (w.alloc (.cells (Bv.cells b) 26)) [(w.heap.size, 26, Bv.cells b)]) := HF.out.alloc _ _
  generalize w.alloc (.cells (Bv.cells b) 26) = wk2 at HF ⊢
  generalize w.heap.size = gk1 at HF ⊢
  refine wp_runW (.pointer (some ⟨wk2.heap.size, 0, none⟩)) (wk2.alloc (.cells (Cm.cells c) 31)) (exec_box 31 _ rfl (Cm.cells c) (by kernel_rfl)) (by kernel_rfl) ?_
  try simp only [pA, pB, p1, p2, p3]
  have HF : Hid (Fr No w (wk2.alloc (.cells (Cm.cells c) 31)) [(gk1, 26, Bv.cells b), (wk2.heap.size, 31, Cm.cells c)]) := HF.out.alloc _ _
  generalize wk2.alloc (.cells (Cm.cells c) 31) = wk4 at HF ⊢
  generalize wk2.heap.size = gk3 at HF ⊢
  refine tK (.int .i64 0) ?_
  try simp only [pA, pB, p1, p2, p3]
  refine WL.nil ?_
  try simp only [pA, pB, p1, p2, p3]
  have hk0 := (HF.out.box 1 _ _ _ rfl).cell 0
  have hk1 := (HF.out.box 1 _ _ _ rfl).cell 1
  have hk2 := (HF.out.box 1 _ _ _ rfl).cell 2
  have hb0 := (HF.out.box 0 _ _ _ rfl).cell 0
  have HK : Hid (Kept No w wk4) := HF.out.kept
  clear HF
  have HR : Hid (refS b.up c = if badC c then 105 else if decide (1048576 ≤ b.up) then 4 else 0) := rfl
  have HBC : Hid (badC c = (decide (c.k < 1) || decide (7 < c.k) || decide (c.cl < 1) || decide (255 < c.cl) || decide (c.op < 1) || decide (1099511627776 < c.op))) := rfl
  change wk4.cell? ⟨gk3, 0, none⟩ = some (.int .i64 c.k) at hk0
  change wk4.cell? ⟨gk3, 1, none⟩ = some (.int .i64 c.cl) at hk1
  change wk4.cell? ⟨gk3, 2, none⟩ = some (.int .i64 c.op) at hk2
  change wk4.cell? ⟨gk1, 0, none⟩ = some (.int .i64 b.up) at hb0
  generalize badC c = BC at HR HBC
  generalize refS b.up c = RS at HR HC
  generalize b.up = up at hb0 HR
  generalize c.k = k at hk0 HBC
  generalize c.cl = cl at hk1 HBC
  generalize c.op = op at hk2 HBC
  go_wp2
  all_goals rw [HC.out]
  all_goals refine ⟨ret_int ?_, HK.out⟩
  all_goals rw [HR.out, HBC.out]
  all_goals first | (simp_all; done) | (simp_all; omega) | (simp_all; intros; omega)

end Go.Proofs.Ytfemlnfknebalab
