import Derived.Test.YtfemlnfknebalaaD
namespace Go.Proofs.Ytfemlnfknebalaa
open Go.RowKit
set_option linter.unusedVariables false
set_option linter.unusedSimpArgs false

def findE (es : List En) (n : ByteArray) : En := if eIs es n then eAt es (eIx es n) else enZ
def findL (es : List La) (n : Int) : La := if lIs es n then lAt es (lIx es n) else laZ
theorem findE_yes {es : List En} {n : ByteArray} (h : eIs es n = true) : findE es n = eAt es (eIx es n) := by unfold findE; rw [h]; rfl
theorem findE_no {es : List En} {n : ByteArray} (h : eIs es n = false) : findE es n = enZ := by unfold findE; rw [h]; rfl
theorem findL_yes {es : List La} {n : Int} (h : lIs es n = true) : findL es n = lAt es (lIx es n) := by unfold findL; rw [h]; rfl
theorem findL_no {es : List La} {n : Int} (h : lIs es n = false) : findL es n = laZ := by unfold findL; rw [h]; rfl
set_option maxRecDepth 100000 in
set_option maxHeartbeats 4000000 in
theorem find_any (up : Int) (a : Option Addr) (m cap : Nat) (sl : Sl) (es : List En) (n : ByteArray) (w : World) (hm : es.length = m) (hb : m ≤ 140737488355328) (hr : Es w a es) : Calls Try.prog 24 #[.agg (Bv.cells ⟨up, ⟨a, m, cap⟩, sl⟩), .string n] w (fun e w' => e = .returned (.tuple #[.agg (findE es n).cells, .bool (eIs es n)]) ∧ Kept No w w') := by
  obtain ⟨C, hC⟩ : ∃ C : Ending → World → Prop, C = (fun e w' => e = .returned (.tuple #[.agg (findE es n).cells, .bool (eIs es n)]) ∧ Kept No w w') := ⟨_, rfl⟩
  have HC : Hid (C = (fun e w' => e = .returned (.tuple #[.agg (findE es n).cells, .bool (eIs es n)]) ∧ Kept No w w')) := hC
  rw [← hC]
  clear hC
  have HX : Hid (∀ W, Kept No w W → Calls Try.prog 41 #[.slice a m cap, .string n] W (fun e w' => e = .returned (.tuple #[.int .i64 (eIx es n : Nat), .bool (eIs es n)]) ∧ Kept No W w')) := fun W hk => entryAt_any a m cap es n W hm hb (RowsAt.no hr hk)
  cases hq : eIs es n
  · have HQ : Hid (eIs es n = false) := hq
    have HE : Hid (findE es n = enZ) := findE_no hq
    rw [hq] at HX
    clear hq hr hm hb
    obtain ⟨ix, hix⟩ : ∃ ix, ix = eIx es n := ⟨_, rfl⟩
    rw [← hix] at HX
    clear hix
    have HF : Hid (Fr No w w []) := Fr.start _ _
    go_enter Try.func24, Try.ntmps24
    go_upto_region 0 with fail
    refine WL.start ?_
    refine wp_runW (.pointer (some ⟨w.heap.size, 0, none⟩)) (w.alloc (.cells (Bv.cells ⟨up, ⟨a, m, cap⟩, sl⟩) 25)) (exec_box 25 _ rfl (Bv.cells ⟨up, ⟨a, m, cap⟩, sl⟩) (by kernel_rfl)) (by kernel_rfl) ?_
    try simp only [pA, pB, p1, p2, p3]
    have HF : Hid (Fr No w (w.alloc (.cells (Bv.cells ⟨up, ⟨a, m, cap⟩, sl⟩) 25)) [(w.heap.size, 25, Bv.cells ⟨up, ⟨a, m, cap⟩, sl⟩)]) := HF.out.alloc _ _
    generalize w.alloc (.cells (Bv.cells ⟨up, ⟨a, m, cap⟩, sl⟩) 25) = wk2 at HF ⊢
    generalize w.heap.size = gk1 at HF ⊢
    refine wp_runW (.pointer (some ⟨wk2.heap.size, 0, none⟩)) (wk2.alloc (.cells (En.cells enZ) 54)) (exec_alloc 54 rfl (En.cells enZ) zero54) (by kernel_rfl) ?_
    try simp only [pA, pB, p1, p2, p3]
    have HF : Hid (Fr No w (wk2.alloc (.cells (En.cells enZ) 54)) [(gk1, 25, Bv.cells ⟨up, ⟨a, m, cap⟩, sl⟩), (wk2.heap.size, 54, En.cells enZ)]) := HF.out.alloc _ _
    generalize wk2.alloc (.cells (En.cells enZ) 54) = wk4 at HF ⊢
    generalize wk2.heap.size = gk3 at HF ⊢
    refine tK (.bool false) ?_
    try simp only [pA, pB, p1, p2, p3]
    refine WL.nil ?_
    try simp only [pA, pB, p1, p2, p3]
    go_upto_region 1 with fail
    refine WL.start ?_
    refine tK (.pointer (some ⟨gk1, 1, none⟩)) ?_
    try simp only [pA, pB, p1, p2, p3]
    refine tW (.slice a m cap) (exec_load 22 _ rfl ⟨gk1, 1, none⟩ (by kernel_rfl) (.slice a m cap) (ld22 ((HF.out.box 0 _ _ _ rfl).cell 1))) ?_
    try simp only [pA, pB, p1, p2, p3]
    refine tK (.string n) ?_
    try simp only [pA, pB, p1, p2, p3]
    refine wp_callW 41 #[.slice a m cap, .string n] (by kernel_rfl) _ (HX.out _ HF.out.kept) (by kernel_rfl) ?_
    rintro e wk5 ⟨rfl, hk⟩
    have HF : Hid (Fr No w (wk5) [(gk1, 25, Bv.cells ⟨up, ⟨a, m, cap⟩, sl⟩), (gk3, 54, En.cells enZ)]) := HF.out.no hk
    clear hk
    refine ⟨.tuple #[.int .i64 (ix : Nat), .bool false], rfl, ?_⟩
    try simp only [pA, pB, p1, p2, p3]
    refine tK (.tuple #[.int .i64 (ix : Nat), .bool false]) ?_
    try simp only [pA, pB, p1, p2, p3]
    refine tK (.int .i64 (ix : Nat)) ?_
    try simp only [pA, pB, p1, p2, p3]
    refine tK (.bool false) ?_
    try simp only [pA, pB, p1, p2, p3]
    refine tK (.int .i64 (ix : Nat)) ?_
    try simp only [pA, pB, p1, p2, p3]
    refine tK (.bool false) ?_
    try simp only [pA, pB, p1, p2, p3]
    refine WL.nil ?_
    try simp only [pA, pB, p1, p2, p3]
    go_upto_region 2 with fail
    refine WL.start ?_
    refine tK (.bool false) ?_
    try simp only [pA, pB, p1, p2, p3]
    refine tK (.bool true) ?_
    try simp only [pA, pB, p1, p2, p3]
    refine WL.nil ?_
    try simp only [pA, pB, p1, p2, p3]
    go_upto_region 3 with fail
    refine WL.start ?_
    refine tW (.agg (En.cells enZ)) (exec_build 54 _ rfl (En.cells enZ) (by kernel_rfl)) ?_
    try simp only [pA, pB, p1, p2, p3]
    refine wp_storeW 54 _ _ rfl ⟨gk3, 0, none⟩ (.agg (En.cells enZ)) (by kernel_rfl) (by kernel_rfl) (wk5.setRow gk3 (En.cells enZ)) (st54 (HF.out.box 1 _ _ _ rfl) rfl) (by kernel_rfl) ?_
    try simp only [pA, pB, p1, p2, p3]
    have HF : Hid (Fr No w (wk5.setRow gk3 (En.cells enZ)) [(gk1, 25, Bv.cells ⟨up, ⟨a, m, cap⟩, sl⟩), (gk3, 54, En.cells enZ)]) := HF.out.set 1 rfl _
    generalize wk5.setRow gk3 (En.cells enZ) = wk6 at HF ⊢
    refine tK (.bool false) ?_
    try simp only [pA, pB, p1, p2, p3]
    refine WL.nil ?_
    try simp only [pA, pB, p1, p2, p3]
    go_wp2
    rw [HC.out]
    refine bodyPost_ret (results_row_tmp (by rfl) _ _ gk3 (En.cells enZ) (by rfl) (ld54 (HF.out.box 1 _ _ _ rfl))) rfl ?_
    exact ⟨by rw [HE.out, HQ.out]; rfl, HF.out.kept⟩
  · have hlt := eIs_lt hq
    obtain ⟨b, off, rfl, hcell⟩ := Es.at hr hlt
    have HCE : Hid (∀ (j : Nat) v, (eAt es (eIx es n)).cs[j]? = some v → w.cell? ⟨b, off + (eIx es n) * 4 + j, none⟩ = some v) := hcell
    have HQ : Hid (eIs es n = true) := hq
    have HE : Hid (findE es n = eAt es (eIx es n)) := findE_yes hq
    have hxm : eIx es n < m := by rw [← hm]; exact hlt
    rw [hq] at HX
    clear hcell hq hlt hr hm hb
    generalize eAt es (eIx es n) = x at HCE HE
    obtain ⟨ix, hix⟩ : ∃ ix, ix = eIx es n := ⟨_, rfl⟩
    rw [← hix] at HCE HX hxm
    clear hix
    have HF : Hid (Fr No w w []) := Fr.start _ _
    go_enter Try.func24, Try.ntmps24
    go_upto_region 0 with fail
    refine WL.start ?_
    refine wp_runW (.pointer (some ⟨w.heap.size, 0, none⟩)) (w.alloc (.cells (Bv.cells ⟨up, ⟨(some ⟨b, off, none⟩), m, cap⟩, sl⟩) 25)) (exec_box 25 _ rfl (Bv.cells ⟨up, ⟨(some ⟨b, off, none⟩), m, cap⟩, sl⟩) (by kernel_rfl)) (by kernel_rfl) ?_
    try simp only [pA, pB, p1, p2, p3]
    have HF : Hid (Fr No w (w.alloc (.cells (Bv.cells ⟨up, ⟨(some ⟨b, off, none⟩), m, cap⟩, sl⟩) 25)) [(w.heap.size, 25, Bv.cells ⟨up, ⟨(some ⟨b, off, none⟩), m, cap⟩, sl⟩)]) := HF.out.alloc _ _
    generalize w.alloc (.cells (Bv.cells ⟨up, ⟨(some ⟨b, off, none⟩), m, cap⟩, sl⟩) 25) = wk2 at HF ⊢
    generalize w.heap.size = gk1 at HF ⊢
    refine wp_runW (.pointer (some ⟨wk2.heap.size, 0, none⟩)) (wk2.alloc (.cells (En.cells enZ) 54)) (exec_alloc 54 rfl (En.cells enZ) zero54) (by kernel_rfl) ?_
    try simp only [pA, pB, p1, p2, p3]
    have HF : Hid (Fr No w (wk2.alloc (.cells (En.cells enZ) 54)) [(gk1, 25, Bv.cells ⟨up, ⟨(some ⟨b, off, none⟩), m, cap⟩, sl⟩), (wk2.heap.size, 54, En.cells enZ)]) := HF.out.alloc _ _
    generalize wk2.alloc (.cells (En.cells enZ) 54) = wk4 at HF ⊢
    generalize wk2.heap.size = gk3 at HF ⊢
    refine tK (.bool false) ?_
    try simp only [pA, pB, p1, p2, p3]
    refine WL.nil ?_
    try simp only [pA, pB, p1, p2, p3]
    go_upto_region 1 with fail
    refine WL.start ?_
    refine tK (.pointer (some ⟨gk1, 1, none⟩)) ?_
    try simp only [pA, pB, p1, p2, p3]
    refine tW (.slice (some ⟨b, off, none⟩) m cap) (exec_load 22 _ rfl ⟨gk1, 1, none⟩ (by kernel_rfl) (.slice (some ⟨b, off, none⟩) m cap) (ld22 ((HF.out.box 0 _ _ _ rfl).cell 1))) ?_
    try simp only [pA, pB, p1, p2, p3]
    refine tK (.string n) ?_
    try simp only [pA, pB, p1, p2, p3]
    refine wp_callW 41 #[.slice (some ⟨b, off, none⟩) m cap, .string n] (by kernel_rfl) _ (HX.out _ HF.out.kept) (by kernel_rfl) ?_
    rintro e wk5 ⟨rfl, hk⟩
    have HF : Hid (Fr No w (wk5) [(gk1, 25, Bv.cells ⟨up, ⟨(some ⟨b, off, none⟩), m, cap⟩, sl⟩), (gk3, 54, En.cells enZ)]) := HF.out.no hk
    clear hk
    refine ⟨.tuple #[.int .i64 (ix : Nat), .bool true], rfl, ?_⟩
    try simp only [pA, pB, p1, p2, p3]
    refine tK (.tuple #[.int .i64 (ix : Nat), .bool true]) ?_
    try simp only [pA, pB, p1, p2, p3]
    refine tK (.int .i64 (ix : Nat)) ?_
    try simp only [pA, pB, p1, p2, p3]
    refine tK (.bool true) ?_
    try simp only [pA, pB, p1, p2, p3]
    refine tK (.int .i64 (ix : Nat)) ?_
    try simp only [pA, pB, p1, p2, p3]
    refine tK (.bool true) ?_
    try simp only [pA, pB, p1, p2, p3]
    refine WL.nil ?_
    try simp only [pA, pB, p1, p2, p3]
    go_upto_region 2 with fail
    refine WL.start ?_
    refine tK (.bool true) ?_
    try simp only [pA, pB, p1, p2, p3]
    refine tK (.bool false) ?_
    try simp only [pA, pB, p1, p2, p3]
    refine WL.nil ?_
    try simp only [pA, pB, p1, p2, p3]
    go_upto_region 4 with fail
    refine WL.start ?_
    refine tK (.pointer (some ⟨gk1, 1, none⟩)) ?_
    try simp only [pA, pB, p1, p2, p3]
    refine tW (.slice (some ⟨b, off, none⟩) m cap) (exec_load 22 _ rfl ⟨gk1, 1, none⟩ (by kernel_rfl) (.slice (some ⟨b, off, none⟩) m cap) (ld22 ((HF.out.box 0 _ _ _ rfl).cell 1))) ?_
    try simp only [pA, pB, p1, p2, p3]
    refine tK (.int .i64 (ix : Nat)) ?_
    try simp only [pA, pB, p1, p2, p3]
    refine tW (.pointer (some ⟨b, off + ix * 4, none⟩)) (exec_ixA 22 4 Try.und22e Try.size22e _ _ rfl b off m cap ix (by kernel_rfl) (by kernel_rfl) hxm) ?_
    try simp only [pA, pB, p1, p2, p3]
    refine tW (.agg (En.cells x)) (exec_load 54 _ rfl ⟨b, off + ix * 4, none⟩ (by kernel_rfl) (.agg (En.cells x)) (load_E (fun j v h => HF.out.kept.cell (HCE.out j v h) (fun e => e)))) ?_
    try simp only [pA, pB, p1, p2, p3]
    refine wp_storeW 54 _ _ rfl ⟨gk3, 0, none⟩ (.agg (En.cells x)) (by kernel_rfl) (by kernel_rfl) (wk5.setRow gk3 (En.cells x)) (st54 (HF.out.box 1 _ _ _ rfl) rfl) (by kernel_rfl) ?_
    try simp only [pA, pB, p1, p2, p3]
    have HF : Hid (Fr No w (wk5.setRow gk3 (En.cells x)) [(gk1, 25, Bv.cells ⟨up, ⟨(some ⟨b, off, none⟩), m, cap⟩, sl⟩), (gk3, 54, En.cells x)]) := HF.out.set 1 rfl _
    generalize wk5.setRow gk3 (En.cells x) = wk6 at HF ⊢
    refine tK (.bool true) ?_
    try simp only [pA, pB, p1, p2, p3]
    refine WL.nil ?_
    try simp only [pA, pB, p1, p2, p3]
    go_wp2
    rw [HC.out]
    refine bodyPost_ret (results_row_tmp (by rfl) _ _ gk3 (En.cells x) (by rfl) (ld54 (HF.out.box 1 _ _ _ rfl))) rfl ?_
    exact ⟨by rw [HE.out, HQ.out]; rfl, HF.out.kept⟩
set_option maxRecDepth 100000 in
set_option maxHeartbeats 4000000 in
theorem last_any (up : Int) (a : Option Addr) (m cap : Nat) (sl : Sl) (es : List La) (n : Int) (w : World) (hm : es.length = m) (hb : m ≤ 140737488355328) (hr : Ls w a es) : Calls Try.prog 25 #[.agg (Bv.cells ⟨up, sl, ⟨a, m, cap⟩⟩), .int .i64 n] w (fun e w' => e = .returned (.tuple #[.agg (findL es n).cells, .bool (lIs es n)]) ∧ Kept No w w') := by
  obtain ⟨C, hC⟩ : ∃ C : Ending → World → Prop, C = (fun e w' => e = .returned (.tuple #[.agg (findL es n).cells, .bool (lIs es n)]) ∧ Kept No w w') := ⟨_, rfl⟩
  have HC : Hid (C = (fun e w' => e = .returned (.tuple #[.agg (findL es n).cells, .bool (lIs es n)]) ∧ Kept No w w')) := hC
  rw [← hC]
  clear hC
  have HX : Hid (∀ W, Kept No w W → Calls Try.prog 42 #[.slice a m cap, .int .i64 n] W (fun e w' => e = .returned (.tuple #[.int .i64 (lIx es n : Nat), .bool (lIs es n)]) ∧ Kept No W w')) := fun W hk => lastAt_any a m cap es n W hm hb (RowsAt.no hr hk)
  cases hq : lIs es n
  · have HQ : Hid (lIs es n = false) := hq
    have HE : Hid (findL es n = laZ) := findL_no hq
    rw [hq] at HX
    clear hq hr hm hb
    obtain ⟨ix, hix⟩ : ∃ ix, ix = lIx es n := ⟨_, rfl⟩
    rw [← hix] at HX
    clear hix
    have HF : Hid (Fr No w w []) := Fr.start _ _
    go_enter Try.func25, Try.ntmps25
    go_upto_region 0 with fail
    refine WL.start ?_
    refine wp_runW (.pointer (some ⟨w.heap.size, 0, none⟩)) (w.alloc (.cells (Bv.cells ⟨up, sl, ⟨a, m, cap⟩⟩) 25)) (exec_box 25 _ rfl (Bv.cells ⟨up, sl, ⟨a, m, cap⟩⟩) (by kernel_rfl)) (by kernel_rfl) ?_
    try simp only [pA, pB, p1, p2, p3]
    have HF : Hid (Fr No w (w.alloc (.cells (Bv.cells ⟨up, sl, ⟨a, m, cap⟩⟩) 25)) [(w.heap.size, 25, Bv.cells ⟨up, sl, ⟨a, m, cap⟩⟩)]) := HF.out.alloc _ _
    generalize w.alloc (.cells (Bv.cells ⟨up, sl, ⟨a, m, cap⟩⟩) 25) = wk2 at HF ⊢
    generalize w.heap.size = gk1 at HF ⊢
    refine wp_runW (.pointer (some ⟨wk2.heap.size, 0, none⟩)) (wk2.alloc (.cells (La.cells laZ) 64)) (exec_alloc 64 rfl (La.cells laZ) zero64) (by kernel_rfl) ?_
    try simp only [pA, pB, p1, p2, p3]
    have HF : Hid (Fr No w (wk2.alloc (.cells (La.cells laZ) 64)) [(gk1, 25, Bv.cells ⟨up, sl, ⟨a, m, cap⟩⟩), (wk2.heap.size, 64, La.cells laZ)]) := HF.out.alloc _ _
    generalize wk2.alloc (.cells (La.cells laZ) 64) = wk4 at HF ⊢
    generalize wk2.heap.size = gk3 at HF ⊢
    refine tK (.bool false) ?_
    try simp only [pA, pB, p1, p2, p3]
    refine WL.nil ?_
    try simp only [pA, pB, p1, p2, p3]
    go_upto_region 1 with fail
    refine WL.start ?_
    refine tK (.pointer (some ⟨gk1, 2, none⟩)) ?_
    try simp only [pA, pB, p1, p2, p3]
    refine tW (.slice a m cap) (exec_load 23 _ rfl ⟨gk1, 2, none⟩ (by kernel_rfl) (.slice a m cap) (ld23 ((HF.out.box 0 _ _ _ rfl).cell 2))) ?_
    try simp only [pA, pB, p1, p2, p3]
    refine tK (.int .i64 n) ?_
    try simp only [pA, pB, p1, p2, p3]
    refine wp_callW 42 #[.slice a m cap, .int .i64 n] (by kernel_rfl) _ (HX.out _ HF.out.kept) (by kernel_rfl) ?_
    rintro e wk5 ⟨rfl, hk⟩
    have HF : Hid (Fr No w (wk5) [(gk1, 25, Bv.cells ⟨up, sl, ⟨a, m, cap⟩⟩), (gk3, 64, La.cells laZ)]) := HF.out.no hk
    clear hk
    refine ⟨.tuple #[.int .i64 (ix : Nat), .bool false], rfl, ?_⟩
    try simp only [pA, pB, p1, p2, p3]
    refine tK (.tuple #[.int .i64 (ix : Nat), .bool false]) ?_
    try simp only [pA, pB, p1, p2, p3]
    refine tK (.int .i64 (ix : Nat)) ?_
    try simp only [pA, pB, p1, p2, p3]
    refine tK (.bool false) ?_
    try simp only [pA, pB, p1, p2, p3]
    refine tK (.int .i64 (ix : Nat)) ?_
    try simp only [pA, pB, p1, p2, p3]
    refine tK (.bool false) ?_
    try simp only [pA, pB, p1, p2, p3]
    refine WL.nil ?_
    try simp only [pA, pB, p1, p2, p3]
    go_upto_region 2 with fail
    refine WL.start ?_
    refine tK (.bool false) ?_
    try simp only [pA, pB, p1, p2, p3]
    refine tK (.bool true) ?_
    try simp only [pA, pB, p1, p2, p3]
    refine WL.nil ?_
    try simp only [pA, pB, p1, p2, p3]
    go_upto_region 3 with fail
    refine WL.start ?_
    refine tW (.agg (La.cells laZ)) (exec_build 64 _ rfl (La.cells laZ) (by kernel_rfl)) ?_
    try simp only [pA, pB, p1, p2, p3]
    refine wp_storeW 64 _ _ rfl ⟨gk3, 0, none⟩ (.agg (La.cells laZ)) (by kernel_rfl) (by kernel_rfl) (wk5.setRow gk3 (La.cells laZ)) (st64 (HF.out.box 1 _ _ _ rfl) rfl) (by kernel_rfl) ?_
    try simp only [pA, pB, p1, p2, p3]
    have HF : Hid (Fr No w (wk5.setRow gk3 (La.cells laZ)) [(gk1, 25, Bv.cells ⟨up, sl, ⟨a, m, cap⟩⟩), (gk3, 64, La.cells laZ)]) := HF.out.set 1 rfl _
    generalize wk5.setRow gk3 (La.cells laZ) = wk6 at HF ⊢
    refine tK (.bool false) ?_
    try simp only [pA, pB, p1, p2, p3]
    refine WL.nil ?_
    try simp only [pA, pB, p1, p2, p3]
    go_wp2
    rw [HC.out]
    refine bodyPost_ret (results_row_tmp (by rfl) _ _ gk3 (La.cells laZ) (by rfl) (ld64 (HF.out.box 1 _ _ _ rfl))) rfl ?_
    exact ⟨by rw [HE.out, HQ.out]; rfl, HF.out.kept⟩
  · have hlt := lIs_lt hq
    obtain ⟨b, off, rfl, hcell⟩ := Ls.at hr hlt
    have HCE : Hid (∀ (j : Nat) v, (lAt es (lIx es n)).cs[j]? = some v → w.cell? ⟨b, off + (lIx es n) * 7 + j, none⟩ = some v) := hcell
    have HQ : Hid (lIs es n = true) := hq
    have HE : Hid (findL es n = lAt es (lIx es n)) := findL_yes hq
    have hxm : lIx es n < m := by rw [← hm]; exact hlt
    rw [hq] at HX
    clear hcell hq hlt hr hm hb
    generalize lAt es (lIx es n) = x at HCE HE
    obtain ⟨ix, hix⟩ : ∃ ix, ix = lIx es n := ⟨_, rfl⟩
    rw [← hix] at HCE HX hxm
    clear hix
    have HF : Hid (Fr No w w []) := Fr.start _ _
    go_enter Try.func25, Try.ntmps25
    go_upto_region 0 with fail
    refine WL.start ?_
    refine wp_runW (.pointer (some ⟨w.heap.size, 0, none⟩)) (w.alloc (.cells (Bv.cells ⟨up, sl, ⟨(some ⟨b, off, none⟩), m, cap⟩⟩) 25)) (exec_box 25 _ rfl (Bv.cells ⟨up, sl, ⟨(some ⟨b, off, none⟩), m, cap⟩⟩) (by kernel_rfl)) (by kernel_rfl) ?_
    try simp only [pA, pB, p1, p2, p3]
    have HF : Hid (Fr No w (w.alloc (.cells (Bv.cells ⟨up, sl, ⟨(some ⟨b, off, none⟩), m, cap⟩⟩) 25)) [(w.heap.size, 25, Bv.cells ⟨up, sl, ⟨(some ⟨b, off, none⟩), m, cap⟩⟩)]) := HF.out.alloc _ _
    generalize w.alloc (.cells (Bv.cells ⟨up, sl, ⟨(some ⟨b, off, none⟩), m, cap⟩⟩) 25) = wk2 at HF ⊢
    generalize w.heap.size = gk1 at HF ⊢
    refine wp_runW (.pointer (some ⟨wk2.heap.size, 0, none⟩)) (wk2.alloc (.cells (La.cells laZ) 64)) (exec_alloc 64 rfl (La.cells laZ) zero64) (by kernel_rfl) ?_
    try simp only [pA, pB, p1, p2, p3]
    have HF : Hid (Fr No w (wk2.alloc (.cells (La.cells laZ) 64)) [(gk1, 25, Bv.cells ⟨up, sl, ⟨(some ⟨b, off, none⟩), m, cap⟩⟩), (wk2.heap.size, 64, La.cells laZ)]) := HF.out.alloc _ _
    generalize wk2.alloc (.cells (La.cells laZ) 64) = wk4 at HF ⊢
    generalize wk2.heap.size = gk3 at HF ⊢
    refine tK (.bool false) ?_
    try simp only [pA, pB, p1, p2, p3]
    refine WL.nil ?_
    try simp only [pA, pB, p1, p2, p3]
    go_upto_region 1 with fail
    refine WL.start ?_
    refine tK (.pointer (some ⟨gk1, 2, none⟩)) ?_
    try simp only [pA, pB, p1, p2, p3]
    refine tW (.slice (some ⟨b, off, none⟩) m cap) (exec_load 23 _ rfl ⟨gk1, 2, none⟩ (by kernel_rfl) (.slice (some ⟨b, off, none⟩) m cap) (ld23 ((HF.out.box 0 _ _ _ rfl).cell 2))) ?_
    try simp only [pA, pB, p1, p2, p3]
    refine tK (.int .i64 n) ?_
    try simp only [pA, pB, p1, p2, p3]
    refine wp_callW 42 #[.slice (some ⟨b, off, none⟩) m cap, .int .i64 n] (by kernel_rfl) _ (HX.out _ HF.out.kept) (by kernel_rfl) ?_
    rintro e wk5 ⟨rfl, hk⟩
    have HF : Hid (Fr No w (wk5) [(gk1, 25, Bv.cells ⟨up, sl, ⟨(some ⟨b, off, none⟩), m, cap⟩⟩), (gk3, 64, La.cells laZ)]) := HF.out.no hk
    clear hk
    refine ⟨.tuple #[.int .i64 (ix : Nat), .bool true], rfl, ?_⟩
    try simp only [pA, pB, p1, p2, p3]
    refine tK (.tuple #[.int .i64 (ix : Nat), .bool true]) ?_
    try simp only [pA, pB, p1, p2, p3]
    refine tK (.int .i64 (ix : Nat)) ?_
    try simp only [pA, pB, p1, p2, p3]
    refine tK (.bool true) ?_
    try simp only [pA, pB, p1, p2, p3]
    refine tK (.int .i64 (ix : Nat)) ?_
    try simp only [pA, pB, p1, p2, p3]
    refine tK (.bool true) ?_
    try simp only [pA, pB, p1, p2, p3]
    refine WL.nil ?_
    try simp only [pA, pB, p1, p2, p3]
    go_upto_region 2 with fail
    refine WL.start ?_
    refine tK (.bool true) ?_
    try simp only [pA, pB, p1, p2, p3]
    refine tK (.bool false) ?_
    try simp only [pA, pB, p1, p2, p3]
    refine WL.nil ?_
    try simp only [pA, pB, p1, p2, p3]
    go_upto_region 4 with fail
    refine WL.start ?_
    refine tK (.pointer (some ⟨gk1, 2, none⟩)) ?_
    try simp only [pA, pB, p1, p2, p3]
    refine tW (.slice (some ⟨b, off, none⟩) m cap) (exec_load 23 _ rfl ⟨gk1, 2, none⟩ (by kernel_rfl) (.slice (some ⟨b, off, none⟩) m cap) (ld23 ((HF.out.box 0 _ _ _ rfl).cell 2))) ?_
    try simp only [pA, pB, p1, p2, p3]
    refine tK (.int .i64 (ix : Nat)) ?_
    try simp only [pA, pB, p1, p2, p3]
    refine tW (.pointer (some ⟨b, off + ix * 7, none⟩)) (exec_ixA 23 7 Try.und23e Try.size23e _ _ rfl b off m cap ix (by kernel_rfl) (by kernel_rfl) hxm) ?_
    try simp only [pA, pB, p1, p2, p3]
    refine tW (.agg (La.cells x)) (exec_load 64 _ rfl ⟨b, off + ix * 7, none⟩ (by kernel_rfl) (.agg (La.cells x)) (load_L (fun j v h => HF.out.kept.cell (HCE.out j v h) (fun e => e)))) ?_
    try simp only [pA, pB, p1, p2, p3]
    refine wp_storeW 64 _ _ rfl ⟨gk3, 0, none⟩ (.agg (La.cells x)) (by kernel_rfl) (by kernel_rfl) (wk5.setRow gk3 (La.cells x)) (st64 (HF.out.box 1 _ _ _ rfl) rfl) (by kernel_rfl) ?_
    try simp only [pA, pB, p1, p2, p3]
    have HF : Hid (Fr No w (wk5.setRow gk3 (La.cells x)) [(gk1, 25, Bv.cells ⟨up, sl, ⟨(some ⟨b, off, none⟩), m, cap⟩⟩), (gk3, 64, La.cells x)]) := HF.out.set 1 rfl _
    generalize wk5.setRow gk3 (La.cells x) = wk6 at HF ⊢
    refine tK (.bool true) ?_
    try simp only [pA, pB, p1, p2, p3]
    refine WL.nil ?_
    try simp only [pA, pB, p1, p2, p3]
    go_wp2
    rw [HC.out]
    refine bodyPost_ret (results_row_tmp (by rfl) _ _ gk3 (La.cells x) (by rfl) (ld64 (HF.out.box 1 _ _ _ rfl))) rfl ?_
    exact ⟨by rw [HE.out, HQ.out]; rfl, HF.out.kept⟩
set_option maxRecDepth 100000 in
set_option maxHeartbeats 4000000 in
theorem refusal_any (b : Bv) (c : Cm) (w : World) : Calls Try.prog 39 #[.agg b.cells, .agg c.cells] w (fun e w' => e = .returned (.int .i64 (refS b.up c)) ∧ Kept No w w') := by
  obtain ⟨C, hC⟩ : ∃ C : Ending → World → Prop, C = (fun e w' => e = .returned (.int .i64 (refS b.up c)) ∧ Kept No w w') := ⟨_, rfl⟩
  have HC : Hid (C = (fun e w' => e = .returned (.int .i64 (refS b.up c)) ∧ Kept No w w')) := hC
  rw [← hC]
  clear hC
  have HF : Hid (Fr No w w []) := Fr.start _ _
  go_enter Try.func39, Try.ntmps39
  go_upto_region 0 with fail
  refine WL.start ?_
  refine wp_runW (.pointer (some ⟨w.heap.size, 0, none⟩)) (w.alloc (.cells (Bv.cells b) 25)) (exec_box 25 _ rfl (Bv.cells b) (by kernel_rfl)) (by kernel_rfl) ?_
  try simp only [pA, pB, p1, p2, p3]
  have HF : Hid (Fr No w (w.alloc (.cells (Bv.cells b) 25)) [(w.heap.size, 25, Bv.cells b)]) := HF.out.alloc _ _
  generalize w.alloc (.cells (Bv.cells b) 25) = wk2 at HF ⊢
  generalize w.heap.size = gk1 at HF ⊢
  refine wp_runW (.pointer (some ⟨wk2.heap.size, 0, none⟩)) (wk2.alloc (.cells (Cm.cells c) 29)) (exec_box 29 _ rfl (Cm.cells c) (by kernel_rfl)) (by kernel_rfl) ?_
  try simp only [pA, pB, p1, p2, p3]
  have HF : Hid (Fr No w (wk2.alloc (.cells (Cm.cells c) 29)) [(gk1, 25, Bv.cells b), (wk2.heap.size, 29, Cm.cells c)]) := HF.out.alloc _ _
  generalize wk2.alloc (.cells (Cm.cells c) 29) = wk4 at HF ⊢
  generalize wk2.heap.size = gk3 at HF ⊢
  refine tK (.int .i64 0) ?_
  try simp only [pA, pB, p1, p2, p3]
  refine WL.nil ?_
  try simp only [pA, pB, p1, p2, p3]
  have hk0 := (HF.out.box 1 _ _ _ rfl).cell 0
  have hk1 := (HF.out.box 1 _ _ _ rfl).cell 1
  have hk2 := (HF.out.box 1 _ _ _ rfl).cell 2
  have hb0 := (HF.out.box 0 _ _ _ rfl).cell 0
  have HK : Hid (Kept No w wk4) := HF.out.kept
  clear HF
  have HR : Hid (refS b.up c = if badC c then 105 else if decide (1048576 ≤ b.up) then 4 else 0) := rfl
  have HBC : Hid (badC c = (decide (c.k < 1) || decide (7 < c.k) || decide (c.cl < 1) || decide (255 < c.cl) || decide (c.op < 1) || decide (1099511627776 < c.op))) := rfl
  change wk4.cell? ⟨gk3, 0, none⟩ = some (.int .i64 c.k) at hk0
  change wk4.cell? ⟨gk3, 1, none⟩ = some (.int .i64 c.cl) at hk1
  change wk4.cell? ⟨gk3, 2, none⟩ = some (.int .i64 c.op) at hk2
  change wk4.cell? ⟨gk1, 0, none⟩ = some (.int .i64 b.up) at hb0
  generalize badC c = BC at HR HBC
  generalize refS b.up c = RS at HR HC
  generalize b.up = up at hb0 HR
  generalize c.k = k at hk0 HBC
  generalize c.cl = cl at hk1 HBC
  generalize c.op = op at hk2 HBC
  go_wp2
  all_goals rw [HC.out]
  all_goals refine ⟨ret_int ?_, HK.out⟩
  all_goals rw [HR.out, HBC.out]
  all_goals first | (simp_all; done) | (simp_all; omega) | (simp_all; intros; omega)

end Go.Proofs.Ytfemlnfknebalaa
