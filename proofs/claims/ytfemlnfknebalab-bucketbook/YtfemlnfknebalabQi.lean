import Derived.Test.YtfemlnfknebalabQh
import Derived.Test.YtfemlnfknebalabTe
import Derived.Test.YtfemlnfknebalabZ
import Derived.StillTailTactics
namespace Go.Proofs.Ytfemlnfknebalab
open Go.RowKit Go.Shelf
set_option linter.unusedVariables false
set_option linter.unusedSimpArgs false

theorem find_moved (up : Int) (a : Option Addr) (m cap : Nat) (sl : Sl) (e : En) (t : List En) (y : Int) (w : World) (hr : RiseE (e :: t)) (h : RdE w ⟨a, m, cap⟩ (⟨e.nm, e.f0, e.f1, y⟩ :: t)) (hb : m ≤ 1000000) : Calls Try.prog 26 #[.agg (Bv.cells ⟨up, ⟨a, m, cap⟩, sl⟩), .string e.nm] w (fun x w' => x = .returned (.tuple #[.agg (En.cells ⟨e.nm, e.f0, e.f1, y⟩), .bool true]) ∧ Kept No w w') := by
  have := find_any up a m cap sl _ e.nm w h.len (by omega) h.row
  rw [show findE (⟨e.nm, e.f0, e.f1, y⟩ :: t) e.nm = ⟨e.nm, e.f0, e.f1, y⟩ from move_find (move_rise hr y), show eIs (⟨e.nm, e.f0, e.f1, y⟩ :: t) e.nm = true from move_is (move_rise hr y)] at this
  exact this
set_option maxRecDepth 100000 in
set_option maxHeartbeats 4000000 in
theorem moved_yes (up : Int) (eb eo en ec : Nat) (la : Option Addr) (ln lc : Nat) (e : En) (t : List En) (ls : List La) (room : Int) (w : World) (he : RdE w ⟨(some ⟨eb, eo, none⟩), en, ec⟩ (e :: t)) (hl : RdL w ⟨la, ln, lc⟩ ls) (hr : RiseE (e :: t)) (hu : 0 ≤ up) (hu2 : up < 1048576) (hbe : en ≤ 100000) (hbl : ln ≤ 100000) : Calls Try.prog 16 #[.agg (Bv.cells ⟨up, ⟨(some ⟨eb, eo, none⟩), en, ec⟩, ⟨la, ln, lc⟩⟩), .int .i64 room] w (fun e w' => e = .returned (.bool true) ∧ Kept No w w') := by
  obtain ⟨C, hC⟩ : ∃ C : Ending → World → Prop, C = (fun e w' => e = .returned (.bool true) ∧ Kept No w w') := ⟨_, rfl⟩
  have HC : Hid (C = (fun e w' => e = .returned (.bool true) ∧ Kept No w w')) := hC
  rw [← hC]
  clear hC
  have HE0 : Hid (RdE w ⟨(some ⟨eb, eo, none⟩), en, ec⟩ (e :: t)) := he
  have HL0 : Hid (RdL w ⟨la, ln, lc⟩ ls) := hl
  have HR : Hid (RiseE (e :: t)) := hr
  have hel : t.length + 1 = en := he.len
  have hll : ls.length = ln := hl.len
  have hen0 : (((en : Nat) : Int) == 0) = false := by rw [beq_eq_false_iff_ne]; omega
  clear he hl hr
  have HF : Hid (Fr No w w []) := Fr.start _ _
  go_enter Try.func16, Try.ntmps16
  go_upto_region 0 with fail
  refine WL.start ?_
  refine wp_runW (.pointer (some ⟨w.heap.size, 0, none⟩)) (w.alloc (.cells (Bv.cells ⟨up, ⟨(some ⟨eb, eo, none⟩), en, ec⟩, ⟨la, ln, lc⟩⟩) 26)) (exec_box 26 _ rfl (Bv.cells ⟨up, ⟨(some ⟨eb, eo, none⟩), en, ec⟩, ⟨la, ln, lc⟩⟩) (by kernel_rfl)) (by kernel_rfl) ?_
  try simp only [pA, pB, p1, p2, p3]
  have HF : Hid (Fr No w (w.alloc (.cells (Bv.cells ⟨up, ⟨(some ⟨eb, eo, none⟩), en, ec⟩, ⟨la, ln, lc⟩⟩) 26)) [(w.heap.size, 26, Bv.cells ⟨up, ⟨(some ⟨eb, eo, none⟩), en, ec⟩, ⟨la, ln, lc⟩⟩)]) := HF.out.alloc _ _
  generalize w.alloc (.cells (Bv.cells ⟨up, ⟨(some ⟨eb, eo, none⟩), en, ec⟩, ⟨la, ln, lc⟩⟩) 26) = wk2 at HF ⊢
  generalize w.heap.size = gk1 at HF ⊢
  refine tK (.bool false) ?_
  try simp only [pA, pB, p1, p2, p3]
  refine WL.nil ?_
  try simp only [pA, pB, p1, p2, p3]
  go_upto_region 1 with fail
  refine WL.start ?_
  refine tK (.pointer (some ⟨gk1, 1, none⟩)) ?_
  try simp only [pA, pB, p1, p2, p3]
  refine tW (.slice (some ⟨eb, eo, none⟩) en ec) (exec_load 23 _ rfl ⟨gk1, 1, none⟩ (by kernel_rfl) (.slice (some ⟨eb, eo, none⟩) en ec) (load_one ((HF.out.box 0 _ _ _ rfl).cell 1 |>.trans (by kernel_rfl)) Try.und22 rfl)) ?_
  try simp only [pA, pB, p1, p2, p3]
  refine tK (.int .i64 ((en : Nat) : Int)) ?_
  try simp only [pA, pB, p1, p2, p3]
  refine tW (.bool false) (exec_bin .eql 3 _ _ _ rfl (.int .i64 ((en : Nat) : Int)) (.int .i64 0) (.bool false) (by kernel_rfl) (by kernel_rfl) (by kernel_rfl) (by rw [b_eql, hen0])) ?_
  try simp only [pA, pB, p1, p2, p3]
  refine WL.nil ?_
  try simp only [pA, pB, p1, p2, p3]
  have HK0 : Hid (Kept No wk2 wk2) := Kept.refl _ _
  obtain ⟨s0, hs0⟩ : ∃ n, wk2.heap.size = n := ⟨_, rfl⟩
  have HS0 : Hid (wk2.heap.size = s0) := hs0
  clear hs0
  go_upto_region 3 with fail
  refine WL.start ?_
  refine tW (.agg (Bv.cells ⟨up, ⟨(some ⟨eb, eo, none⟩), en, ec⟩, ⟨la, ln, lc⟩⟩)) (exec_load 26 _ rfl ⟨gk1, 0, none⟩ (by kernel_rfl) (.agg (Bv.cells ⟨up, ⟨(some ⟨eb, eo, none⟩), en, ec⟩, ⟨la, ln, lc⟩⟩)) (run_load_part (cs := Bv.cs ⟨up, ⟨(some ⟨eb, eo, none⟩), en, ec⟩, ⟨la, ln, lc⟩⟩) (sub := Bv.cs ⟨up, ⟨(some ⟨eb, eo, none⟩), en, ec⟩, ⟨la, ln, lc⟩⟩) (HF.out.box 0 _ _ _ rfl) (Part.all _) Try.und25 rfl Try.size25)) ?_
  try simp only [pA, pB, p1, p2, p3]
  have HF0 := HF
  refine wp_callW 9 #[.agg (Bv.cells ⟨up, ⟨(some ⟨eb, eo, none⟩), en, ec⟩, ⟨la, ln, lc⟩⟩)] (by kernel_rfl) _ (twin_any up (some ⟨eb, eo, none⟩) en ec la ln lc (e :: t) ls _ (by omega) (by omega) (HE0.out.no HF.out.kept) (HL0.out.no HF.out.kept)) (by kernel_rfl) ?_
  rintro e9 wk3 ⟨⟨ma0, mn0, mc0⟩, ⟨la0, ln0, lc0⟩, rfl, hse, hsl, hk⟩
  have hmn0 : t.length + 1 = mn0 := hse.len
  have hln0 : ls.length = ln0 := hsl.len
  obtain ⟨g9, hg9⟩ := hse.own.some (show 0 < mn0 by omega)
  have hg9 : ma0 = some ⟨g9, 0, none⟩ := hg9
  subst hg9
  have HK0 : Hid (Kept No wk2 (wk3)) := HK0.out.no hk
  have HF : Hid (Fr No w (wk3) [(gk1, 26, Bv.cells ⟨up, ⟨(some ⟨eb, eo, none⟩), en, ec⟩, ⟨la, ln, lc⟩⟩)]) := HF.out.no hk
  have hlow9 : w.heap.size ≤ g9 := Nat.le_trans HF0.out.kept.size (hse.own.base ⟨_, rfl, rfl⟩)
  have HE6 : Hid (OwE wk3 w.heap.size ⟨(some ⟨g9, 0, none⟩), mn0, mc0⟩ (e :: t)) := hse.lower HF0.out.kept.size
  have HL6 : Hid (OwL wk3 w.heap.size ⟨la0, ln0, lc0⟩ ls) := hsl.lower HF0.out.kept.size
  clear hse hsl hk HF0
  have HK1 : Hid (Kept No wk3 wk3) := Kept.refl _ _
  obtain ⟨s1, hs1⟩ : ∃ n, wk3.heap.size = n := ⟨_, rfl⟩
  have HS1 : Hid (wk3.heap.size = s1) := hs1
  clear hs1
  refine ⟨.agg (Bv.cells ⟨up, ⟨(some ⟨g9, 0, none⟩), mn0, mc0⟩, ⟨la0, ln0, lc0⟩⟩), rfl, ?_⟩
  try simp only [pA, pB, p1, p2, p3]
  refine wp_runW (.pointer (some ⟨wk3.heap.size, 0, none⟩)) (wk3.alloc (.cells (Bv.cells bvZ) 26)) (exec_alloc 26 rfl (Bv.cells bvZ) zero25) (by kernel_rfl) ?_
  try simp only [pA, pB, p1, p2, p3]
  have hx0_gk4 : s0 ≤ wk3.heap.size := by rw [← HS0.out]; exact HK0.out.size
  have hx1_gk4 : s1 ≤ wk3.heap.size := by rw [← HS1.out]; exact HK1.out.size
  have HK0 : Hid (Kept No wk2 (wk3.alloc (.cells (Bv.cells bvZ) 26))) := HK0.out.no ((Kept.refl No _).alloc _)
  have HK1 : Hid (Kept No wk3 (wk3.alloc (.cells (Bv.cells bvZ) 26))) := HK1.out.no ((Kept.refl No _).alloc _)
  have HF : Hid (Fr No w (wk3.alloc (.cells (Bv.cells bvZ) 26)) [(gk1, 26, Bv.cells ⟨up, ⟨(some ⟨eb, eo, none⟩), en, ec⟩, ⟨la, ln, lc⟩⟩), (wk3.heap.size, 26, Bv.cells bvZ)]) := HF.out.alloc _ _
  generalize wk3.alloc (.cells (Bv.cells bvZ) 26) = wk5 at HF HK0 HK1 ⊢
  generalize wk3.heap.size = gk4 at HF hx0_gk4 hx1_gk4 ⊢
  refine wp_storeW 26 _ _ rfl ⟨gk4, 0, none⟩ (.agg (Bv.cells ⟨up, ⟨(some ⟨g9, 0, none⟩), mn0, mc0⟩, ⟨la0, ln0, lc0⟩⟩)) (by kernel_rfl) (by kernel_rfl) (wk5.setRow gk4 (Bv.cells ⟨up, ⟨(some ⟨g9, 0, none⟩), mn0, mc0⟩, ⟨la0, ln0, lc0⟩⟩)) (run_store_to (cur := Bv.cs bvZ) (vs := Bv.cs ⟨up, ⟨(some ⟨g9, 0, none⟩), mn0, mc0⟩, ⟨la0, ln0, lc0⟩⟩) (new := Bv.cs ⟨up, ⟨(some ⟨g9, 0, none⟩), mn0, mc0⟩, ⟨la0, ln0, lc0⟩⟩) (HF.out.box 1 _ _ _ rfl) (by kernel_rfl) Try.size25 (Nat.le_of_ble_eq_true (by kernel_rfl)) (Bv.oneL _) (by kernel_rfl)) (by kernel_rfl) ?_
  try simp only [pA, pB, p1, p2, p3]
  have HK0 : Hid (Kept No wk2 (wk5.setRow gk4 (Bv.cells ⟨up, ⟨(some ⟨g9, 0, none⟩), mn0, mc0⟩, ⟨la0, ln0, lc0⟩⟩))) := HK0.out.newRow (by rw [HS0.out]; exact hx0_gk4) _
  have HK1 : Hid (Kept No wk3 (wk5.setRow gk4 (Bv.cells ⟨up, ⟨(some ⟨g9, 0, none⟩), mn0, mc0⟩, ⟨la0, ln0, lc0⟩⟩))) := HK1.out.newRow (by rw [HS1.out]; exact hx1_gk4) _
  have HF : Hid (Fr No w (wk5.setRow gk4 (Bv.cells ⟨up, ⟨(some ⟨g9, 0, none⟩), mn0, mc0⟩, ⟨la0, ln0, lc0⟩⟩)) [(gk1, 26, Bv.cells ⟨up, ⟨(some ⟨eb, eo, none⟩), en, ec⟩, ⟨la, ln, lc⟩⟩), (gk4, 26, Bv.cells ⟨up, ⟨(some ⟨g9, 0, none⟩), mn0, mc0⟩, ⟨la0, ln0, lc0⟩⟩)]) := HF.out.set 1 rfl _
  generalize wk5.setRow gk4 (Bv.cells ⟨up, ⟨(some ⟨g9, 0, none⟩), mn0, mc0⟩, ⟨la0, ln0, lc0⟩⟩) = wk6 at HF HK0 HK1 ⊢
  refine WL.nil ?_
  try simp only [pA, pB, p1, p2, p3]
  have HE : Hid (OwE wk6 w.heap.size ⟨(some ⟨g9, 0, none⟩), mn0, mc0⟩ (e :: t)) := HE6.out.no HK1.out
  have HL : Hid (OwL wk6 w.heap.size ⟨la0, ln0, lc0⟩ ls) := HL6.out.no HK1.out
  clear  HE6 HL6 HK1 HS1 HK0 HS0 hx0_gk4 hx1_gk4
  have HEs : Hid (OwE wk6 w.heap.size ⟨(some ⟨g9, 0, none⟩), mn0, mc0⟩ (e :: t)) := HE
  clear HE
  have HLs : Hid (OwL wk6 w.heap.size ⟨la0, ln0, lc0⟩ ls) := HL
  clear HL
  have HK0 : Hid (Kept No wk6 wk6) := Kept.refl _ _
  obtain ⟨s0, hs0⟩ : ∃ n, wk6.heap.size = n := ⟨_, rfl⟩
  have HS0 : Hid (wk6.heap.size = s0) := hs0
  clear hs0
  go_upto_region 4 with fail
  refine WL.start ?_
  refine tW (.agg (Cm.cells ⟨4, 3, 9, ⟨#[]⟩, 0, 0, 0, 0, 0⟩)) (exec_build 31 _ rfl (Cm.cells ⟨4, 3, 9, ⟨#[]⟩, 0, 0, 0, 0, 0⟩) (by kernel_rfl)) ?_
  try simp only [pA, pB, p1, p2, p3]
  refine wp_runW (.pointer (some ⟨wk6.heap.size, 0, none⟩)) (wk6.alloc (.cells (Cm.cells cZ) 31)) (exec_alloc 31 rfl (Cm.cells cZ) zero29) (by kernel_rfl) ?_
  try simp only [pA, pB, p1, p2, p3]
  have hx0_gk7 : s0 ≤ wk6.heap.size := by rw [← HS0.out]; exact HK0.out.size
  have HK0 : Hid (Kept No wk6 (wk6.alloc (.cells (Cm.cells cZ) 31))) := HK0.out.no ((Kept.refl No _).alloc _)
  have HF : Hid (Fr No w (wk6.alloc (.cells (Cm.cells cZ) 31)) [(gk1, 26, Bv.cells ⟨up, ⟨(some ⟨eb, eo, none⟩), en, ec⟩, ⟨la, ln, lc⟩⟩), (gk4, 26, Bv.cells ⟨up, ⟨(some ⟨g9, 0, none⟩), mn0, mc0⟩, ⟨la0, ln0, lc0⟩⟩), (wk6.heap.size, 31, Cm.cells cZ)]) := HF.out.alloc _ _
  generalize wk6.alloc (.cells (Cm.cells cZ) 31) = wk8 at HF HK0 ⊢
  generalize wk6.heap.size = gk7 at HF hx0_gk7 ⊢
  refine wp_storeW 31 _ _ rfl ⟨gk7, 0, none⟩ (.agg (Cm.cells ⟨4, 3, 9, ⟨#[]⟩, 0, 0, 0, 0, 0⟩)) (by kernel_rfl) (by kernel_rfl) (wk8.setRow gk7 (Cm.cells ⟨4, 3, 9, ⟨#[]⟩, 0, 0, 0, 0, 0⟩)) (run_store_to (cur := Cm.cs cZ) (vs := Cm.cs ⟨4, 3, 9, ⟨#[]⟩, 0, 0, 0, 0, 0⟩) (new := Cm.cs ⟨4, 3, 9, ⟨#[]⟩, 0, 0, 0, 0, 0⟩) (HF.out.box 2 _ _ _ rfl) (by kernel_rfl) Try.size29 (Nat.le_of_ble_eq_true (by kernel_rfl)) (Cm.oneL _) (by kernel_rfl)) (by kernel_rfl) ?_
  try simp only [pA, pB, p1, p2, p3]
  have HK0 : Hid (Kept No wk6 (wk8.setRow gk7 (Cm.cells ⟨4, 3, 9, ⟨#[]⟩, 0, 0, 0, 0, 0⟩))) := HK0.out.newRow (by rw [HS0.out]; exact hx0_gk7) _
  have HF : Hid (Fr No w (wk8.setRow gk7 (Cm.cells ⟨4, 3, 9, ⟨#[]⟩, 0, 0, 0, 0, 0⟩)) [(gk1, 26, Bv.cells ⟨up, ⟨(some ⟨eb, eo, none⟩), en, ec⟩, ⟨la, ln, lc⟩⟩), (gk4, 26, Bv.cells ⟨up, ⟨(some ⟨g9, 0, none⟩), mn0, mc0⟩, ⟨la0, ln0, lc0⟩⟩), (gk7, 31, Cm.cells ⟨4, 3, 9, ⟨#[]⟩, 0, 0, 0, 0, 0⟩)]) := HF.out.set 2 rfl _
  generalize wk8.setRow gk7 (Cm.cells ⟨4, 3, 9, ⟨#[]⟩, 0, 0, 0, 0, 0⟩) = wk9 at HF HK0 ⊢
  refine WL.nil ?_
  try simp only [pA, pB, p1, p2, p3]
  have HE : Hid (OwE wk9 w.heap.size ⟨(some ⟨g9, 0, none⟩), mn0, mc0⟩ (e :: t)) := HEs.out.no HK0.out
  have HL : Hid (OwL wk9 w.heap.size ⟨la0, ln0, lc0⟩ ls) := HLs.out.no HK0.out
  clear HEs HLs HK0 HS0 hx0_gk7
  have HEs : Hid (OwE wk9 w.heap.size ⟨(some ⟨g9, 0, none⟩), mn0, mc0⟩ (e :: t)) := HE
  clear HE
  have HLs : Hid (OwL wk9 w.heap.size ⟨la0, ln0, lc0⟩ ls) := HL
  clear HL
  have HK0 : Hid (Kept No wk9 wk9) := Kept.refl _ _
  obtain ⟨s0, hs0⟩ : ∃ n, wk9.heap.size = n := ⟨_, rfl⟩
  have HS0 : Hid (wk9.heap.size = s0) := hs0
  clear hs0
  go_upto_region 5 with fail
  refine WL.start ?_
  refine tW (.agg (Bv.cells ⟨up, ⟨(some ⟨g9, 0, none⟩), mn0, mc0⟩, ⟨la0, ln0, lc0⟩⟩)) (exec_load 26 _ rfl ⟨gk4, 0, none⟩ (by kernel_rfl) (.agg (Bv.cells ⟨up, ⟨(some ⟨g9, 0, none⟩), mn0, mc0⟩, ⟨la0, ln0, lc0⟩⟩)) (run_load_part (cs := Bv.cs ⟨up, ⟨(some ⟨g9, 0, none⟩), mn0, mc0⟩, ⟨la0, ln0, lc0⟩⟩) (sub := Bv.cs ⟨up, ⟨(some ⟨g9, 0, none⟩), mn0, mc0⟩, ⟨la0, ln0, lc0⟩⟩) (HF.out.box 1 _ _ _ rfl) (Part.all _) Try.und25 rfl Try.size25)) ?_
  try simp only [pA, pB, p1, p2, p3]
  refine tW (.agg (Cm.cells ⟨4, 3, 9, ⟨#[]⟩, 0, 0, 0, 0, 0⟩)) (exec_load 31 _ rfl ⟨gk7, 0, none⟩ (by kernel_rfl) (.agg (Cm.cells ⟨4, 3, 9, ⟨#[]⟩, 0, 0, 0, 0, 0⟩)) (run_load_part (cs := Cm.cs ⟨4, 3, 9, ⟨#[]⟩, 0, 0, 0, 0, 0⟩) (sub := Cm.cs ⟨4, 3, 9, ⟨#[]⟩, 0, 0, 0, 0, 0⟩) (HF.out.box 2 _ _ _ rfl) (Part.all _) Try.und29 rfl Try.size29)) ?_
  try simp only [pA, pB, p1, p2, p3]
  refine tK (.int .i64 room) ?_
  try simp only [pA, pB, p1, p2, p3]
  refine wp_callW 6 #[.agg (Bv.cells ⟨up, ⟨(some ⟨g9, 0, none⟩), mn0, mc0⟩, ⟨la0, ln0, lc0⟩⟩), .agg (Cm.cells ⟨4, 3, 9, ⟨#[]⟩, 0, 0, 0, 0, 0⟩), .int .i64 room] (by kernel_rfl) _ (apply_list up (some ⟨g9, 0, none⟩) mn0 mc0 la0 ln0 lc0 (e :: t) ls room _ hu hu2 (HEs.out.no HK0.out).rd (HLs.out.no HK0.out).rd (by omega) (by omega)) (by kernel_rfl) ?_
  rintro e9 wk10 ⟨⟨xa, xn, xc⟩, ⟨ya, yn, yc⟩, ⟨za, zn, zc⟩, rfl, hse, hsl, hsx, hap, hk⟩
  have HK0 : Hid (Kept No wk9 (wk10)) := HK0.out.no hk
  have HF : Hid (Fr No w (wk10) [(gk1, 26, Bv.cells ⟨up, ⟨(some ⟨eb, eo, none⟩), en, ec⟩, ⟨la, ln, lc⟩⟩), (gk4, 26, Bv.cells ⟨up, ⟨(some ⟨g9, 0, none⟩), mn0, mc0⟩, ⟨la0, ln0, lc0⟩⟩), (gk7, 31, Cm.cells ⟨4, 3, 9, ⟨#[]⟩, 0, 0, 0, 0, 0⟩)]) := HF.out.no hk
  clear hse hsl hsx hap hk
  refine ⟨.tuple #[.agg (Bv.cells ⟨up + 1, ⟨xa, xn, xc⟩, ⟨ya, yn, yc⟩⟩), .agg (Av.cells ⟨0, enZ, ⟨za, zn, zc⟩⟩), .int .i64 0], rfl, ?_⟩
  try simp only [pA, pB, p1, p2, p3]
  refine WL.nil ?_
  try simp only [pA, pB, p1, p2, p3]
  have HE : Hid (OwE wk10 w.heap.size ⟨(some ⟨g9, 0, none⟩), mn0, mc0⟩ (e :: t)) := HEs.out.no HK0.out
  have HL : Hid (OwL wk10 w.heap.size ⟨la0, ln0, lc0⟩ ls) := HLs.out.no HK0.out
  clear HEs HLs HK0 HS0
  have HEs : Hid (OwE wk10 w.heap.size ⟨(some ⟨g9, 0, none⟩), mn0, mc0⟩ (e :: t)) := HE
  clear HE
  have HLs : Hid (OwL wk10 w.heap.size ⟨la0, ln0, lc0⟩ ls) := HL
  clear HL
  have HK0 : Hid (Kept No wk10 wk10) := Kept.refl _ _
  obtain ⟨s0, hs0⟩ : ∃ n, wk10.heap.size = n := ⟨_, rfl⟩
  have HS0 : Hid (wk10.heap.size = s0) := hs0
  clear hs0
  go_upto_region 6 with fail
  refine wp_region_held_drew (S := fun w' => Fr No w w' [(gk1, 26, Bv.cells ⟨up, ⟨(some ⟨eb, eo, none⟩), en, ec⟩, ⟨la, ln, lc⟩⟩), (gk4, 26, Bv.cells ⟨up, ⟨(some ⟨g9, 0, none⟩), mn0, mc0⟩, ⟨la0, ln0, lc0⟩⟩), (gk7, 31, Cm.cells ⟨4, 3, 9, ⟨#[]⟩, 0, 0, 0, 0, 0⟩)]) rfl (HF.out.drew) (fun hH => ?_)
  have HK0 : Hid (Kept No wk10 (wk10.drew)) := HK0.out.no (Kept.refl No _).drew
  have HF : Hid (Fr No w (wk10.drew) [(gk1, 26, Bv.cells ⟨up, ⟨(some ⟨eb, eo, none⟩), en, ec⟩, ⟨la, ln, lc⟩⟩), (gk4, 26, Bv.cells ⟨up, ⟨(some ⟨g9, 0, none⟩), mn0, mc0⟩, ⟨la0, ln0, lc0⟩⟩), (gk7, 31, Cm.cells ⟨4, 3, 9, ⟨#[]⟩, 0, 0, 0, 0, 0⟩)]) := HF.out.drew
  generalize wk10.drew = wk11 at HF HK0 hH ⊢
  refine aT (i := 0) (oi := { dst := some 23, op := Op.load 26 (Operand.tmp 5), type := 26, pos := "own.go:147", after := #[], guard := none }) (v := .agg (Bv.cells ⟨up, ⟨(some ⟨g9, 0, none⟩), mn0, mc0⟩, ⟨la0, ln0, lc0⟩⟩)) (fun w' hw => exec_load 26 _ rfl ⟨gk4, 0, none⟩ (by kernel_rfl) (.agg (Bv.cells ⟨up, ⟨(some ⟨g9, 0, none⟩), mn0, mc0⟩, ⟨la0, ln0, lc0⟩⟩)) (run_load_part (cs := Bv.cs ⟨up, ⟨(some ⟨g9, 0, none⟩), mn0, mc0⟩, ⟨la0, ln0, lc0⟩⟩) (sub := Bv.cs ⟨up, ⟨(some ⟨g9, 0, none⟩), mn0, mc0⟩, ⟨la0, ln0, lc0⟩⟩) (hw.box 1 _ _ _ rfl) (Part.all _) Try.und25 rfl Try.size25)) hH ?_
  try simp only [pA, pB, p1, p2, p3]
  refine aT (i := 1) (oi := { dst := some 24, op := Op.fieldAddr 26 (Operand.tmp 2) 1, type := 0, pos := "own.go:147", after := #[], guard := none }) (v := .pointer (some ⟨gk1, 1, none⟩)) (fun _ _ => by kernel_rfl) hH ?_
  try simp only [pA, pB, p1, p2, p3]
  refine aT (i := 2) (oi := { dst := some 25, op := Op.load 23 (Operand.tmp 24), type := 23, pos := "own.go:147", after := #[{ on := 1, ground := Ground.data }], guard := none }) (v := .slice (some ⟨eb, eo, none⟩) en ec) (fun w' hw => exec_load 23 _ rfl ⟨gk1, 1, none⟩ (by kernel_rfl) (.slice (some ⟨eb, eo, none⟩) en ec) (load_one ((hw.box 0 _ _ _ rfl).cell 1 |>.trans (by kernel_rfl)) Try.und22 rfl)) hH ?_
  try simp only [pA, pB, p1, p2, p3]
  refine aT (i := 3) (oi := { dst := some 26, op := Op.indexAddr 23 (Operand.tmp 25) (Operand.const (Value.int IntKind.i64 0)), type := 0, pos := "own.go:147", after := #[{ on := 2, ground := Ground.data }], guard := none }) (v := .pointer (some ⟨eb, eo + 0 * 4, none⟩)) (fun w' hw => exec_ixA 23 4 Try.und22e Try.size22e _ _ rfl eb eo en ec 0 (by kernel_rfl) (by kernel_rfl) (by omega)) hH ?_
  try simp only [pA, pB, p1, p2, p3]
  refine aT (i := 4) (oi := { dst := some 27, op := Op.fieldAddr 34 (Operand.tmp 26) 0, type := 0, pos := "own.go:147", after := #[{ on := 3, ground := Ground.data }], guard := none }) (v := .pointer (some ⟨eb, eo + 0 * 4, none⟩)) (fun _ _ => by kernel_rfl) hH ?_
  try simp only [pA, pB, p1, p2, p3]
  refine aT (i := 5) (oi := { dst := some 28, op := Op.load 9 (Operand.tmp 27), type := 9, pos := "own.go:147", after := #[{ on := 4, ground := Ground.data }], guard := none }) (v := .string e.nm) (fun w' hw => exec_load 9 _ rfl ⟨eb, eo + 0 * 4, none⟩ (by kernel_rfl) (.string e.nm) (load_one ((HE0.out.no hw.kept).at0 0 _ rfl) Try.und9 rfl)) hH ?_
  try simp only [pA, pB, p1, p2, p3]
  refine any_call (i := 6) (o := { dst := some 29, op := Op.call { callee := Callee.value (Operand.func 26), args := #[Operand.tmp 23, Operand.tmp 28], argTypes := #[26, 9] }, type := 69, pos := "own.go:147", after := #[{ on := 0, ground := Ground.data }, { on := 5, ground := Ground.data }], guard := none }) rfl (by kernel_rfl) (by kernel_rfl) 26 #[.agg (Bv.cells ⟨up, ⟨(some ⟨g9, 0, none⟩), mn0, mc0⟩, ⟨la0, ln0, lc0⟩⟩), .string e.nm] (by kernel_rfl) _ (find_moved up (some ⟨g9, 0, none⟩) mn0 mc0 ⟨la0, ln0, lc0⟩ e t e.sz _ HR.out (HEs.out.no HK0.out).rd (by omega)) ?_
  rintro e wk12 ⟨rfl, hk⟩
  have hH2 : Fr No w wk12 [(gk1, 26, Bv.cells ⟨up, ⟨(some ⟨eb, eo, none⟩), en, ec⟩, ⟨la, ln, lc⟩⟩), (gk4, 26, Bv.cells ⟨up, ⟨(some ⟨g9, 0, none⟩), mn0, mc0⟩, ⟨la0, ln0, lc0⟩⟩), (gk7, 31, Cm.cells ⟨4, 3, 9, ⟨#[]⟩, 0, 0, 0, 0, 0⟩)] := hH.no hk
  have HK0 : Hid (Kept No wk10 (wk12)) := HK0.out.no hk
  have HF : Hid (Fr No w (wk12) [(gk1, 26, Bv.cells ⟨up, ⟨(some ⟨eb, eo, none⟩), en, ec⟩, ⟨la, ln, lc⟩⟩), (gk4, 26, Bv.cells ⟨up, ⟨(some ⟨g9, 0, none⟩), mn0, mc0⟩, ⟨la0, ln0, lc0⟩⟩), (gk7, 31, Cm.cells ⟨4, 3, 9, ⟨#[]⟩, 0, 0, 0, 0, 0⟩)]) := HF.out.no hk
  clear hk
  refine ⟨.tuple #[.agg (En.cells ⟨e.nm, e.f0, e.f1, e.sz⟩), .bool true], rfl, hH2, fun hH => ?_⟩
  clear hH2
  try simp only [pA, pB, p1, p2, p3]
  refine wpAnyH_done (by kernel_rfl) ?_ _
  try simp only [pA, pB, p1, p2, p3]
  clear hH
  have HE : Hid (OwE wk12 w.heap.size ⟨(some ⟨g9, 0, none⟩), mn0, mc0⟩ (e :: t)) := HEs.out.no HK0.out
  have HL : Hid (OwL wk12 w.heap.size ⟨la0, ln0, lc0⟩ ls) := HLs.out.no HK0.out
  clear HEs HLs HK0 HS0
  have HEs : Hid (OwE wk12 w.heap.size ⟨(some ⟨g9, 0, none⟩), mn0, mc0⟩ (e :: t)) := HE
  clear HE
  have HLs : Hid (OwL wk12 w.heap.size ⟨la0, ln0, lc0⟩ ls) := HL
  clear HL
  have HK0 : Hid (Kept No wk12 wk12) := Kept.refl _ _
  obtain ⟨s0, hs0⟩ : ∃ n, wk12.heap.size = n := ⟨_, rfl⟩
  have HS0 : Hid (wk12.heap.size = s0) := hs0
  clear hs0
  go_upto_region 7 with fail
  refine WL.start ?_
  refine tK (.pointer (some ⟨gk4, 1, none⟩)) ?_
  try simp only [pA, pB, p1, p2, p3]
  refine tW (.slice (some ⟨g9, 0, none⟩) mn0 mc0) (exec_load 23 _ rfl ⟨gk4, 1, none⟩ (by kernel_rfl) (.slice (some ⟨g9, 0, none⟩) mn0 mc0) (load_one ((HF.out.box 1 _ _ _ rfl).cell 1 |>.trans (by kernel_rfl)) Try.und22 rfl)) ?_
  try simp only [pA, pB, p1, p2, p3]
  refine tW (.pointer (some ⟨g9, 0 + 0 * 4, none⟩)) (exec_ixA 23 4 Try.und22e Try.size22e _ _ rfl g9 0 mn0 mc0 0 (by kernel_rfl) (by kernel_rfl) (by omega)) ?_
  try simp only [pA, pB, p1, p2, p3]
  refine tK (.pointer (some ⟨g9, 0 + 0 * 4 + 3, none⟩)) ?_
  try simp only [pA, pB, p1, p2, p3]
  refine tW (.int .i64 e.sz) (exec_load 3 _ rfl ⟨g9, 0 + 0 * 4 + 3, none⟩ (by kernel_rfl) (.int .i64 e.sz) (load_one ((HEs.out.no HK0.out).rd.at0 3 _ rfl) Try.und3 rfl)) ?_
  try simp only [pA, pB, p1, p2, p3]
  cases q1 : (decide (0 < e.sz))
  ·skip
   refine tW (.bool false) (exec_bin .gtr 3 _ _ _ rfl (.int .i64 e.sz) (.int .i64 0) (.bool false) (by kernel_rfl) (by kernel_rfl) (by kernel_rfl) (by rw [b_gtr, q1]; try rfl)) ?_
   try simp only [pA, pB, p1, p2, p3]
   refine WL.nil ?_
   try simp only [pA, pB, p1, p2, p3]
   have HE : Hid (OwE wk12 w.heap.size ⟨(some ⟨g9, 0, none⟩), mn0, mc0⟩ (e :: t)) := HEs.out.no HK0.out
   have HL : Hid (OwL wk12 w.heap.size ⟨la0, ln0, lc0⟩ ls) := HLs.out.no HK0.out
   clear HEs HLs HK0 HS0
   go_upto_region 9 with fail
   refine WL.start ?_
   refine tK (.pointer (some ⟨gk4, 1, none⟩)) ?_
   try simp only [pA, pB, p1, p2, p3]
   refine tW (.slice (some ⟨g9, 0, none⟩) mn0 mc0) (exec_load 23 _ rfl ⟨gk4, 1, none⟩ (by kernel_rfl) (.slice (some ⟨g9, 0, none⟩) mn0 mc0) (load_one ((HF.out.box 1 _ _ _ rfl).cell 1 |>.trans (by kernel_rfl)) Try.und22 rfl)) ?_
   try simp only [pA, pB, p1, p2, p3]
   refine tW (.pointer (some ⟨g9, 0 + 0 * 4, none⟩)) (exec_ixA 23 4 Try.und22e Try.size22e _ _ rfl g9 0 mn0 mc0 0 (by kernel_rfl) (by kernel_rfl) (by omega)) ?_
   try simp only [pA, pB, p1, p2, p3]
   refine tK (.pointer (some ⟨g9, 0 + 0 * 4 + 3, none⟩)) ?_
   try simp only [pA, pB, p1, p2, p3]
   refine tW (.int .i64 e.sz) (exec_load 3 _ rfl ⟨g9, 0 + 0 * 4 + 3, none⟩ (by kernel_rfl) (.int .i64 e.sz) (load_one (HE.out.rd.at0 3 _ rfl) Try.und3 rfl)) ?_
   try simp only [pA, pB, p1, p2, p3]
   refine tW (.int .i64 (IntKind.i64.wrap (e.sz + 1))) (exec_bin .add 3 _ _ _ rfl (.int .i64 e.sz) (.int .i64 1) (.int .i64 (IntKind.i64.wrap (e.sz + 1))) (by kernel_rfl) (by kernel_rfl) (by kernel_rfl) (b_addw _ _ _ rfl _)) ?_
   try simp only [pA, pB, p1, p2, p3]
   refine tW (.pointer (some ⟨g9, 0 + 0 * 4, none⟩)) (exec_ixA 23 4 Try.und22e Try.size22e _ _ rfl g9 0 mn0 mc0 0 (by kernel_rfl) (by kernel_rfl) (by omega)) ?_
   try simp only [pA, pB, p1, p2, p3]
   refine tK (.pointer (some ⟨g9, 0 + 0 * 4 + 3, none⟩)) ?_
   try simp only [pA, pB, p1, p2, p3]
   obtain ⟨cs9, hrun9, hown9⟩ := HE.out.sz0 (IntKind.i64.wrap (e.sz + 1))
   refine wp_storeW 3 _ _ rfl ⟨g9, 0 + 0 * 4 + 3, none⟩ (.int .i64 (IntKind.i64.wrap (e.sz + 1))) (by kernel_rfl) (by kernel_rfl) (wk12.setRow g9 cs9) hrun9 (by kernel_rfl) ?_
   try simp only [pA, pB, p1, p2, p3]
   have hk : Kept (Only g9) wk12 (wk12.setRow g9 cs9) := Kept.setRow _ _ _
   have HL : Hid (OwL (wk12.setRow g9 cs9) w.heap.size ⟨la0, ln0, lc0⟩ ls) := HL.out.kept hk (fun k e f => HL.out.own.apart HE.out.own (by decide) e ⟨_, rfl, (show k = g9 from f).symm⟩)
   have HF : Hid (Fr No w (wk12.setRow g9 cs9) [(gk1, 26, Bv.cells ⟨up, ⟨(some ⟨eb, eo, none⟩), en, ec⟩, ⟨la, ln, lc⟩⟩), (gk4, 26, Bv.cells ⟨up, ⟨(some ⟨g9, 0, none⟩), mn0, mc0⟩, ⟨la0, ln0, lc0⟩⟩), (gk7, 31, Cm.cells ⟨4, 3, 9, ⟨#[]⟩, 0, 0, 0, 0, 0⟩)]) := HF.out.lent hk (fun k e => by have e : k = g9 := e; omega) (fun y hy e => by obtain ⟨i9, hi9⟩ := List.mem_iff_getElem?.1 hy; exact HE.out.own.notBox (HF.out.box i9 y.1 y.2.1 y.2.2 hi9) (fun e2 => (show ∀ y ∈ [(gk1, 26, Bv.cells ⟨up, ⟨(some ⟨eb, eo, none⟩), en, ec⟩, ⟨la, ln, lc⟩⟩), (gk4, 26, Bv.cells ⟨up, ⟨(some ⟨g9, 0, none⟩), mn0, mc0⟩, ⟨la0, ln0, lc0⟩⟩), (gk7, 31, Cm.cells ⟨4, 3, 9, ⟨#[]⟩, 0, 0, 0, 0, 0⟩)], y.2.1 ≠ 34 from by simp) y hy e2.symm) ⟨_, rfl, (show y.1 = g9 from e).symm⟩)
   have HE : Hid (OwE (wk12.setRow g9 cs9) w.heap.size ⟨(some ⟨g9, 0, none⟩), mn0, mc0⟩ (⟨e.nm, e.f0, e.f1, (IntKind.i64.wrap (e.sz + 1))⟩ :: t)) := hown9
   clear hk hrun9 hown9
   generalize wk12.setRow g9 cs9 = wk13 at HF HE HL ⊢
   generalize (IntKind.i64.wrap (e.sz + 1)) = y9 at HE ⊢
   refine WL.nil ?_
   try simp only [pA, pB, p1, p2, p3]
   have HEs : Hid (OwE wk13 w.heap.size ⟨(some ⟨g9, 0, none⟩), mn0, mc0⟩ (⟨e.nm, e.f0, e.f1, y9⟩ :: t)) := HE
   clear HE
   have HLs : Hid (OwL wk13 w.heap.size ⟨la0, ln0, lc0⟩ ls) := HL
   clear HL
   have HK0 : Hid (Kept No wk13 wk13) := Kept.refl _ _
   obtain ⟨s0, hs0⟩ : ∃ n, wk13.heap.size = n := ⟨_, rfl⟩
   have HS0 : Hid (wk13.heap.size = s0) := hs0
   clear hs0
   go_upto_region 10 with fail
   refine wp_region_held_drew (S := fun w' => Fr No w w' [(gk1, 26, Bv.cells ⟨up, ⟨(some ⟨eb, eo, none⟩), en, ec⟩, ⟨la, ln, lc⟩⟩), (gk4, 26, Bv.cells ⟨up, ⟨(some ⟨g9, 0, none⟩), mn0, mc0⟩, ⟨la0, ln0, lc0⟩⟩), (gk7, 31, Cm.cells ⟨4, 3, 9, ⟨#[]⟩, 0, 0, 0, 0, 0⟩)]) rfl (HF.out.drew) (fun hH => ?_)
   have HK0 : Hid (Kept No wk13 (wk13.drew)) := HK0.out.no (Kept.refl No _).drew
   have HF : Hid (Fr No w (wk13.drew) [(gk1, 26, Bv.cells ⟨up, ⟨(some ⟨eb, eo, none⟩), en, ec⟩, ⟨la, ln, lc⟩⟩), (gk4, 26, Bv.cells ⟨up, ⟨(some ⟨g9, 0, none⟩), mn0, mc0⟩, ⟨la0, ln0, lc0⟩⟩), (gk7, 31, Cm.cells ⟨4, 3, 9, ⟨#[]⟩, 0, 0, 0, 0, 0⟩)]) := HF.out.drew
   generalize wk13.drew = wk14 at HF HK0 hH ⊢
   refine aT (i := 0) (oi := { dst := some 53, op := Op.load 26 (Operand.tmp 5), type := 26, pos := "own.go:153", after := #[], guard := none }) (v := .agg (Bv.cells ⟨up, ⟨(some ⟨g9, 0, none⟩), mn0, mc0⟩, ⟨la0, ln0, lc0⟩⟩)) (fun w' hw => exec_load 26 _ rfl ⟨gk4, 0, none⟩ (by kernel_rfl) (.agg (Bv.cells ⟨up, ⟨(some ⟨g9, 0, none⟩), mn0, mc0⟩, ⟨la0, ln0, lc0⟩⟩)) (run_load_part (cs := Bv.cs ⟨up, ⟨(some ⟨g9, 0, none⟩), mn0, mc0⟩, ⟨la0, ln0, lc0⟩⟩) (sub := Bv.cs ⟨up, ⟨(some ⟨g9, 0, none⟩), mn0, mc0⟩, ⟨la0, ln0, lc0⟩⟩) (hw.box 1 _ _ _ rfl) (Part.all _) Try.und25 rfl Try.size25)) hH ?_
   try simp only [pA, pB, p1, p2, p3]
   refine aT (i := 1) (oi := { dst := some 54, op := Op.fieldAddr 26 (Operand.tmp 2) 1, type := 0, pos := "own.go:153", after := #[], guard := none }) (v := .pointer (some ⟨gk1, 1, none⟩)) (fun _ _ => by kernel_rfl) hH ?_
   try simp only [pA, pB, p1, p2, p3]
   refine aT (i := 2) (oi := { dst := some 55, op := Op.load 23 (Operand.tmp 54), type := 23, pos := "own.go:153", after := #[{ on := 1, ground := Ground.data }], guard := none }) (v := .slice (some ⟨eb, eo, none⟩) en ec) (fun w' hw => exec_load 23 _ rfl ⟨gk1, 1, none⟩ (by kernel_rfl) (.slice (some ⟨eb, eo, none⟩) en ec) (load_one ((hw.box 0 _ _ _ rfl).cell 1 |>.trans (by kernel_rfl)) Try.und22 rfl)) hH ?_
   try simp only [pA, pB, p1, p2, p3]
   refine aT (i := 3) (oi := { dst := some 56, op := Op.indexAddr 23 (Operand.tmp 55) (Operand.const (Value.int IntKind.i64 0)), type := 0, pos := "own.go:153", after := #[{ on := 2, ground := Ground.data }], guard := none }) (v := .pointer (some ⟨eb, eo + 0 * 4, none⟩)) (fun w' hw => exec_ixA 23 4 Try.und22e Try.size22e _ _ rfl eb eo en ec 0 (by kernel_rfl) (by kernel_rfl) (by omega)) hH ?_
   try simp only [pA, pB, p1, p2, p3]
   refine aT (i := 4) (oi := { dst := some 57, op := Op.fieldAddr 34 (Operand.tmp 56) 0, type := 0, pos := "own.go:153", after := #[{ on := 3, ground := Ground.data }], guard := none }) (v := .pointer (some ⟨eb, eo + 0 * 4, none⟩)) (fun _ _ => by kernel_rfl) hH ?_
   try simp only [pA, pB, p1, p2, p3]
   refine aT (i := 5) (oi := { dst := some 58, op := Op.load 9 (Operand.tmp 57), type := 9, pos := "own.go:153", after := #[{ on := 4, ground := Ground.data }], guard := none }) (v := .string e.nm) (fun w' hw => exec_load 9 _ rfl ⟨eb, eo + 0 * 4, none⟩ (by kernel_rfl) (.string e.nm) (load_one ((HE0.out.no hw.kept).at0 0 _ rfl) Try.und9 rfl)) hH ?_
   try simp only [pA, pB, p1, p2, p3]
   refine any_pick (rs := [6, 10]) (by kernel_rfl) (by simp) ?_
   intro i hi
   rcases pick2 hi with rfl | rfl
   ·skip
    clear hi
    refine step_call (i := 6) (o := { dst := some 59, op := Op.call { callee := Callee.value (Operand.func 26), args := #[Operand.tmp 53, Operand.tmp 58], argTypes := #[26, 9] }, type := 69, pos := "own.go:153", after := #[{ on := 0, ground := Ground.data }, { on := 5, ground := Ground.data }], guard := none }) rfl (by kernel_rfl) 26 #[.agg (Bv.cells ⟨up, ⟨(some ⟨g9, 0, none⟩), mn0, mc0⟩, ⟨la0, ln0, lc0⟩⟩), .string e.nm] (by kernel_rfl) _ (find_moved up (some ⟨g9, 0, none⟩) mn0 mc0 ⟨la0, ln0, lc0⟩ e t y9 _ HR.out (HEs.out.no HK0.out).rd (by omega)) ?_
    rintro e wk15 ⟨rfl, hk⟩
    have hH2 : Fr No w wk15 [(gk1, 26, Bv.cells ⟨up, ⟨(some ⟨eb, eo, none⟩), en, ec⟩, ⟨la, ln, lc⟩⟩), (gk4, 26, Bv.cells ⟨up, ⟨(some ⟨g9, 0, none⟩), mn0, mc0⟩, ⟨la0, ln0, lc0⟩⟩), (gk7, 31, Cm.cells ⟨4, 3, 9, ⟨#[]⟩, 0, 0, 0, 0, 0⟩)] := hH.no hk
    have HK0 : Hid (Kept No wk13 (wk15)) := HK0.out.no hk
    have HF : Hid (Fr No w (wk15) [(gk1, 26, Bv.cells ⟨up, ⟨(some ⟨eb, eo, none⟩), en, ec⟩, ⟨la, ln, lc⟩⟩), (gk4, 26, Bv.cells ⟨up, ⟨(some ⟨g9, 0, none⟩), mn0, mc0⟩, ⟨la0, ln0, lc0⟩⟩), (gk7, 31, Cm.cells ⟨4, 3, 9, ⟨#[]⟩, 0, 0, 0, 0, 0⟩)]) := HF.out.no hk
    clear hk
    refine ⟨.tuple #[.agg (En.cells ⟨e.nm, e.f0, e.f1, y9⟩), .bool true], rfl, hH2, fun hH => ?_⟩
    clear hH2
    try simp only [pA, pB, p1, p2, p3]
    refine aT (i := 7) (oi := { dst := some 52, op := Op.move (Operand.tmp 59), type := 69, pos := "own.go:153", after := #[{ on := 6, ground := Ground.data }], guard := none }) (v := .tuple #[.agg (En.cells ⟨e.nm, e.f0, e.f1, y9⟩), .bool true]) (fun _ _ => by kernel_rfl) hH ?_
    try simp only [pA, pB, p1, p2, p3]
    refine aT (i := 8) (oi := { dst := some 60, op := Op.extract (Operand.tmp 52) 0, type := 34, pos := "own.go:153", after := #[{ on := 7, ground := Ground.data }], guard := none }) (v := .agg (En.cells ⟨e.nm, e.f0, e.f1, y9⟩)) (fun _ _ => by kernel_rfl) hH ?_
    try simp only [pA, pB, p1, p2, p3]
    refine aT (i := 9) (oi := { dst := some 61, op := Op.extract (Operand.tmp 52) 1, type := 4, pos := "own.go:153", after := #[{ on := 7, ground := Ground.data }, { on := 11, ground := Ground.gcOnly Departure.lateStores }], guard := none }) (v := .bool true) (fun _ _ => by kernel_rfl) hH ?_
    try simp only [pA, pB, p1, p2, p3]
    refine any_step (i := 10) (o := { dst := some 7, op := Op.alloc 34, type := 0, pos := "own.go:153", after := #[], guard := none }) rfl (by kernel_rfl) (by kernel_rfl) (exec_alloc 34 rfl (En.cells enZ) zero54) (Fr.front (l1 := [(gk1, 26, Bv.cells ⟨up, ⟨(some ⟨eb, eo, none⟩), en, ec⟩, ⟨la, ln, lc⟩⟩), (gk4, 26, Bv.cells ⟨up, ⟨(some ⟨g9, 0, none⟩), mn0, mc0⟩, ⟨la0, ln0, lc0⟩⟩), (gk7, 31, Cm.cells ⟨4, 3, 9, ⟨#[]⟩, 0, 0, 0, 0, 0⟩)]) (l2 := [_]) (hH.alloc _ _)) (fun hH => ?_)
    try simp only [pA, pB, p1, p2, p3]
    have hx0_gk16 : s0 ≤ wk15.heap.size := by rw [← HS0.out]; exact HK0.out.size
    have HK0 : Hid (Kept No wk13 (wk15.alloc (.cells (En.cells enZ) 34))) := HK0.out.no ((Kept.refl No _).alloc _)
    have HF : Hid (Fr No w (wk15.alloc (.cells (En.cells enZ) 34)) [(gk1, 26, Bv.cells ⟨up, ⟨(some ⟨eb, eo, none⟩), en, ec⟩, ⟨la, ln, lc⟩⟩), (gk4, 26, Bv.cells ⟨up, ⟨(some ⟨g9, 0, none⟩), mn0, mc0⟩, ⟨la0, ln0, lc0⟩⟩), (gk7, 31, Cm.cells ⟨4, 3, 9, ⟨#[]⟩, 0, 0, 0, 0, 0⟩), (wk15.heap.size, 34, En.cells enZ)]) := HF.out.alloc _ _
    generalize wk15.alloc (.cells (En.cells enZ) 34) = wk17 at HF HK0 hH ⊢
    generalize wk15.heap.size = gk16 at HF hx0_gk16 ⊢
    refine any_store (i := 11) (o := { dst := none, op := Op.store 34 (Operand.tmp 7) (Operand.tmp 60), type := 0, pos := "own.go:153", after := #[{ on := 10, ground := Ground.data }, { on := 8, ground := Ground.data }, { on := 6, ground := Ground.chain }, { on := 0, ground := Ground.phase }, { on := 1, ground := Ground.phase }, { on := 2, ground := Ground.phase }, { on := 3, ground := Ground.phase }, { on := 4, ground := Ground.phase }, { on := 5, ground := Ground.phase }, { on := 6, ground := Ground.phase }, { on := 7, ground := Ground.phase }, { on := 8, ground := Ground.phase }, { on := 9, ground := Ground.textOnly Departure.lateStores }, { on := 10, ground := Ground.phase }], guard := none }) (w' := wk17.setRow gk16 (En.cells ⟨e.nm, e.f0, e.f1, y9⟩)) rfl (by kernel_rfl) (by kernel_rfl) 34 _ _ rfl ⟨gk16, 0, none⟩ (.agg (En.cells ⟨e.nm, e.f0, e.f1, y9⟩)) (by kernel_rfl) (by kernel_rfl) (run_store_to (cur := En.cs enZ) (vs := En.cs ⟨e.nm, e.f0, e.f1, y9⟩) (new := En.cs ⟨e.nm, e.f0, e.f1, y9⟩) (HF.out.box 3 _ _ _ rfl) (by kernel_rfl) Try.size54 (Nat.le_of_ble_eq_true (by kernel_rfl)) (En.oneL _) (by kernel_rfl)) (Fr.front (l1 := [(gk1, 26, Bv.cells ⟨up, ⟨(some ⟨eb, eo, none⟩), en, ec⟩, ⟨la, ln, lc⟩⟩), (gk4, 26, Bv.cells ⟨up, ⟨(some ⟨g9, 0, none⟩), mn0, mc0⟩, ⟨la0, ln0, lc0⟩⟩), (gk7, 31, Cm.cells ⟨4, 3, 9, ⟨#[]⟩, 0, 0, 0, 0, 0⟩)]) (l2 := [(gk16, 34, En.cells ⟨e.nm, e.f0, e.f1, y9⟩)]) (HF.out.set 3 rfl _)) (fun hH => ?_)
    try simp only [pA, pB, p1, p2, p3]
    have HK0 : Hid (Kept No wk13 (wk17.setRow gk16 (En.cells ⟨e.nm, e.f0, e.f1, y9⟩))) := HK0.out.newRow (by rw [HS0.out]; exact hx0_gk16) _
    have HF : Hid (Fr No w (wk17.setRow gk16 (En.cells ⟨e.nm, e.f0, e.f1, y9⟩)) [(gk1, 26, Bv.cells ⟨up, ⟨(some ⟨eb, eo, none⟩), en, ec⟩, ⟨la, ln, lc⟩⟩), (gk4, 26, Bv.cells ⟨up, ⟨(some ⟨g9, 0, none⟩), mn0, mc0⟩, ⟨la0, ln0, lc0⟩⟩), (gk7, 31, Cm.cells ⟨4, 3, 9, ⟨#[]⟩, 0, 0, 0, 0, 0⟩), (gk16, 34, En.cells ⟨e.nm, e.f0, e.f1, y9⟩)]) := HF.out.set 3 rfl _
    generalize wk17.setRow gk16 (En.cells ⟨e.nm, e.f0, e.f1, y9⟩) = wk18 at HF HK0 hH ⊢
    refine aT (i := 12) (oi := { dst := some 8, op := Op.assign (Operand.tmp 61), type := 4, pos := "own.go:153", after := #[{ on := 9, ground := Ground.data }, { on := 11, ground := Ground.chain }, { on := 0, ground := Ground.phase }, { on := 1, ground := Ground.phase }, { on := 2, ground := Ground.phase }, { on := 3, ground := Ground.phase }, { on := 4, ground := Ground.phase }, { on := 5, ground := Ground.phase }, { on := 6, ground := Ground.phase }, { on := 7, ground := Ground.phase }, { on := 8, ground := Ground.phase }, { on := 9, ground := Ground.phase }, { on := 10, ground := Ground.phase }, { on := 11, ground := Ground.phase }], guard := none }) (v := .bool true) (fun _ _ => by kernel_rfl) hH ?_
    try simp only [pA, pB, p1, p2, p3]
    refine wpAnyH_done (by kernel_rfl) ?_ _
    try simp only [pA, pB, p1, p2, p3]
    clear hH
    have HE : Hid (OwE wk18 w.heap.size ⟨(some ⟨g9, 0, none⟩), mn0, mc0⟩ (⟨e.nm, e.f0, e.f1, y9⟩ :: t)) := HEs.out.no HK0.out
    have HL : Hid (OwL wk18 w.heap.size ⟨la0, ln0, lc0⟩ ls) := HLs.out.no HK0.out
    clear HEs HLs HK0 HS0 hx0_gk16
    have HEs : Hid (OwE wk18 w.heap.size ⟨(some ⟨g9, 0, none⟩), mn0, mc0⟩ (⟨e.nm, e.f0, e.f1, y9⟩ :: t)) := HE
    clear HE
    have HLs : Hid (OwL wk18 w.heap.size ⟨la0, ln0, lc0⟩ ls) := HL
    clear HL
    have HK0 : Hid (Kept No wk18 wk18) := Kept.refl _ _
    obtain ⟨s0, hs0⟩ : ∃ n, wk18.heap.size = n := ⟨_, rfl⟩
    have HS0 : Hid (wk18.heap.size = s0) := hs0
    clear hs0
    go_upto_region 11 with fail
    refine WL.start ?_
    refine tW (.agg (Bv.cells ⟨up, ⟨(some ⟨g9, 0, none⟩), mn0, mc0⟩, ⟨la0, ln0, lc0⟩⟩)) (exec_load 26 _ rfl ⟨gk4, 0, none⟩ (by kernel_rfl) (.agg (Bv.cells ⟨up, ⟨(some ⟨g9, 0, none⟩), mn0, mc0⟩, ⟨la0, ln0, lc0⟩⟩)) (run_load_part (cs := Bv.cs ⟨up, ⟨(some ⟨g9, 0, none⟩), mn0, mc0⟩, ⟨la0, ln0, lc0⟩⟩) (sub := Bv.cs ⟨up, ⟨(some ⟨g9, 0, none⟩), mn0, mc0⟩, ⟨la0, ln0, lc0⟩⟩) (HF.out.box 1 _ _ _ rfl) (Part.all _) Try.und25 rfl Try.size25)) ?_
    try simp only [pA, pB, p1, p2, p3]
    refine tW (.agg (Cm.cells ⟨4, 3, 9, ⟨#[]⟩, 0, 0, 0, 0, 0⟩)) (exec_load 31 _ rfl ⟨gk7, 0, none⟩ (by kernel_rfl) (.agg (Cm.cells ⟨4, 3, 9, ⟨#[]⟩, 0, 0, 0, 0, 0⟩)) (run_load_part (cs := Cm.cs ⟨4, 3, 9, ⟨#[]⟩, 0, 0, 0, 0, 0⟩) (sub := Cm.cs ⟨4, 3, 9, ⟨#[]⟩, 0, 0, 0, 0, 0⟩) (HF.out.box 2 _ _ _ rfl) (Part.all _) Try.und29 rfl Try.size29)) ?_
    try simp only [pA, pB, p1, p2, p3]
    refine tK (.int .i64 room) ?_
    try simp only [pA, pB, p1, p2, p3]
    refine wp_callW 6 #[.agg (Bv.cells ⟨up, ⟨(some ⟨g9, 0, none⟩), mn0, mc0⟩, ⟨la0, ln0, lc0⟩⟩), .agg (Cm.cells ⟨4, 3, 9, ⟨#[]⟩, 0, 0, 0, 0, 0⟩), .int .i64 room] (by kernel_rfl) _ (apply_list up (some ⟨g9, 0, none⟩) mn0 mc0 la0 ln0 lc0 (⟨e.nm, e.f0, e.f1, y9⟩ :: t) ls room _ hu hu2 (HEs.out.no HK0.out).rd (HLs.out.no HK0.out).rd (by omega) (by omega)) (by kernel_rfl) ?_
    rintro e9 wk19 ⟨⟨xa, xn, xc⟩, ⟨ya, yn, yc⟩, ⟨za, zn, zc⟩, rfl, hse, hsl, hsx, hap, hk⟩
    have HK0 : Hid (Kept No wk18 (wk19)) := HK0.out.no hk
    have HF : Hid (Fr No w (wk19) [(gk1, 26, Bv.cells ⟨up, ⟨(some ⟨eb, eo, none⟩), en, ec⟩, ⟨la, ln, lc⟩⟩), (gk4, 26, Bv.cells ⟨up, ⟨(some ⟨g9, 0, none⟩), mn0, mc0⟩, ⟨la0, ln0, lc0⟩⟩), (gk7, 31, Cm.cells ⟨4, 3, 9, ⟨#[]⟩, 0, 0, 0, 0, 0⟩), (gk16, 34, En.cells ⟨e.nm, e.f0, e.f1, y9⟩)]) := HF.out.no hk
    have HZ6 : Hid (OwE wk19 0 ⟨za, zn, zc⟩ (⟨e.nm, e.f0, e.f1, y9⟩ :: t)) := hsx.lower (Nat.zero_le _)
    have hzn : t.length + 1 = zn := hsx.len
    clear hse hsl hsx hap hk
    have HK1 : Hid (Kept No wk19 wk19) := Kept.refl _ _
    obtain ⟨s1, hs1⟩ : ∃ n, wk19.heap.size = n := ⟨_, rfl⟩
    have HS1 : Hid (wk19.heap.size = s1) := hs1
    clear hs1
    refine ⟨.tuple #[.agg (Bv.cells ⟨up + 1, ⟨xa, xn, xc⟩, ⟨ya, yn, yc⟩⟩), .agg (Av.cells ⟨0, enZ, ⟨za, zn, zc⟩⟩), .int .i64 0], rfl, ?_⟩
    try simp only [pA, pB, p1, p2, p3]
    refine tK (.tuple #[.agg (Bv.cells ⟨up + 1, ⟨xa, xn, xc⟩, ⟨ya, yn, yc⟩⟩), .agg (Av.cells ⟨0, enZ, ⟨za, zn, zc⟩⟩), .int .i64 0]) ?_
    try simp only [pA, pB, p1, p2, p3]
    refine tK (.agg (Bv.cells ⟨up + 1, ⟨xa, xn, xc⟩, ⟨ya, yn, yc⟩⟩)) ?_
    try simp only [pA, pB, p1, p2, p3]
    refine tK (.agg (Av.cells ⟨0, enZ, ⟨za, zn, zc⟩⟩)) ?_
    try simp only [pA, pB, p1, p2, p3]
    refine tK (.int .i64 0) ?_
    try simp only [pA, pB, p1, p2, p3]
    refine wp_runW (.pointer (some ⟨wk19.heap.size, 0, none⟩)) (wk19.alloc (.cells (Bv.cells bvZ) 26)) (exec_alloc 26 rfl (Bv.cells bvZ) zero25) (by kernel_rfl) ?_
    try simp only [pA, pB, p1, p2, p3]
    have hx0_gk20 : s0 ≤ wk19.heap.size := by rw [← HS0.out]; exact HK0.out.size
    have hx1_gk20 : s1 ≤ wk19.heap.size := by rw [← HS1.out]; exact HK1.out.size
    have HK0 : Hid (Kept No wk18 (wk19.alloc (.cells (Bv.cells bvZ) 26))) := HK0.out.no ((Kept.refl No _).alloc _)
    have HK1 : Hid (Kept No wk19 (wk19.alloc (.cells (Bv.cells bvZ) 26))) := HK1.out.no ((Kept.refl No _).alloc _)
    have HF : Hid (Fr No w (wk19.alloc (.cells (Bv.cells bvZ) 26)) [(gk1, 26, Bv.cells ⟨up, ⟨(some ⟨eb, eo, none⟩), en, ec⟩, ⟨la, ln, lc⟩⟩), (gk4, 26, Bv.cells ⟨up, ⟨(some ⟨g9, 0, none⟩), mn0, mc0⟩, ⟨la0, ln0, lc0⟩⟩), (gk7, 31, Cm.cells ⟨4, 3, 9, ⟨#[]⟩, 0, 0, 0, 0, 0⟩), (gk16, 34, En.cells ⟨e.nm, e.f0, e.f1, y9⟩), (wk19.heap.size, 26, Bv.cells bvZ)]) := HF.out.alloc _ _
    generalize wk19.alloc (.cells (Bv.cells bvZ) 26) = wk21 at HF HK0 HK1 ⊢
    generalize wk19.heap.size = gk20 at HF hx0_gk20 hx1_gk20 ⊢
    refine wp_runW (.pointer (some ⟨wk21.heap.size, 0, none⟩)) (wk21.alloc (.cells (Av.cells avZ) 36)) (exec_alloc 36 rfl (Av.cells avZ) zero56) (by kernel_rfl) ?_
    try simp only [pA, pB, p1, p2, p3]
    have hx0_gk22 : s0 ≤ wk21.heap.size := by rw [← HS0.out]; exact HK0.out.size
    have hx1_gk22 : s1 ≤ wk21.heap.size := by rw [← HS1.out]; exact HK1.out.size
    have HK0 : Hid (Kept No wk18 (wk21.alloc (.cells (Av.cells avZ) 36))) := HK0.out.no ((Kept.refl No _).alloc _)
    have HK1 : Hid (Kept No wk19 (wk21.alloc (.cells (Av.cells avZ) 36))) := HK1.out.no ((Kept.refl No _).alloc _)
    have HF : Hid (Fr No w (wk21.alloc (.cells (Av.cells avZ) 36)) [(gk1, 26, Bv.cells ⟨up, ⟨(some ⟨eb, eo, none⟩), en, ec⟩, ⟨la, ln, lc⟩⟩), (gk4, 26, Bv.cells ⟨up, ⟨(some ⟨g9, 0, none⟩), mn0, mc0⟩, ⟨la0, ln0, lc0⟩⟩), (gk7, 31, Cm.cells ⟨4, 3, 9, ⟨#[]⟩, 0, 0, 0, 0, 0⟩), (gk16, 34, En.cells ⟨e.nm, e.f0, e.f1, y9⟩), (gk20, 26, Bv.cells bvZ), (wk21.heap.size, 36, Av.cells avZ)]) := HF.out.alloc _ _
    generalize wk21.alloc (.cells (Av.cells avZ) 36) = wk23 at HF HK0 HK1 ⊢
    generalize wk21.heap.size = gk22 at HF hx0_gk22 hx1_gk22 ⊢
    refine wp_storeW 26 _ _ rfl ⟨gk20, 0, none⟩ (.agg (Bv.cells ⟨up + 1, ⟨xa, xn, xc⟩, ⟨ya, yn, yc⟩⟩)) (by kernel_rfl) (by kernel_rfl) (wk23.setRow gk20 (Bv.cells ⟨up + 1, ⟨xa, xn, xc⟩, ⟨ya, yn, yc⟩⟩)) (run_store_to (cur := Bv.cs bvZ) (vs := Bv.cs ⟨up + 1, ⟨xa, xn, xc⟩, ⟨ya, yn, yc⟩⟩) (new := Bv.cs ⟨up + 1, ⟨xa, xn, xc⟩, ⟨ya, yn, yc⟩⟩) (HF.out.box 4 _ _ _ rfl) (by kernel_rfl) Try.size25 (Nat.le_of_ble_eq_true (by kernel_rfl)) (Bv.oneL _) (by kernel_rfl)) (by kernel_rfl) ?_
    try simp only [pA, pB, p1, p2, p3]
    have HK0 : Hid (Kept No wk18 (wk23.setRow gk20 (Bv.cells ⟨up + 1, ⟨xa, xn, xc⟩, ⟨ya, yn, yc⟩⟩))) := HK0.out.newRow (by rw [HS0.out]; exact hx0_gk20) _
    have HK1 : Hid (Kept No wk19 (wk23.setRow gk20 (Bv.cells ⟨up + 1, ⟨xa, xn, xc⟩, ⟨ya, yn, yc⟩⟩))) := HK1.out.newRow (by rw [HS1.out]; exact hx1_gk20) _
    have HF : Hid (Fr No w (wk23.setRow gk20 (Bv.cells ⟨up + 1, ⟨xa, xn, xc⟩, ⟨ya, yn, yc⟩⟩)) [(gk1, 26, Bv.cells ⟨up, ⟨(some ⟨eb, eo, none⟩), en, ec⟩, ⟨la, ln, lc⟩⟩), (gk4, 26, Bv.cells ⟨up, ⟨(some ⟨g9, 0, none⟩), mn0, mc0⟩, ⟨la0, ln0, lc0⟩⟩), (gk7, 31, Cm.cells ⟨4, 3, 9, ⟨#[]⟩, 0, 0, 0, 0, 0⟩), (gk16, 34, En.cells ⟨e.nm, e.f0, e.f1, y9⟩), (gk20, 26, Bv.cells ⟨up + 1, ⟨xa, xn, xc⟩, ⟨ya, yn, yc⟩⟩), (gk22, 36, Av.cells avZ)]) := HF.out.set 4 rfl _
    generalize wk23.setRow gk20 (Bv.cells ⟨up + 1, ⟨xa, xn, xc⟩, ⟨ya, yn, yc⟩⟩) = wk24 at HF HK0 HK1 ⊢
    refine wp_storeW 36 _ _ rfl ⟨gk22, 0, none⟩ (.agg (Av.cells ⟨0, enZ, ⟨za, zn, zc⟩⟩)) (by kernel_rfl) (by kernel_rfl) (wk24.setRow gk22 (Av.cells ⟨0, enZ, ⟨za, zn, zc⟩⟩)) (run_store_to (cur := Av.cs avZ) (vs := Av.cs ⟨0, enZ, ⟨za, zn, zc⟩⟩) (new := Av.cs ⟨0, enZ, ⟨za, zn, zc⟩⟩) (HF.out.box 5 _ _ _ rfl) (by kernel_rfl) Try.size56 (Nat.le_of_ble_eq_true (by kernel_rfl)) (Av.oneL _) (by kernel_rfl)) (by kernel_rfl) ?_
    try simp only [pA, pB, p1, p2, p3]
    have HK0 : Hid (Kept No wk18 (wk24.setRow gk22 (Av.cells ⟨0, enZ, ⟨za, zn, zc⟩⟩))) := HK0.out.newRow (by rw [HS0.out]; exact hx0_gk22) _
    have HK1 : Hid (Kept No wk19 (wk24.setRow gk22 (Av.cells ⟨0, enZ, ⟨za, zn, zc⟩⟩))) := HK1.out.newRow (by rw [HS1.out]; exact hx1_gk22) _
    have HF : Hid (Fr No w (wk24.setRow gk22 (Av.cells ⟨0, enZ, ⟨za, zn, zc⟩⟩)) [(gk1, 26, Bv.cells ⟨up, ⟨(some ⟨eb, eo, none⟩), en, ec⟩, ⟨la, ln, lc⟩⟩), (gk4, 26, Bv.cells ⟨up, ⟨(some ⟨g9, 0, none⟩), mn0, mc0⟩, ⟨la0, ln0, lc0⟩⟩), (gk7, 31, Cm.cells ⟨4, 3, 9, ⟨#[]⟩, 0, 0, 0, 0, 0⟩), (gk16, 34, En.cells ⟨e.nm, e.f0, e.f1, y9⟩), (gk20, 26, Bv.cells ⟨up + 1, ⟨xa, xn, xc⟩, ⟨ya, yn, yc⟩⟩), (gk22, 36, Av.cells ⟨0, enZ, ⟨za, zn, zc⟩⟩)]) := HF.out.set 5 rfl _
    generalize wk24.setRow gk22 (Av.cells ⟨0, enZ, ⟨za, zn, zc⟩⟩) = wk25 at HF HK0 HK1 ⊢
    refine tK (.int .i64 0) ?_
    try simp only [pA, pB, p1, p2, p3]
    refine WL.nil ?_
    try simp only [pA, pB, p1, p2, p3]
    have HE : Hid (OwE wk25 w.heap.size ⟨(some ⟨g9, 0, none⟩), mn0, mc0⟩ (⟨e.nm, e.f0, e.f1, y9⟩ :: t)) := HEs.out.no HK0.out
    have HL : Hid (OwL wk25 w.heap.size ⟨la0, ln0, lc0⟩ ls) := HLs.out.no HK0.out
    have HZ : Hid (OwE wk25 0 ⟨za, zn, zc⟩ (⟨e.nm, e.f0, e.f1, y9⟩ :: t)) := HZ6.out.no HK1.out
    clear HEs HLs HZ6 HK1 HS1 HK0 HS0 hx0_gk20 hx1_gk20 hx0_gk22 hx1_gk22
    have HEs : Hid (OwE wk25 w.heap.size ⟨(some ⟨g9, 0, none⟩), mn0, mc0⟩ (⟨e.nm, e.f0, e.f1, y9⟩ :: t)) := HE
    clear HE
    have HLs : Hid (OwL wk25 w.heap.size ⟨la0, ln0, lc0⟩ ls) := HL
    clear HL
    have HZs : Hid (OwE wk25 0 ⟨za, zn, zc⟩ (⟨e.nm, e.f0, e.f1, y9⟩ :: t)) := HZ
    clear HZ
    have HK0 : Hid (Kept No wk25 wk25) := Kept.refl _ _
    obtain ⟨s0, hs0⟩ : ∃ n, wk25.heap.size = n := ⟨_, rfl⟩
    have HS0 : Hid (wk25.heap.size = s0) := hs0
    clear hs0
    go_upto_region 12 with fail
    refine wp_region_held_drew (S := fun w' => Fr No w w' [(gk1, 26, Bv.cells ⟨up, ⟨(some ⟨eb, eo, none⟩), en, ec⟩, ⟨la, ln, lc⟩⟩), (gk4, 26, Bv.cells ⟨up, ⟨(some ⟨g9, 0, none⟩), mn0, mc0⟩, ⟨la0, ln0, lc0⟩⟩), (gk7, 31, Cm.cells ⟨4, 3, 9, ⟨#[]⟩, 0, 0, 0, 0, 0⟩), (gk16, 34, En.cells ⟨e.nm, e.f0, e.f1, y9⟩), (gk20, 26, Bv.cells ⟨up + 1, ⟨xa, xn, xc⟩, ⟨ya, yn, yc⟩⟩), (gk22, 36, Av.cells ⟨0, enZ, ⟨za, zn, zc⟩⟩)] ∧ RdE w' ⟨(some ⟨g9, 0, none⟩), mn0, mc0⟩ (⟨e.nm, e.f0, e.f1, y9⟩ :: t)) rfl ⟨HF.out.drew, HEs.out.rd.no (Kept.refl No _).drew⟩ (fun hH => ?_)
    have HK0 : Hid (Kept No wk25 (wk25.drew)) := HK0.out.no (Kept.refl No _).drew
    have HF : Hid (Fr No w (wk25.drew) [(gk1, 26, Bv.cells ⟨up, ⟨(some ⟨eb, eo, none⟩), en, ec⟩, ⟨la, ln, lc⟩⟩), (gk4, 26, Bv.cells ⟨up, ⟨(some ⟨g9, 0, none⟩), mn0, mc0⟩, ⟨la0, ln0, lc0⟩⟩), (gk7, 31, Cm.cells ⟨4, 3, 9, ⟨#[]⟩, 0, 0, 0, 0, 0⟩), (gk16, 34, En.cells ⟨e.nm, e.f0, e.f1, y9⟩), (gk20, 26, Bv.cells ⟨up + 1, ⟨xa, xn, xc⟩, ⟨ya, yn, yc⟩⟩), (gk22, 36, Av.cells ⟨0, enZ, ⟨za, zn, zc⟩⟩)]) := HF.out.drew
    generalize wk25.drew = wk26 at HF HK0 hH ⊢
    refine aT (i := 0) (oi := { dst := some 70, op := Op.move (Operand.tmp 8), type := 4, pos := "own.go:155", after := #[], guard := none }) (v := .bool true) (fun _ _ => by kernel_rfl) hH ?_
    try simp only [pA, pB, p1, p2, p3]
    refine aT (i := 1) (oi := { dst := some 71, op := Op.move (Operand.tmp 70), type := 4, pos := "own.go:155", after := #[{ on := 0, ground := Ground.data }], guard := none }) (v := .bool true) (fun _ _ => by kernel_rfl) hH ?_
    try simp only [pA, pB, p1, p2, p3]
    refine aT (i := 2) (oi := { dst := some 72, op := Op.load 34 (Operand.tmp 7), type := 34, pos := "own.go:155", after := #[{ on := 1, ground := Ground.guard }], guard := some (1, true) }) (v := .agg (En.cells ⟨e.nm, e.f0, e.f1, y9⟩)) (fun w' hw => exec_load 34 _ rfl ⟨gk16, 0, none⟩ (by kernel_rfl) (.agg (En.cells ⟨e.nm, e.f0, e.f1, y9⟩)) (run_load_part (cs := En.cs ⟨e.nm, e.f0, e.f1, y9⟩) (sub := En.cs ⟨e.nm, e.f0, e.f1, y9⟩) (hw.1.box 3 _ _ _ rfl) (Part.all _) Try.und54 rfl Try.size54)) hH ?_
    try simp only [pA, pB, p1, p2, p3]
    refine aT (i := 3) (oi := { dst := some 73, op := Op.fieldAddr 26 (Operand.tmp 5) 1, type := 0, pos := "own.go:155", after := #[{ on := 1, ground := Ground.guard }], guard := some (1, true) }) (v := .pointer (some ⟨gk4, 1, none⟩)) (fun _ _ => by kernel_rfl) hH ?_
    try simp only [pA, pB, p1, p2, p3]
    refine aT (i := 4) (oi := { dst := some 74, op := Op.load 23 (Operand.tmp 73), type := 23, pos := "own.go:155", after := #[{ on := 3, ground := Ground.data }, { on := 1, ground := Ground.guard }], guard := some (1, true) }) (v := .slice (some ⟨g9, 0, none⟩) mn0 mc0) (fun w' hw => exec_load 23 _ rfl ⟨gk4, 1, none⟩ (by kernel_rfl) (.slice (some ⟨g9, 0, none⟩) mn0 mc0) (load_one ((hw.1.box 1 _ _ _ rfl).cell 1 |>.trans (by kernel_rfl)) Try.und22 rfl)) hH ?_
    try simp only [pA, pB, p1, p2, p3]
    refine aT (i := 5) (oi := { dst := some 75, op := Op.indexAddr 23 (Operand.tmp 74) (Operand.const (Value.int IntKind.i64 0)), type := 0, pos := "own.go:155", after := #[{ on := 4, ground := Ground.data }, { on := 1, ground := Ground.guard }], guard := some (1, true) }) (v := .pointer (some ⟨g9, 0 + 0 * 4, none⟩)) (fun w' hw => exec_ixA 23 4 Try.und22e Try.size22e _ _ rfl g9 0 mn0 mc0 0 (by kernel_rfl) (by kernel_rfl) (by omega)) hH ?_
    try simp only [pA, pB, p1, p2, p3]
    refine aT (i := 6) (oi := { dst := some 76, op := Op.load 34 (Operand.tmp 75), type := 34, pos := "own.go:155", after := #[{ on := 5, ground := Ground.data }, { on := 1, ground := Ground.guard }], guard := some (1, true) }) (v := .agg (En.cells ⟨e.nm, e.f0, e.f1, y9⟩)) (fun w' hw => exec_load 34 _ rfl ⟨g9, 0 + 0 * 4, none⟩ (by kernel_rfl) (.agg (En.cells ⟨e.nm, e.f0, e.f1, y9⟩)) (load_E (hw.2.at0))) hH ?_
    try simp only [pA, pB, p1, p2, p3]
    refine aT (i := 7) (oi := { dst := some 77, op := Op.binOp BinOp.eql 34 (Operand.tmp 72) (Operand.tmp 76) 34, type := 4, pos := "own.go:155", after := #[{ on := 2, ground := Ground.data }, { on := 6, ground := Ground.data }, { on := 1, ground := Ground.guard }], guard := some (1, true) }) (v := .bool true) (fun w' hw => exec_bin .eql 34 _ _ _ rfl (.agg (En.cells ⟨e.nm, e.f0, e.f1, y9⟩)) (.agg (En.cells ⟨e.nm, e.f0, e.f1, y9⟩)) (.bool true) (by kernel_rfl) (by kernel_rfl) (by kernel_rfl) (by rw [eqE_eql, eqE_refl'])) hH ?_
    try simp only [pA, pB, p1, p2, p3]
    refine aT (i := 8) (oi := { dst := some 78, op := Op.pick (Operand.tmp 71) (Operand.tmp 77) (Operand.const (Value.bool false)), type := 4, pos := "own.go:155", after := #[{ on := 1, ground := Ground.data }, { on := 7, ground := Ground.data }], guard := none }) (v := .bool true) (fun _ _ => by kernel_rfl) hH ?_
    try simp only [pA, pB, p1, p2, p3]
    refine aT (i := 9) (oi := { dst := some 79, op := Op.move (Operand.tmp 78), type := 4, pos := "own.go:155", after := #[{ on := 8, ground := Ground.data }, { on := 1, ground := Ground.chain }], guard := none }) (v := .bool true) (fun _ _ => by kernel_rfl) hH ?_
    try simp only [pA, pB, p1, p2, p3]
    refine aT (i := 10) (oi := { dst := some 80, op := Op.fieldAddr 36 (Operand.tmp 10) 2, type := 0, pos := "own.go:155", after := #[{ on := 9, ground := Ground.guard }], guard := some (9, true) }) (v := .pointer (some ⟨gk22, 5, none⟩)) (fun _ _ => by kernel_rfl) hH ?_
    try simp only [pA, pB, p1, p2, p3]
    refine aT (i := 11) (oi := { dst := some 81, op := Op.load 23 (Operand.tmp 80), type := 23, pos := "own.go:155", after := #[{ on := 10, ground := Ground.data }, { on := 9, ground := Ground.guard }], guard := some (9, true) }) (v := .slice za zn zc) (fun w' hw => exec_load 23 _ rfl ⟨gk22, 5, none⟩ (by kernel_rfl) (.slice za zn zc) (load_one ((hw.1.box 5 _ _ _ rfl).cell 5 |>.trans (by kernel_rfl)) Try.und22 rfl)) hH ?_
    try simp only [pA, pB, p1, p2, p3]
    refine aT (i := 12) (oi := { dst := some 82, op := Op.fieldAddr 26 (Operand.tmp 5) 1, type := 0, pos := "own.go:155", after := #[{ on := 9, ground := Ground.guard }], guard := some (9, true) }) (v := .pointer (some ⟨gk4, 1, none⟩)) (fun _ _ => by kernel_rfl) hH ?_
    try simp only [pA, pB, p1, p2, p3]
    refine aT (i := 13) (oi := { dst := some 83, op := Op.load 23 (Operand.tmp 82), type := 23, pos := "own.go:155", after := #[{ on := 12, ground := Ground.data }, { on := 9, ground := Ground.guard }], guard := some (9, true) }) (v := .slice (some ⟨g9, 0, none⟩) mn0 mc0) (fun w' hw => exec_load 23 _ rfl ⟨gk4, 1, none⟩ (by kernel_rfl) (.slice (some ⟨g9, 0, none⟩) mn0 mc0) (load_one ((hw.1.box 1 _ _ _ rfl).cell 1 |>.trans (by kernel_rfl)) Try.und22 rfl)) hH ?_
    try simp only [pA, pB, p1, p2, p3]
    refine any_call (i := 14) (o := { dst := some 84, op := Op.call { callee := Callee.value (Operand.func 12), args := #[Operand.tmp 81, Operand.tmp 83], argTypes := #[23, 23] }, type := 4, pos := "own.go:155", after := #[{ on := 11, ground := Ground.data }, { on := 13, ground := Ground.data }, { on := 9, ground := Ground.chain }, { on := 9, ground := Ground.guard }], guard := some (9, true) }) rfl (by kernel_rfl) (by kernel_rfl) 12 #[.slice za zn zc, .slice (some ⟨g9, 0, none⟩) mn0 mc0] (by kernel_rfl) _ (sameE_any za zn zc (some ⟨g9, 0, none⟩) mn0 mc0 (⟨e.nm, e.f0, e.f1, y9⟩ :: t) (⟨e.nm, e.f0, e.f1, y9⟩ :: t) _ (HZs.out.no HK0.out).rd (HEs.out.no HK0.out).rd (by omega)) ?_
    rintro e wk27 ⟨rfl, hk⟩
    have hH2 : Fr No w wk27 [(gk1, 26, Bv.cells ⟨up, ⟨(some ⟨eb, eo, none⟩), en, ec⟩, ⟨la, ln, lc⟩⟩), (gk4, 26, Bv.cells ⟨up, ⟨(some ⟨g9, 0, none⟩), mn0, mc0⟩, ⟨la0, ln0, lc0⟩⟩), (gk7, 31, Cm.cells ⟨4, 3, 9, ⟨#[]⟩, 0, 0, 0, 0, 0⟩), (gk16, 34, En.cells ⟨e.nm, e.f0, e.f1, y9⟩), (gk20, 26, Bv.cells ⟨up + 1, ⟨xa, xn, xc⟩, ⟨ya, yn, yc⟩⟩), (gk22, 36, Av.cells ⟨0, enZ, ⟨za, zn, zc⟩⟩)] ∧ RdE wk27 ⟨(some ⟨g9, 0, none⟩), mn0, mc0⟩ (⟨e.nm, e.f0, e.f1, y9⟩ :: t) := ⟨hH.1.no hk, hH.2.no hk⟩
    have HK0 : Hid (Kept No wk25 (wk27)) := HK0.out.no hk
    have HF : Hid (Fr No w (wk27) [(gk1, 26, Bv.cells ⟨up, ⟨(some ⟨eb, eo, none⟩), en, ec⟩, ⟨la, ln, lc⟩⟩), (gk4, 26, Bv.cells ⟨up, ⟨(some ⟨g9, 0, none⟩), mn0, mc0⟩, ⟨la0, ln0, lc0⟩⟩), (gk7, 31, Cm.cells ⟨4, 3, 9, ⟨#[]⟩, 0, 0, 0, 0, 0⟩), (gk16, 34, En.cells ⟨e.nm, e.f0, e.f1, y9⟩), (gk20, 26, Bv.cells ⟨up + 1, ⟨xa, xn, xc⟩, ⟨ya, yn, yc⟩⟩), (gk22, 36, Av.cells ⟨0, enZ, ⟨za, zn, zc⟩⟩)]) := HF.out.no hk
    clear hk
    refine ⟨.bool true, by rw [sameE_iff.2 rfl], hH2, fun hH => ?_⟩
    clear hH2
    try simp only [pA, pB, p1, p2, p3]
    refine aT (i := 15) (oi := { dst := some 85, op := Op.pick (Operand.tmp 79) (Operand.tmp 84) (Operand.const (Value.bool false)), type := 4, pos := "own.go:155", after := #[{ on := 9, ground := Ground.data }, { on := 14, ground := Ground.data }], guard := none }) (v := .bool true) (fun _ _ => by kernel_rfl) hH ?_
    try simp only [pA, pB, p1, p2, p3]
    refine aT (i := 16) (oi := { dst := some 4, op := Op.assign (Operand.tmp 85), type := 4, pos := "own.go:155", after := #[{ on := 15, ground := Ground.data }, { on := 14, ground := Ground.chain }, { on := 0, ground := Ground.phase }, { on := 1, ground := Ground.phase }, { on := 2, ground := Ground.phase }, { on := 3, ground := Ground.phase }, { on := 4, ground := Ground.phase }, { on := 5, ground := Ground.phase }, { on := 6, ground := Ground.phase }, { on := 7, ground := Ground.phase }, { on := 8, ground := Ground.phase }, { on := 9, ground := Ground.phase }, { on := 10, ground := Ground.phase }, { on := 11, ground := Ground.phase }, { on := 12, ground := Ground.phase }, { on := 13, ground := Ground.phase }, { on := 14, ground := Ground.phase }, { on := 15, ground := Ground.phase }], guard := none }) (v := .bool true) (fun _ _ => by kernel_rfl) hH ?_
    try simp only [pA, pB, p1, p2, p3]
    refine wpAnyH_done (by kernel_rfl) ?_ _
    try simp only [pA, pB, p1, p2, p3]
    clear hH
    go_wp2
    rw [HC.out]
    exact ⟨rfl, HF.out.kept⟩
   ·skip
    clear hi
    refine step_run (i := 10) (o := { dst := some 7, op := Op.alloc 34, type := 0, pos := "own.go:153", after := #[], guard := none }) rfl (by kernel_rfl) (exec_alloc 34 rfl (En.cells enZ) zero54) (Fr.front (l1 := [(gk1, 26, Bv.cells ⟨up, ⟨(some ⟨eb, eo, none⟩), en, ec⟩, ⟨la, ln, lc⟩⟩), (gk4, 26, Bv.cells ⟨up, ⟨(some ⟨g9, 0, none⟩), mn0, mc0⟩, ⟨la0, ln0, lc0⟩⟩), (gk7, 31, Cm.cells ⟨4, 3, 9, ⟨#[]⟩, 0, 0, 0, 0, 0⟩)]) (l2 := [_]) (hH.alloc _ _)) (fun hH => ?_)
    try simp only [pA, pB, p1, p2, p3]
    have hx0_gk28 : s0 ≤ wk14.heap.size := by rw [← HS0.out]; exact HK0.out.size
    have HK0 : Hid (Kept No wk13 (wk14.alloc (.cells (En.cells enZ) 34))) := HK0.out.no ((Kept.refl No _).alloc _)
    have HF : Hid (Fr No w (wk14.alloc (.cells (En.cells enZ) 34)) [(gk1, 26, Bv.cells ⟨up, ⟨(some ⟨eb, eo, none⟩), en, ec⟩, ⟨la, ln, lc⟩⟩), (gk4, 26, Bv.cells ⟨up, ⟨(some ⟨g9, 0, none⟩), mn0, mc0⟩, ⟨la0, ln0, lc0⟩⟩), (gk7, 31, Cm.cells ⟨4, 3, 9, ⟨#[]⟩, 0, 0, 0, 0, 0⟩), (wk14.heap.size, 34, En.cells enZ)]) := HF.out.alloc _ _
    generalize wk14.alloc (.cells (En.cells enZ) 34) = wk29 at HF HK0 hH ⊢
    generalize wk14.heap.size = gk28 at HF hx0_gk28 ⊢
    refine any_call (i := 6) (o := { dst := some 59, op := Op.call { callee := Callee.value (Operand.func 26), args := #[Operand.tmp 53, Operand.tmp 58], argTypes := #[26, 9] }, type := 69, pos := "own.go:153", after := #[{ on := 0, ground := Ground.data }, { on := 5, ground := Ground.data }], guard := none }) rfl (by kernel_rfl) (by kernel_rfl) 26 #[.agg (Bv.cells ⟨up, ⟨(some ⟨g9, 0, none⟩), mn0, mc0⟩, ⟨la0, ln0, lc0⟩⟩), .string e.nm] (by kernel_rfl) _ (find_moved up (some ⟨g9, 0, none⟩) mn0 mc0 ⟨la0, ln0, lc0⟩ e t y9 _ HR.out (HEs.out.no HK0.out).rd (by omega)) ?_
    rintro e wk30 ⟨rfl, hk⟩
    have hH2 : Fr No w wk30 [(gk1, 26, Bv.cells ⟨up, ⟨(some ⟨eb, eo, none⟩), en, ec⟩, ⟨la, ln, lc⟩⟩), (gk4, 26, Bv.cells ⟨up, ⟨(some ⟨g9, 0, none⟩), mn0, mc0⟩, ⟨la0, ln0, lc0⟩⟩), (gk7, 31, Cm.cells ⟨4, 3, 9, ⟨#[]⟩, 0, 0, 0, 0, 0⟩)] := hH.no hk
    have HK0 : Hid (Kept No wk13 (wk30)) := HK0.out.no hk
    have HF : Hid (Fr No w (wk30) [(gk1, 26, Bv.cells ⟨up, ⟨(some ⟨eb, eo, none⟩), en, ec⟩, ⟨la, ln, lc⟩⟩), (gk4, 26, Bv.cells ⟨up, ⟨(some ⟨g9, 0, none⟩), mn0, mc0⟩, ⟨la0, ln0, lc0⟩⟩), (gk7, 31, Cm.cells ⟨4, 3, 9, ⟨#[]⟩, 0, 0, 0, 0, 0⟩), (gk28, 34, En.cells enZ)]) := HF.out.no hk
    clear hk
    refine ⟨.tuple #[.agg (En.cells ⟨e.nm, e.f0, e.f1, y9⟩), .bool true], rfl, hH2, fun hH => ?_⟩
    clear hH2
    try simp only [pA, pB, p1, p2, p3]
    refine aT (i := 7) (oi := { dst := some 52, op := Op.move (Operand.tmp 59), type := 69, pos := "own.go:153", after := #[{ on := 6, ground := Ground.data }], guard := none }) (v := .tuple #[.agg (En.cells ⟨e.nm, e.f0, e.f1, y9⟩), .bool true]) (fun _ _ => by kernel_rfl) hH ?_
    try simp only [pA, pB, p1, p2, p3]
    refine aT (i := 8) (oi := { dst := some 60, op := Op.extract (Operand.tmp 52) 0, type := 34, pos := "own.go:153", after := #[{ on := 7, ground := Ground.data }], guard := none }) (v := .agg (En.cells ⟨e.nm, e.f0, e.f1, y9⟩)) (fun _ _ => by kernel_rfl) hH ?_
    try simp only [pA, pB, p1, p2, p3]
    refine aT (i := 9) (oi := { dst := some 61, op := Op.extract (Operand.tmp 52) 1, type := 4, pos := "own.go:153", after := #[{ on := 7, ground := Ground.data }, { on := 11, ground := Ground.gcOnly Departure.lateStores }], guard := none }) (v := .bool true) (fun _ _ => by kernel_rfl) hH ?_
    try simp only [pA, pB, p1, p2, p3]
    refine any_store (i := 11) (o := { dst := none, op := Op.store 34 (Operand.tmp 7) (Operand.tmp 60), type := 0, pos := "own.go:153", after := #[{ on := 10, ground := Ground.data }, { on := 8, ground := Ground.data }, { on := 6, ground := Ground.chain }, { on := 0, ground := Ground.phase }, { on := 1, ground := Ground.phase }, { on := 2, ground := Ground.phase }, { on := 3, ground := Ground.phase }, { on := 4, ground := Ground.phase }, { on := 5, ground := Ground.phase }, { on := 6, ground := Ground.phase }, { on := 7, ground := Ground.phase }, { on := 8, ground := Ground.phase }, { on := 9, ground := Ground.textOnly Departure.lateStores }, { on := 10, ground := Ground.phase }], guard := none }) (w' := wk30.setRow gk28 (En.cells ⟨e.nm, e.f0, e.f1, y9⟩)) rfl (by kernel_rfl) (by kernel_rfl) 34 _ _ rfl ⟨gk28, 0, none⟩ (.agg (En.cells ⟨e.nm, e.f0, e.f1, y9⟩)) (by kernel_rfl) (by kernel_rfl) (run_store_to (cur := En.cs enZ) (vs := En.cs ⟨e.nm, e.f0, e.f1, y9⟩) (new := En.cs ⟨e.nm, e.f0, e.f1, y9⟩) (HF.out.box 3 _ _ _ rfl) (by kernel_rfl) Try.size54 (Nat.le_of_ble_eq_true (by kernel_rfl)) (En.oneL _) (by kernel_rfl)) (Fr.front (l1 := [(gk1, 26, Bv.cells ⟨up, ⟨(some ⟨eb, eo, none⟩), en, ec⟩, ⟨la, ln, lc⟩⟩), (gk4, 26, Bv.cells ⟨up, ⟨(some ⟨g9, 0, none⟩), mn0, mc0⟩, ⟨la0, ln0, lc0⟩⟩), (gk7, 31, Cm.cells ⟨4, 3, 9, ⟨#[]⟩, 0, 0, 0, 0, 0⟩)]) (l2 := [(gk28, 34, En.cells ⟨e.nm, e.f0, e.f1, y9⟩)]) (HF.out.set 3 rfl _)) (fun hH => ?_)
    try simp only [pA, pB, p1, p2, p3]
    have HK0 : Hid (Kept No wk13 (wk30.setRow gk28 (En.cells ⟨e.nm, e.f0, e.f1, y9⟩))) := HK0.out.newRow (by rw [HS0.out]; exact hx0_gk28) _
    have HF : Hid (Fr No w (wk30.setRow gk28 (En.cells ⟨e.nm, e.f0, e.f1, y9⟩)) [(gk1, 26, Bv.cells ⟨up, ⟨(some ⟨eb, eo, none⟩), en, ec⟩, ⟨la, ln, lc⟩⟩), (gk4, 26, Bv.cells ⟨up, ⟨(some ⟨g9, 0, none⟩), mn0, mc0⟩, ⟨la0, ln0, lc0⟩⟩), (gk7, 31, Cm.cells ⟨4, 3, 9, ⟨#[]⟩, 0, 0, 0, 0, 0⟩), (gk28, 34, En.cells ⟨e.nm, e.f0, e.f1, y9⟩)]) := HF.out.set 3 rfl _
    generalize wk30.setRow gk28 (En.cells ⟨e.nm, e.f0, e.f1, y9⟩) = wk31 at HF HK0 hH ⊢
    refine aT (i := 12) (oi := { dst := some 8, op := Op.assign (Operand.tmp 61), type := 4, pos := "own.go:153", after := #[{ on := 9, ground := Ground.data }, { on := 11, ground := Ground.chain }, { on := 0, ground := Ground.phase }, { on := 1, ground := Ground.phase }, { on := 2, ground := Ground.phase }, { on := 3, ground := Ground.phase }, { on := 4, ground := Ground.phase }, { on := 5, ground := Ground.phase }, { on := 6, ground := Ground.phase }, { on := 7, ground := Ground.phase }, { on := 8, ground := Ground.phase }, { on := 9, ground := Ground.phase }, { on := 10, ground := Ground.phase }, { on := 11, ground := Ground.phase }], guard := none }) (v := .bool true) (fun _ _ => by kernel_rfl) hH ?_
    try simp only [pA, pB, p1, p2, p3]
    refine wpAnyH_done (by kernel_rfl) ?_ _
    try simp only [pA, pB, p1, p2, p3]
    clear hH
    have HE : Hid (OwE wk31 w.heap.size ⟨(some ⟨g9, 0, none⟩), mn0, mc0⟩ (⟨e.nm, e.f0, e.f1, y9⟩ :: t)) := HEs.out.no HK0.out
    have HL : Hid (OwL wk31 w.heap.size ⟨la0, ln0, lc0⟩ ls) := HLs.out.no HK0.out
    clear HEs HLs HK0 HS0 hx0_gk28
    have HEs : Hid (OwE wk31 w.heap.size ⟨(some ⟨g9, 0, none⟩), mn0, mc0⟩ (⟨e.nm, e.f0, e.f1, y9⟩ :: t)) := HE
    clear HE
    have HLs : Hid (OwL wk31 w.heap.size ⟨la0, ln0, lc0⟩ ls) := HL
    clear HL
    have HK0 : Hid (Kept No wk31 wk31) := Kept.refl _ _
    obtain ⟨s0, hs0⟩ : ∃ n, wk31.heap.size = n := ⟨_, rfl⟩
    have HS0 : Hid (wk31.heap.size = s0) := hs0
    clear hs0
    go_upto_region 11 with fail
    refine WL.start ?_
    refine tW (.agg (Bv.cells ⟨up, ⟨(some ⟨g9, 0, none⟩), mn0, mc0⟩, ⟨la0, ln0, lc0⟩⟩)) (exec_load 26 _ rfl ⟨gk4, 0, none⟩ (by kernel_rfl) (.agg (Bv.cells ⟨up, ⟨(some ⟨g9, 0, none⟩), mn0, mc0⟩, ⟨la0, ln0, lc0⟩⟩)) (run_load_part (cs := Bv.cs ⟨up, ⟨(some ⟨g9, 0, none⟩), mn0, mc0⟩, ⟨la0, ln0, lc0⟩⟩) (sub := Bv.cs ⟨up, ⟨(some ⟨g9, 0, none⟩), mn0, mc0⟩, ⟨la0, ln0, lc0⟩⟩) (HF.out.box 1 _ _ _ rfl) (Part.all _) Try.und25 rfl Try.size25)) ?_
    try simp only [pA, pB, p1, p2, p3]
    refine tW (.agg (Cm.cells ⟨4, 3, 9, ⟨#[]⟩, 0, 0, 0, 0, 0⟩)) (exec_load 31 _ rfl ⟨gk7, 0, none⟩ (by kernel_rfl) (.agg (Cm.cells ⟨4, 3, 9, ⟨#[]⟩, 0, 0, 0, 0, 0⟩)) (run_load_part (cs := Cm.cs ⟨4, 3, 9, ⟨#[]⟩, 0, 0, 0, 0, 0⟩) (sub := Cm.cs ⟨4, 3, 9, ⟨#[]⟩, 0, 0, 0, 0, 0⟩) (HF.out.box 2 _ _ _ rfl) (Part.all _) Try.und29 rfl Try.size29)) ?_
    try simp only [pA, pB, p1, p2, p3]
    refine tK (.int .i64 room) ?_
    try simp only [pA, pB, p1, p2, p3]
    refine wp_callW 6 #[.agg (Bv.cells ⟨up, ⟨(some ⟨g9, 0, none⟩), mn0, mc0⟩, ⟨la0, ln0, lc0⟩⟩), .agg (Cm.cells ⟨4, 3, 9, ⟨#[]⟩, 0, 0, 0, 0, 0⟩), .int .i64 room] (by kernel_rfl) _ (apply_list up (some ⟨g9, 0, none⟩) mn0 mc0 la0 ln0 lc0 (⟨e.nm, e.f0, e.f1, y9⟩ :: t) ls room _ hu hu2 (HEs.out.no HK0.out).rd (HLs.out.no HK0.out).rd (by omega) (by omega)) (by kernel_rfl) ?_
    rintro e9 wk32 ⟨⟨xa, xn, xc⟩, ⟨ya, yn, yc⟩, ⟨za, zn, zc⟩, rfl, hse, hsl, hsx, hap, hk⟩
    have HK0 : Hid (Kept No wk31 (wk32)) := HK0.out.no hk
    have HF : Hid (Fr No w (wk32) [(gk1, 26, Bv.cells ⟨up, ⟨(some ⟨eb, eo, none⟩), en, ec⟩, ⟨la, ln, lc⟩⟩), (gk4, 26, Bv.cells ⟨up, ⟨(some ⟨g9, 0, none⟩), mn0, mc0⟩, ⟨la0, ln0, lc0⟩⟩), (gk7, 31, Cm.cells ⟨4, 3, 9, ⟨#[]⟩, 0, 0, 0, 0, 0⟩), (gk28, 34, En.cells ⟨e.nm, e.f0, e.f1, y9⟩)]) := HF.out.no hk
    have HZ6 : Hid (OwE wk32 0 ⟨za, zn, zc⟩ (⟨e.nm, e.f0, e.f1, y9⟩ :: t)) := hsx.lower (Nat.zero_le _)
    have hzn : t.length + 1 = zn := hsx.len
    clear hse hsl hsx hap hk
    have HK1 : Hid (Kept No wk32 wk32) := Kept.refl _ _
    obtain ⟨s1, hs1⟩ : ∃ n, wk32.heap.size = n := ⟨_, rfl⟩
    have HS1 : Hid (wk32.heap.size = s1) := hs1
    clear hs1
    refine ⟨.tuple #[.agg (Bv.cells ⟨up + 1, ⟨xa, xn, xc⟩, ⟨ya, yn, yc⟩⟩), .agg (Av.cells ⟨0, enZ, ⟨za, zn, zc⟩⟩), .int .i64 0], rfl, ?_⟩
    try simp only [pA, pB, p1, p2, p3]
    refine tK (.tuple #[.agg (Bv.cells ⟨up + 1, ⟨xa, xn, xc⟩, ⟨ya, yn, yc⟩⟩), .agg (Av.cells ⟨0, enZ, ⟨za, zn, zc⟩⟩), .int .i64 0]) ?_
    try simp only [pA, pB, p1, p2, p3]
    refine tK (.agg (Bv.cells ⟨up + 1, ⟨xa, xn, xc⟩, ⟨ya, yn, yc⟩⟩)) ?_
    try simp only [pA, pB, p1, p2, p3]
    refine tK (.agg (Av.cells ⟨0, enZ, ⟨za, zn, zc⟩⟩)) ?_
    try simp only [pA, pB, p1, p2, p3]
    refine tK (.int .i64 0) ?_
    try simp only [pA, pB, p1, p2, p3]
    refine wp_runW (.pointer (some ⟨wk32.heap.size, 0, none⟩)) (wk32.alloc (.cells (Bv.cells bvZ) 26)) (exec_alloc 26 rfl (Bv.cells bvZ) zero25) (by kernel_rfl) ?_
    try simp only [pA, pB, p1, p2, p3]
    have hx0_gk33 : s0 ≤ wk32.heap.size := by rw [← HS0.out]; exact HK0.out.size
    have hx1_gk33 : s1 ≤ wk32.heap.size := by rw [← HS1.out]; exact HK1.out.size
    have HK0 : Hid (Kept No wk31 (wk32.alloc (.cells (Bv.cells bvZ) 26))) := HK0.out.no ((Kept.refl No _).alloc _)
    have HK1 : Hid (Kept No wk32 (wk32.alloc (.cells (Bv.cells bvZ) 26))) := HK1.out.no ((Kept.refl No _).alloc _)
    have HF : Hid (Fr No w (wk32.alloc (.cells (Bv.cells bvZ) 26)) [(gk1, 26, Bv.cells ⟨up, ⟨(some ⟨eb, eo, none⟩), en, ec⟩, ⟨la, ln, lc⟩⟩), (gk4, 26, Bv.cells ⟨up, ⟨(some ⟨g9, 0, none⟩), mn0, mc0⟩, ⟨la0, ln0, lc0⟩⟩), (gk7, 31, Cm.cells ⟨4, 3, 9, ⟨#[]⟩, 0, 0, 0, 0, 0⟩), (gk28, 34, En.cells ⟨e.nm, e.f0, e.f1, y9⟩), (wk32.heap.size, 26, Bv.cells bvZ)]) := HF.out.alloc _ _
    generalize wk32.alloc (.cells (Bv.cells bvZ) 26) = wk34 at HF HK0 HK1 ⊢
    generalize wk32.heap.size = gk33 at HF hx0_gk33 hx1_gk33 ⊢
    refine wp_runW (.pointer (some ⟨wk34.heap.size, 0, none⟩)) (wk34.alloc (.cells (Av.cells avZ) 36)) (exec_alloc 36 rfl (Av.cells avZ) zero56) (by kernel_rfl) ?_
    try simp only [pA, pB, p1, p2, p3]
    have hx0_gk35 : s0 ≤ wk34.heap.size := by rw [← HS0.out]; exact HK0.out.size
    have hx1_gk35 : s1 ≤ wk34.heap.size := by rw [← HS1.out]; exact HK1.out.size
    have HK0 : Hid (Kept No wk31 (wk34.alloc (.cells (Av.cells avZ) 36))) := HK0.out.no ((Kept.refl No _).alloc _)
    have HK1 : Hid (Kept No wk32 (wk34.alloc (.cells (Av.cells avZ) 36))) := HK1.out.no ((Kept.refl No _).alloc _)
    have HF : Hid (Fr No w (wk34.alloc (.cells (Av.cells avZ) 36)) [(gk1, 26, Bv.cells ⟨up, ⟨(some ⟨eb, eo, none⟩), en, ec⟩, ⟨la, ln, lc⟩⟩), (gk4, 26, Bv.cells ⟨up, ⟨(some ⟨g9, 0, none⟩), mn0, mc0⟩, ⟨la0, ln0, lc0⟩⟩), (gk7, 31, Cm.cells ⟨4, 3, 9, ⟨#[]⟩, 0, 0, 0, 0, 0⟩), (gk28, 34, En.cells ⟨e.nm, e.f0, e.f1, y9⟩), (gk33, 26, Bv.cells bvZ), (wk34.heap.size, 36, Av.cells avZ)]) := HF.out.alloc _ _
    generalize wk34.alloc (.cells (Av.cells avZ) 36) = wk36 at HF HK0 HK1 ⊢
    generalize wk34.heap.size = gk35 at HF hx0_gk35 hx1_gk35 ⊢
    refine wp_storeW 26 _ _ rfl ⟨gk33, 0, none⟩ (.agg (Bv.cells ⟨up + 1, ⟨xa, xn, xc⟩, ⟨ya, yn, yc⟩⟩)) (by kernel_rfl) (by kernel_rfl) (wk36.setRow gk33 (Bv.cells ⟨up + 1, ⟨xa, xn, xc⟩, ⟨ya, yn, yc⟩⟩)) (run_store_to (cur := Bv.cs bvZ) (vs := Bv.cs ⟨up + 1, ⟨xa, xn, xc⟩, ⟨ya, yn, yc⟩⟩) (new := Bv.cs ⟨up + 1, ⟨xa, xn, xc⟩, ⟨ya, yn, yc⟩⟩) (HF.out.box 4 _ _ _ rfl) (by kernel_rfl) Try.size25 (Nat.le_of_ble_eq_true (by kernel_rfl)) (Bv.oneL _) (by kernel_rfl)) (by kernel_rfl) ?_
    try simp only [pA, pB, p1, p2, p3]
    have HK0 : Hid (Kept No wk31 (wk36.setRow gk33 (Bv.cells ⟨up + 1, ⟨xa, xn, xc⟩, ⟨ya, yn, yc⟩⟩))) := HK0.out.newRow (by rw [HS0.out]; exact hx0_gk33) _
    have HK1 : Hid (Kept No wk32 (wk36.setRow gk33 (Bv.cells ⟨up + 1, ⟨xa, xn, xc⟩, ⟨ya, yn, yc⟩⟩))) := HK1.out.newRow (by rw [HS1.out]; exact hx1_gk33) _
    have HF : Hid (Fr No w (wk36.setRow gk33 (Bv.cells ⟨up + 1, ⟨xa, xn, xc⟩, ⟨ya, yn, yc⟩⟩)) [(gk1, 26, Bv.cells ⟨up, ⟨(some ⟨eb, eo, none⟩), en, ec⟩, ⟨la, ln, lc⟩⟩), (gk4, 26, Bv.cells ⟨up, ⟨(some ⟨g9, 0, none⟩), mn0, mc0⟩, ⟨la0, ln0, lc0⟩⟩), (gk7, 31, Cm.cells ⟨4, 3, 9, ⟨#[]⟩, 0, 0, 0, 0, 0⟩), (gk28, 34, En.cells ⟨e.nm, e.f0, e.f1, y9⟩), (gk33, 26, Bv.cells ⟨up + 1, ⟨xa, xn, xc⟩, ⟨ya, yn, yc⟩⟩), (gk35, 36, Av.cells avZ)]) := HF.out.set 4 rfl _
    generalize wk36.setRow gk33 (Bv.cells ⟨up + 1, ⟨xa, xn, xc⟩, ⟨ya, yn, yc⟩⟩) = wk37 at HF HK0 HK1 ⊢
    refine wp_storeW 36 _ _ rfl ⟨gk35, 0, none⟩ (.agg (Av.cells ⟨0, enZ, ⟨za, zn, zc⟩⟩)) (by kernel_rfl) (by kernel_rfl) (wk37.setRow gk35 (Av.cells ⟨0, enZ, ⟨za, zn, zc⟩⟩)) (run_store_to (cur := Av.cs avZ) (vs := Av.cs ⟨0, enZ, ⟨za, zn, zc⟩⟩) (new := Av.cs ⟨0, enZ, ⟨za, zn, zc⟩⟩) (HF.out.box 5 _ _ _ rfl) (by kernel_rfl) Try.size56 (Nat.le_of_ble_eq_true (by kernel_rfl)) (Av.oneL _) (by kernel_rfl)) (by kernel_rfl) ?_
    try simp only [pA, pB, p1, p2, p3]
    have HK0 : Hid (Kept No wk31 (wk37.setRow gk35 (Av.cells ⟨0, enZ, ⟨za, zn, zc⟩⟩))) := HK0.out.newRow (by rw [HS0.out]; exact hx0_gk35) _
    have HK1 : Hid (Kept No wk32 (wk37.setRow gk35 (Av.cells ⟨0, enZ, ⟨za, zn, zc⟩⟩))) := HK1.out.newRow (by rw [HS1.out]; exact hx1_gk35) _
    have HF : Hid (Fr No w (wk37.setRow gk35 (Av.cells ⟨0, enZ, ⟨za, zn, zc⟩⟩)) [(gk1, 26, Bv.cells ⟨up, ⟨(some ⟨eb, eo, none⟩), en, ec⟩, ⟨la, ln, lc⟩⟩), (gk4, 26, Bv.cells ⟨up, ⟨(some ⟨g9, 0, none⟩), mn0, mc0⟩, ⟨la0, ln0, lc0⟩⟩), (gk7, 31, Cm.cells ⟨4, 3, 9, ⟨#[]⟩, 0, 0, 0, 0, 0⟩), (gk28, 34, En.cells ⟨e.nm, e.f0, e.f1, y9⟩), (gk33, 26, Bv.cells ⟨up + 1, ⟨xa, xn, xc⟩, ⟨ya, yn, yc⟩⟩), (gk35, 36, Av.cells ⟨0, enZ, ⟨za, zn, zc⟩⟩)]) := HF.out.set 5 rfl _
    generalize wk37.setRow gk35 (Av.cells ⟨0, enZ, ⟨za, zn, zc⟩⟩) = wk38 at HF HK0 HK1 ⊢
    refine tK (.int .i64 0) ?_
    try simp only [pA, pB, p1, p2, p3]
    refine WL.nil ?_
    try simp only [pA, pB, p1, p2, p3]
    have HE : Hid (OwE wk38 w.heap.size ⟨(some ⟨g9, 0, none⟩), mn0, mc0⟩ (⟨e.nm, e.f0, e.f1, y9⟩ :: t)) := HEs.out.no HK0.out
    have HL : Hid (OwL wk38 w.heap.size ⟨la0, ln0, lc0⟩ ls) := HLs.out.no HK0.out
    have HZ : Hid (OwE wk38 0 ⟨za, zn, zc⟩ (⟨e.nm, e.f0, e.f1, y9⟩ :: t)) := HZ6.out.no HK1.out
    clear HEs HLs HZ6 HK1 HS1 HK0 HS0 hx0_gk33 hx1_gk33 hx0_gk35 hx1_gk35
    have HEs : Hid (OwE wk38 w.heap.size ⟨(some ⟨g9, 0, none⟩), mn0, mc0⟩ (⟨e.nm, e.f0, e.f1, y9⟩ :: t)) := HE
    clear HE
    have HLs : Hid (OwL wk38 w.heap.size ⟨la0, ln0, lc0⟩ ls) := HL
    clear HL
    have HZs : Hid (OwE wk38 0 ⟨za, zn, zc⟩ (⟨e.nm, e.f0, e.f1, y9⟩ :: t)) := HZ
    clear HZ
    have HK0 : Hid (Kept No wk38 wk38) := Kept.refl _ _
    obtain ⟨s0, hs0⟩ : ∃ n, wk38.heap.size = n := ⟨_, rfl⟩
    have HS0 : Hid (wk38.heap.size = s0) := hs0
    clear hs0
    go_upto_region 12 with fail
    refine wp_region_held_drew (S := fun w' => Fr No w w' [(gk1, 26, Bv.cells ⟨up, ⟨(some ⟨eb, eo, none⟩), en, ec⟩, ⟨la, ln, lc⟩⟩), (gk4, 26, Bv.cells ⟨up, ⟨(some ⟨g9, 0, none⟩), mn0, mc0⟩, ⟨la0, ln0, lc0⟩⟩), (gk7, 31, Cm.cells ⟨4, 3, 9, ⟨#[]⟩, 0, 0, 0, 0, 0⟩), (gk28, 34, En.cells ⟨e.nm, e.f0, e.f1, y9⟩), (gk33, 26, Bv.cells ⟨up + 1, ⟨xa, xn, xc⟩, ⟨ya, yn, yc⟩⟩), (gk35, 36, Av.cells ⟨0, enZ, ⟨za, zn, zc⟩⟩)] ∧ RdE w' ⟨(some ⟨g9, 0, none⟩), mn0, mc0⟩ (⟨e.nm, e.f0, e.f1, y9⟩ :: t)) rfl ⟨HF.out.drew, HEs.out.rd.no (Kept.refl No _).drew⟩ (fun hH => ?_)
    have HK0 : Hid (Kept No wk38 (wk38.drew)) := HK0.out.no (Kept.refl No _).drew
    have HF : Hid (Fr No w (wk38.drew) [(gk1, 26, Bv.cells ⟨up, ⟨(some ⟨eb, eo, none⟩), en, ec⟩, ⟨la, ln, lc⟩⟩), (gk4, 26, Bv.cells ⟨up, ⟨(some ⟨g9, 0, none⟩), mn0, mc0⟩, ⟨la0, ln0, lc0⟩⟩), (gk7, 31, Cm.cells ⟨4, 3, 9, ⟨#[]⟩, 0, 0, 0, 0, 0⟩), (gk28, 34, En.cells ⟨e.nm, e.f0, e.f1, y9⟩), (gk33, 26, Bv.cells ⟨up + 1, ⟨xa, xn, xc⟩, ⟨ya, yn, yc⟩⟩), (gk35, 36, Av.cells ⟨0, enZ, ⟨za, zn, zc⟩⟩)]) := HF.out.drew
    generalize wk38.drew = wk39 at HF HK0 hH ⊢
    refine aT (i := 0) (oi := { dst := some 70, op := Op.move (Operand.tmp 8), type := 4, pos := "own.go:155", after := #[], guard := none }) (v := .bool true) (fun _ _ => by kernel_rfl) hH ?_
    try simp only [pA, pB, p1, p2, p3]
    refine aT (i := 1) (oi := { dst := some 71, op := Op.move (Operand.tmp 70), type := 4, pos := "own.go:155", after := #[{ on := 0, ground := Ground.data }], guard := none }) (v := .bool true) (fun _ _ => by kernel_rfl) hH ?_
    try simp only [pA, pB, p1, p2, p3]
    refine aT (i := 2) (oi := { dst := some 72, op := Op.load 34 (Operand.tmp 7), type := 34, pos := "own.go:155", after := #[{ on := 1, ground := Ground.guard }], guard := some (1, true) }) (v := .agg (En.cells ⟨e.nm, e.f0, e.f1, y9⟩)) (fun w' hw => exec_load 34 _ rfl ⟨gk28, 0, none⟩ (by kernel_rfl) (.agg (En.cells ⟨e.nm, e.f0, e.f1, y9⟩)) (run_load_part (cs := En.cs ⟨e.nm, e.f0, e.f1, y9⟩) (sub := En.cs ⟨e.nm, e.f0, e.f1, y9⟩) (hw.1.box 3 _ _ _ rfl) (Part.all _) Try.und54 rfl Try.size54)) hH ?_
    try simp only [pA, pB, p1, p2, p3]
    refine aT (i := 3) (oi := { dst := some 73, op := Op.fieldAddr 26 (Operand.tmp 5) 1, type := 0, pos := "own.go:155", after := #[{ on := 1, ground := Ground.guard }], guard := some (1, true) }) (v := .pointer (some ⟨gk4, 1, none⟩)) (fun _ _ => by kernel_rfl) hH ?_
    try simp only [pA, pB, p1, p2, p3]
    refine aT (i := 4) (oi := { dst := some 74, op := Op.load 23 (Operand.tmp 73), type := 23, pos := "own.go:155", after := #[{ on := 3, ground := Ground.data }, { on := 1, ground := Ground.guard }], guard := some (1, true) }) (v := .slice (some ⟨g9, 0, none⟩) mn0 mc0) (fun w' hw => exec_load 23 _ rfl ⟨gk4, 1, none⟩ (by kernel_rfl) (.slice (some ⟨g9, 0, none⟩) mn0 mc0) (load_one ((hw.1.box 1 _ _ _ rfl).cell 1 |>.trans (by kernel_rfl)) Try.und22 rfl)) hH ?_
    try simp only [pA, pB, p1, p2, p3]
    refine aT (i := 5) (oi := { dst := some 75, op := Op.indexAddr 23 (Operand.tmp 74) (Operand.const (Value.int IntKind.i64 0)), type := 0, pos := "own.go:155", after := #[{ on := 4, ground := Ground.data }, { on := 1, ground := Ground.guard }], guard := some (1, true) }) (v := .pointer (some ⟨g9, 0 + 0 * 4, none⟩)) (fun w' hw => exec_ixA 23 4 Try.und22e Try.size22e _ _ rfl g9 0 mn0 mc0 0 (by kernel_rfl) (by kernel_rfl) (by omega)) hH ?_
    try simp only [pA, pB, p1, p2, p3]
    refine aT (i := 6) (oi := { dst := some 76, op := Op.load 34 (Operand.tmp 75), type := 34, pos := "own.go:155", after := #[{ on := 5, ground := Ground.data }, { on := 1, ground := Ground.guard }], guard := some (1, true) }) (v := .agg (En.cells ⟨e.nm, e.f0, e.f1, y9⟩)) (fun w' hw => exec_load 34 _ rfl ⟨g9, 0 + 0 * 4, none⟩ (by kernel_rfl) (.agg (En.cells ⟨e.nm, e.f0, e.f1, y9⟩)) (load_E (hw.2.at0))) hH ?_
    try simp only [pA, pB, p1, p2, p3]
    refine aT (i := 7) (oi := { dst := some 77, op := Op.binOp BinOp.eql 34 (Operand.tmp 72) (Operand.tmp 76) 34, type := 4, pos := "own.go:155", after := #[{ on := 2, ground := Ground.data }, { on := 6, ground := Ground.data }, { on := 1, ground := Ground.guard }], guard := some (1, true) }) (v := .bool true) (fun w' hw => exec_bin .eql 34 _ _ _ rfl (.agg (En.cells ⟨e.nm, e.f0, e.f1, y9⟩)) (.agg (En.cells ⟨e.nm, e.f0, e.f1, y9⟩)) (.bool true) (by kernel_rfl) (by kernel_rfl) (by kernel_rfl) (by rw [eqE_eql, eqE_refl'])) hH ?_
    try simp only [pA, pB, p1, p2, p3]
    refine aT (i := 8) (oi := { dst := some 78, op := Op.pick (Operand.tmp 71) (Operand.tmp 77) (Operand.const (Value.bool false)), type := 4, pos := "own.go:155", after := #[{ on := 1, ground := Ground.data }, { on := 7, ground := Ground.data }], guard := none }) (v := .bool true) (fun _ _ => by kernel_rfl) hH ?_
    try simp only [pA, pB, p1, p2, p3]
    refine aT (i := 9) (oi := { dst := some 79, op := Op.move (Operand.tmp 78), type := 4, pos := "own.go:155", after := #[{ on := 8, ground := Ground.data }, { on := 1, ground := Ground.chain }], guard := none }) (v := .bool true) (fun _ _ => by kernel_rfl) hH ?_
    try simp only [pA, pB, p1, p2, p3]
    refine aT (i := 10) (oi := { dst := some 80, op := Op.fieldAddr 36 (Operand.tmp 10) 2, type := 0, pos := "own.go:155", after := #[{ on := 9, ground := Ground.guard }], guard := some (9, true) }) (v := .pointer (some ⟨gk35, 5, none⟩)) (fun _ _ => by kernel_rfl) hH ?_
    try simp only [pA, pB, p1, p2, p3]
    refine aT (i := 11) (oi := { dst := some 81, op := Op.load 23 (Operand.tmp 80), type := 23, pos := "own.go:155", after := #[{ on := 10, ground := Ground.data }, { on := 9, ground := Ground.guard }], guard := some (9, true) }) (v := .slice za zn zc) (fun w' hw => exec_load 23 _ rfl ⟨gk35, 5, none⟩ (by kernel_rfl) (.slice za zn zc) (load_one ((hw.1.box 5 _ _ _ rfl).cell 5 |>.trans (by kernel_rfl)) Try.und22 rfl)) hH ?_
    try simp only [pA, pB, p1, p2, p3]
    refine aT (i := 12) (oi := { dst := some 82, op := Op.fieldAddr 26 (Operand.tmp 5) 1, type := 0, pos := "own.go:155", after := #[{ on := 9, ground := Ground.guard }], guard := some (9, true) }) (v := .pointer (some ⟨gk4, 1, none⟩)) (fun _ _ => by kernel_rfl) hH ?_
    try simp only [pA, pB, p1, p2, p3]
    refine aT (i := 13) (oi := { dst := some 83, op := Op.load 23 (Operand.tmp 82), type := 23, pos := "own.go:155", after := #[{ on := 12, ground := Ground.data }, { on := 9, ground := Ground.guard }], guard := some (9, true) }) (v := .slice (some ⟨g9, 0, none⟩) mn0 mc0) (fun w' hw => exec_load 23 _ rfl ⟨gk4, 1, none⟩ (by kernel_rfl) (.slice (some ⟨g9, 0, none⟩) mn0 mc0) (load_one ((hw.1.box 1 _ _ _ rfl).cell 1 |>.trans (by kernel_rfl)) Try.und22 rfl)) hH ?_
    try simp only [pA, pB, p1, p2, p3]
    refine any_call (i := 14) (o := { dst := some 84, op := Op.call { callee := Callee.value (Operand.func 12), args := #[Operand.tmp 81, Operand.tmp 83], argTypes := #[23, 23] }, type := 4, pos := "own.go:155", after := #[{ on := 11, ground := Ground.data }, { on := 13, ground := Ground.data }, { on := 9, ground := Ground.chain }, { on := 9, ground := Ground.guard }], guard := some (9, true) }) rfl (by kernel_rfl) (by kernel_rfl) 12 #[.slice za zn zc, .slice (some ⟨g9, 0, none⟩) mn0 mc0] (by kernel_rfl) _ (sameE_any za zn zc (some ⟨g9, 0, none⟩) mn0 mc0 (⟨e.nm, e.f0, e.f1, y9⟩ :: t) (⟨e.nm, e.f0, e.f1, y9⟩ :: t) _ (HZs.out.no HK0.out).rd (HEs.out.no HK0.out).rd (by omega)) ?_
    rintro e wk40 ⟨rfl, hk⟩
    have hH2 : Fr No w wk40 [(gk1, 26, Bv.cells ⟨up, ⟨(some ⟨eb, eo, none⟩), en, ec⟩, ⟨la, ln, lc⟩⟩), (gk4, 26, Bv.cells ⟨up, ⟨(some ⟨g9, 0, none⟩), mn0, mc0⟩, ⟨la0, ln0, lc0⟩⟩), (gk7, 31, Cm.cells ⟨4, 3, 9, ⟨#[]⟩, 0, 0, 0, 0, 0⟩), (gk28, 34, En.cells ⟨e.nm, e.f0, e.f1, y9⟩), (gk33, 26, Bv.cells ⟨up + 1, ⟨xa, xn, xc⟩, ⟨ya, yn, yc⟩⟩), (gk35, 36, Av.cells ⟨0, enZ, ⟨za, zn, zc⟩⟩)] ∧ RdE wk40 ⟨(some ⟨g9, 0, none⟩), mn0, mc0⟩ (⟨e.nm, e.f0, e.f1, y9⟩ :: t) := ⟨hH.1.no hk, hH.2.no hk⟩
    have HK0 : Hid (Kept No wk38 (wk40)) := HK0.out.no hk
    have HF : Hid (Fr No w (wk40) [(gk1, 26, Bv.cells ⟨up, ⟨(some ⟨eb, eo, none⟩), en, ec⟩, ⟨la, ln, lc⟩⟩), (gk4, 26, Bv.cells ⟨up, ⟨(some ⟨g9, 0, none⟩), mn0, mc0⟩, ⟨la0, ln0, lc0⟩⟩), (gk7, 31, Cm.cells ⟨4, 3, 9, ⟨#[]⟩, 0, 0, 0, 0, 0⟩), (gk28, 34, En.cells ⟨e.nm, e.f0, e.f1, y9⟩), (gk33, 26, Bv.cells ⟨up + 1, ⟨xa, xn, xc⟩, ⟨ya, yn, yc⟩⟩), (gk35, 36, Av.cells ⟨0, enZ, ⟨za, zn, zc⟩⟩)]) := HF.out.no hk
    clear hk
    refine ⟨.bool true, by rw [sameE_iff.2 rfl], hH2, fun hH => ?_⟩
    clear hH2
    try simp only [pA, pB, p1, p2, p3]
    refine aT (i := 15) (oi := { dst := some 85, op := Op.pick (Operand.tmp 79) (Operand.tmp 84) (Operand.const (Value.bool false)), type := 4, pos := "own.go:155", after := #[{ on := 9, ground := Ground.data }, { on := 14, ground := Ground.data }], guard := none }) (v := .bool true) (fun _ _ => by kernel_rfl) hH ?_
    try simp only [pA, pB, p1, p2, p3]
    refine aT (i := 16) (oi := { dst := some 4, op := Op.assign (Operand.tmp 85), type := 4, pos := "own.go:155", after := #[{ on := 15, ground := Ground.data }, { on := 14, ground := Ground.chain }, { on := 0, ground := Ground.phase }, { on := 1, ground := Ground.phase }, { on := 2, ground := Ground.phase }, { on := 3, ground := Ground.phase }, { on := 4, ground := Ground.phase }, { on := 5, ground := Ground.phase }, { on := 6, ground := Ground.phase }, { on := 7, ground := Ground.phase }, { on := 8, ground := Ground.phase }, { on := 9, ground := Ground.phase }, { on := 10, ground := Ground.phase }, { on := 11, ground := Ground.phase }, { on := 12, ground := Ground.phase }, { on := 13, ground := Ground.phase }, { on := 14, ground := Ground.phase }, { on := 15, ground := Ground.phase }], guard := none }) (v := .bool true) (fun _ _ => by kernel_rfl) hH ?_
    try simp only [pA, pB, p1, p2, p3]
    refine wpAnyH_done (by kernel_rfl) ?_ _
    try simp only [pA, pB, p1, p2, p3]
    clear hH
    go_wp2
    rw [HC.out]
    exact ⟨rfl, HF.out.kept⟩
  ·skip
   refine tW (.bool true) (exec_bin .gtr 3 _ _ _ rfl (.int .i64 e.sz) (.int .i64 0) (.bool true) (by kernel_rfl) (by kernel_rfl) (by kernel_rfl) (by rw [b_gtr, q1]; try rfl)) ?_
   try simp only [pA, pB, p1, p2, p3]
   refine WL.nil ?_
   try simp only [pA, pB, p1, p2, p3]
   have HE : Hid (OwE wk12 w.heap.size ⟨(some ⟨g9, 0, none⟩), mn0, mc0⟩ (e :: t)) := HEs.out.no HK0.out
   have HL : Hid (OwL wk12 w.heap.size ⟨la0, ln0, lc0⟩ ls) := HLs.out.no HK0.out
   clear HEs HLs HK0 HS0
   go_upto_region 8 with fail
   refine WL.start ?_
   refine tK (.pointer (some ⟨gk4, 1, none⟩)) ?_
   try simp only [pA, pB, p1, p2, p3]
   refine tW (.slice (some ⟨g9, 0, none⟩) mn0 mc0) (exec_load 23 _ rfl ⟨gk4, 1, none⟩ (by kernel_rfl) (.slice (some ⟨g9, 0, none⟩) mn0 mc0) (load_one ((HF.out.box 1 _ _ _ rfl).cell 1 |>.trans (by kernel_rfl)) Try.und22 rfl)) ?_
   try simp only [pA, pB, p1, p2, p3]
   refine tW (.pointer (some ⟨g9, 0 + 0 * 4, none⟩)) (exec_ixA 23 4 Try.und22e Try.size22e _ _ rfl g9 0 mn0 mc0 0 (by kernel_rfl) (by kernel_rfl) (by omega)) ?_
   try simp only [pA, pB, p1, p2, p3]
   refine tK (.pointer (some ⟨g9, 0 + 0 * 4 + 3, none⟩)) ?_
   try simp only [pA, pB, p1, p2, p3]
   refine tW (.int .i64 e.sz) (exec_load 3 _ rfl ⟨g9, 0 + 0 * 4 + 3, none⟩ (by kernel_rfl) (.int .i64 e.sz) (load_one (HE.out.rd.at0 3 _ rfl) Try.und3 rfl)) ?_
   try simp only [pA, pB, p1, p2, p3]
   refine tW (.int .i64 (IntKind.i64.wrap (e.sz - 1))) (exec_bin .sub 3 _ _ _ rfl (.int .i64 e.sz) (.int .i64 1) (.int .i64 (IntKind.i64.wrap (e.sz - 1))) (by kernel_rfl) (by kernel_rfl) (by kernel_rfl) (b_subw _ _ _ rfl _)) ?_
   try simp only [pA, pB, p1, p2, p3]
   refine tW (.pointer (some ⟨g9, 0 + 0 * 4, none⟩)) (exec_ixA 23 4 Try.und22e Try.size22e _ _ rfl g9 0 mn0 mc0 0 (by kernel_rfl) (by kernel_rfl) (by omega)) ?_
   try simp only [pA, pB, p1, p2, p3]
   refine tK (.pointer (some ⟨g9, 0 + 0 * 4 + 3, none⟩)) ?_
   try simp only [pA, pB, p1, p2, p3]
   obtain ⟨cs9, hrun9, hown9⟩ := HE.out.sz0 (IntKind.i64.wrap (e.sz - 1))
   refine wp_storeW 3 _ _ rfl ⟨g9, 0 + 0 * 4 + 3, none⟩ (.int .i64 (IntKind.i64.wrap (e.sz - 1))) (by kernel_rfl) (by kernel_rfl) (wk12.setRow g9 cs9) hrun9 (by kernel_rfl) ?_
   try simp only [pA, pB, p1, p2, p3]
   have hk : Kept (Only g9) wk12 (wk12.setRow g9 cs9) := Kept.setRow _ _ _
   have HL : Hid (OwL (wk12.setRow g9 cs9) w.heap.size ⟨la0, ln0, lc0⟩ ls) := HL.out.kept hk (fun k e f => HL.out.own.apart HE.out.own (by decide) e ⟨_, rfl, (show k = g9 from f).symm⟩)
   have HF : Hid (Fr No w (wk12.setRow g9 cs9) [(gk1, 26, Bv.cells ⟨up, ⟨(some ⟨eb, eo, none⟩), en, ec⟩, ⟨la, ln, lc⟩⟩), (gk4, 26, Bv.cells ⟨up, ⟨(some ⟨g9, 0, none⟩), mn0, mc0⟩, ⟨la0, ln0, lc0⟩⟩), (gk7, 31, Cm.cells ⟨4, 3, 9, ⟨#[]⟩, 0, 0, 0, 0, 0⟩)]) := HF.out.lent hk (fun k e => by have e : k = g9 := e; omega) (fun y hy e => by obtain ⟨i9, hi9⟩ := List.mem_iff_getElem?.1 hy; exact HE.out.own.notBox (HF.out.box i9 y.1 y.2.1 y.2.2 hi9) (fun e2 => (show ∀ y ∈ [(gk1, 26, Bv.cells ⟨up, ⟨(some ⟨eb, eo, none⟩), en, ec⟩, ⟨la, ln, lc⟩⟩), (gk4, 26, Bv.cells ⟨up, ⟨(some ⟨g9, 0, none⟩), mn0, mc0⟩, ⟨la0, ln0, lc0⟩⟩), (gk7, 31, Cm.cells ⟨4, 3, 9, ⟨#[]⟩, 0, 0, 0, 0, 0⟩)], y.2.1 ≠ 34 from by simp) y hy e2.symm) ⟨_, rfl, (show y.1 = g9 from e).symm⟩)
   have HE : Hid (OwE (wk12.setRow g9 cs9) w.heap.size ⟨(some ⟨g9, 0, none⟩), mn0, mc0⟩ (⟨e.nm, e.f0, e.f1, (IntKind.i64.wrap (e.sz - 1))⟩ :: t)) := hown9
   clear hk hrun9 hown9
   generalize wk12.setRow g9 cs9 = wk41 at HF HE HL ⊢
   generalize (IntKind.i64.wrap (e.sz - 1)) = y9 at HE ⊢
   refine WL.nil ?_
   try simp only [pA, pB, p1, p2, p3]
   have HEs : Hid (OwE wk41 w.heap.size ⟨(some ⟨g9, 0, none⟩), mn0, mc0⟩ (⟨e.nm, e.f0, e.f1, y9⟩ :: t)) := HE
   clear HE
   have HLs : Hid (OwL wk41 w.heap.size ⟨la0, ln0, lc0⟩ ls) := HL
   clear HL
   have HK0 : Hid (Kept No wk41 wk41) := Kept.refl _ _
   obtain ⟨s0, hs0⟩ : ∃ n, wk41.heap.size = n := ⟨_, rfl⟩
   have HS0 : Hid (wk41.heap.size = s0) := hs0
   clear hs0
   go_upto_region 10 with fail
   refine wp_region_held_drew (S := fun w' => Fr No w w' [(gk1, 26, Bv.cells ⟨up, ⟨(some ⟨eb, eo, none⟩), en, ec⟩, ⟨la, ln, lc⟩⟩), (gk4, 26, Bv.cells ⟨up, ⟨(some ⟨g9, 0, none⟩), mn0, mc0⟩, ⟨la0, ln0, lc0⟩⟩), (gk7, 31, Cm.cells ⟨4, 3, 9, ⟨#[]⟩, 0, 0, 0, 0, 0⟩)]) rfl (HF.out.drew) (fun hH => ?_)
   have HK0 : Hid (Kept No wk41 (wk41.drew)) := HK0.out.no (Kept.refl No _).drew
   have HF : Hid (Fr No w (wk41.drew) [(gk1, 26, Bv.cells ⟨up, ⟨(some ⟨eb, eo, none⟩), en, ec⟩, ⟨la, ln, lc⟩⟩), (gk4, 26, Bv.cells ⟨up, ⟨(some ⟨g9, 0, none⟩), mn0, mc0⟩, ⟨la0, ln0, lc0⟩⟩), (gk7, 31, Cm.cells ⟨4, 3, 9, ⟨#[]⟩, 0, 0, 0, 0, 0⟩)]) := HF.out.drew
   generalize wk41.drew = wk42 at HF HK0 hH ⊢
   refine aT (i := 0) (oi := { dst := some 53, op := Op.load 26 (Operand.tmp 5), type := 26, pos := "own.go:153", after := #[], guard := none }) (v := .agg (Bv.cells ⟨up, ⟨(some ⟨g9, 0, none⟩), mn0, mc0⟩, ⟨la0, ln0, lc0⟩⟩)) (fun w' hw => exec_load 26 _ rfl ⟨gk4, 0, none⟩ (by kernel_rfl) (.agg (Bv.cells ⟨up, ⟨(some ⟨g9, 0, none⟩), mn0, mc0⟩, ⟨la0, ln0, lc0⟩⟩)) (run_load_part (cs := Bv.cs ⟨up, ⟨(some ⟨g9, 0, none⟩), mn0, mc0⟩, ⟨la0, ln0, lc0⟩⟩) (sub := Bv.cs ⟨up, ⟨(some ⟨g9, 0, none⟩), mn0, mc0⟩, ⟨la0, ln0, lc0⟩⟩) (hw.box 1 _ _ _ rfl) (Part.all _) Try.und25 rfl Try.size25)) hH ?_
   try simp only [pA, pB, p1, p2, p3]
   refine aT (i := 1) (oi := { dst := some 54, op := Op.fieldAddr 26 (Operand.tmp 2) 1, type := 0, pos := "own.go:153", after := #[], guard := none }) (v := .pointer (some ⟨gk1, 1, none⟩)) (fun _ _ => by kernel_rfl) hH ?_
   try simp only [pA, pB, p1, p2, p3]
   refine aT (i := 2) (oi := { dst := some 55, op := Op.load 23 (Operand.tmp 54), type := 23, pos := "own.go:153", after := #[{ on := 1, ground := Ground.data }], guard := none }) (v := .slice (some ⟨eb, eo, none⟩) en ec) (fun w' hw => exec_load 23 _ rfl ⟨gk1, 1, none⟩ (by kernel_rfl) (.slice (some ⟨eb, eo, none⟩) en ec) (load_one ((hw.box 0 _ _ _ rfl).cell 1 |>.trans (by kernel_rfl)) Try.und22 rfl)) hH ?_
   try simp only [pA, pB, p1, p2, p3]
   refine aT (i := 3) (oi := { dst := some 56, op := Op.indexAddr 23 (Operand.tmp 55) (Operand.const (Value.int IntKind.i64 0)), type := 0, pos := "own.go:153", after := #[{ on := 2, ground := Ground.data }], guard := none }) (v := .pointer (some ⟨eb, eo + 0 * 4, none⟩)) (fun w' hw => exec_ixA 23 4 Try.und22e Try.size22e _ _ rfl eb eo en ec 0 (by kernel_rfl) (by kernel_rfl) (by omega)) hH ?_
   try simp only [pA, pB, p1, p2, p3]
   refine aT (i := 4) (oi := { dst := some 57, op := Op.fieldAddr 34 (Operand.tmp 56) 0, type := 0, pos := "own.go:153", after := #[{ on := 3, ground := Ground.data }], guard := none }) (v := .pointer (some ⟨eb, eo + 0 * 4, none⟩)) (fun _ _ => by kernel_rfl) hH ?_
   try simp only [pA, pB, p1, p2, p3]
   refine aT (i := 5) (oi := { dst := some 58, op := Op.load 9 (Operand.tmp 57), type := 9, pos := "own.go:153", after := #[{ on := 4, ground := Ground.data }], guard := none }) (v := .string e.nm) (fun w' hw => exec_load 9 _ rfl ⟨eb, eo + 0 * 4, none⟩ (by kernel_rfl) (.string e.nm) (load_one ((HE0.out.no hw.kept).at0 0 _ rfl) Try.und9 rfl)) hH ?_
   try simp only [pA, pB, p1, p2, p3]
   refine any_pick (rs := [6, 10]) (by kernel_rfl) (by simp) ?_
   intro i hi
   rcases pick2 hi with rfl | rfl
   ·skip
    clear hi
    refine step_call (i := 6) (o := { dst := some 59, op := Op.call { callee := Callee.value (Operand.func 26), args := #[Operand.tmp 53, Operand.tmp 58], argTypes := #[26, 9] }, type := 69, pos := "own.go:153", after := #[{ on := 0, ground := Ground.data }, { on := 5, ground := Ground.data }], guard := none }) rfl (by kernel_rfl) 26 #[.agg (Bv.cells ⟨up, ⟨(some ⟨g9, 0, none⟩), mn0, mc0⟩, ⟨la0, ln0, lc0⟩⟩), .string e.nm] (by kernel_rfl) _ (find_moved up (some ⟨g9, 0, none⟩) mn0 mc0 ⟨la0, ln0, lc0⟩ e t y9 _ HR.out (HEs.out.no HK0.out).rd (by omega)) ?_
    rintro e wk43 ⟨rfl, hk⟩
    have hH2 : Fr No w wk43 [(gk1, 26, Bv.cells ⟨up, ⟨(some ⟨eb, eo, none⟩), en, ec⟩, ⟨la, ln, lc⟩⟩), (gk4, 26, Bv.cells ⟨up, ⟨(some ⟨g9, 0, none⟩), mn0, mc0⟩, ⟨la0, ln0, lc0⟩⟩), (gk7, 31, Cm.cells ⟨4, 3, 9, ⟨#[]⟩, 0, 0, 0, 0, 0⟩)] := hH.no hk
    have HK0 : Hid (Kept No wk41 (wk43)) := HK0.out.no hk
    have HF : Hid (Fr No w (wk43) [(gk1, 26, Bv.cells ⟨up, ⟨(some ⟨eb, eo, none⟩), en, ec⟩, ⟨la, ln, lc⟩⟩), (gk4, 26, Bv.cells ⟨up, ⟨(some ⟨g9, 0, none⟩), mn0, mc0⟩, ⟨la0, ln0, lc0⟩⟩), (gk7, 31, Cm.cells ⟨4, 3, 9, ⟨#[]⟩, 0, 0, 0, 0, 0⟩)]) := HF.out.no hk
    clear hk
    refine ⟨.tuple #[.agg (En.cells ⟨e.nm, e.f0, e.f1, y9⟩), .bool true], rfl, hH2, fun hH => ?_⟩
    clear hH2
    try simp only [pA, pB, p1, p2, p3]
    refine aT (i := 7) (oi := { dst := some 52, op := Op.move (Operand.tmp 59), type := 69, pos := "own.go:153", after := #[{ on := 6, ground := Ground.data }], guard := none }) (v := .tuple #[.agg (En.cells ⟨e.nm, e.f0, e.f1, y9⟩), .bool true]) (fun _ _ => by kernel_rfl) hH ?_
    try simp only [pA, pB, p1, p2, p3]
    refine aT (i := 8) (oi := { dst := some 60, op := Op.extract (Operand.tmp 52) 0, type := 34, pos := "own.go:153", after := #[{ on := 7, ground := Ground.data }], guard := none }) (v := .agg (En.cells ⟨e.nm, e.f0, e.f1, y9⟩)) (fun _ _ => by kernel_rfl) hH ?_
    try simp only [pA, pB, p1, p2, p3]
    refine aT (i := 9) (oi := { dst := some 61, op := Op.extract (Operand.tmp 52) 1, type := 4, pos := "own.go:153", after := #[{ on := 7, ground := Ground.data }, { on := 11, ground := Ground.gcOnly Departure.lateStores }], guard := none }) (v := .bool true) (fun _ _ => by kernel_rfl) hH ?_
    try simp only [pA, pB, p1, p2, p3]
    refine any_step (i := 10) (o := { dst := some 7, op := Op.alloc 34, type := 0, pos := "own.go:153", after := #[], guard := none }) rfl (by kernel_rfl) (by kernel_rfl) (exec_alloc 34 rfl (En.cells enZ) zero54) (Fr.front (l1 := [(gk1, 26, Bv.cells ⟨up, ⟨(some ⟨eb, eo, none⟩), en, ec⟩, ⟨la, ln, lc⟩⟩), (gk4, 26, Bv.cells ⟨up, ⟨(some ⟨g9, 0, none⟩), mn0, mc0⟩, ⟨la0, ln0, lc0⟩⟩), (gk7, 31, Cm.cells ⟨4, 3, 9, ⟨#[]⟩, 0, 0, 0, 0, 0⟩)]) (l2 := [_]) (hH.alloc _ _)) (fun hH => ?_)
    try simp only [pA, pB, p1, p2, p3]
    have hx0_gk44 : s0 ≤ wk43.heap.size := by rw [← HS0.out]; exact HK0.out.size
    have HK0 : Hid (Kept No wk41 (wk43.alloc (.cells (En.cells enZ) 34))) := HK0.out.no ((Kept.refl No _).alloc _)
    have HF : Hid (Fr No w (wk43.alloc (.cells (En.cells enZ) 34)) [(gk1, 26, Bv.cells ⟨up, ⟨(some ⟨eb, eo, none⟩), en, ec⟩, ⟨la, ln, lc⟩⟩), (gk4, 26, Bv.cells ⟨up, ⟨(some ⟨g9, 0, none⟩), mn0, mc0⟩, ⟨la0, ln0, lc0⟩⟩), (gk7, 31, Cm.cells ⟨4, 3, 9, ⟨#[]⟩, 0, 0, 0, 0, 0⟩), (wk43.heap.size, 34, En.cells enZ)]) := HF.out.alloc _ _
    generalize wk43.alloc (.cells (En.cells enZ) 34) = wk45 at HF HK0 hH ⊢
    generalize wk43.heap.size = gk44 at HF hx0_gk44 ⊢
    refine any_store (i := 11) (o := { dst := none, op := Op.store 34 (Operand.tmp 7) (Operand.tmp 60), type := 0, pos := "own.go:153", after := #[{ on := 10, ground := Ground.data }, { on := 8, ground := Ground.data }, { on := 6, ground := Ground.chain }, { on := 0, ground := Ground.phase }, { on := 1, ground := Ground.phase }, { on := 2, ground := Ground.phase }, { on := 3, ground := Ground.phase }, { on := 4, ground := Ground.phase }, { on := 5, ground := Ground.phase }, { on := 6, ground := Ground.phase }, { on := 7, ground := Ground.phase }, { on := 8, ground := Ground.phase }, { on := 9, ground := Ground.textOnly Departure.lateStores }, { on := 10, ground := Ground.phase }], guard := none }) (w' := wk45.setRow gk44 (En.cells ⟨e.nm, e.f0, e.f1, y9⟩)) rfl (by kernel_rfl) (by kernel_rfl) 34 _ _ rfl ⟨gk44, 0, none⟩ (.agg (En.cells ⟨e.nm, e.f0, e.f1, y9⟩)) (by kernel_rfl) (by kernel_rfl) (run_store_to (cur := En.cs enZ) (vs := En.cs ⟨e.nm, e.f0, e.f1, y9⟩) (new := En.cs ⟨e.nm, e.f0, e.f1, y9⟩) (HF.out.box 3 _ _ _ rfl) (by kernel_rfl) Try.size54 (Nat.le_of_ble_eq_true (by kernel_rfl)) (En.oneL _) (by kernel_rfl)) (Fr.front (l1 := [(gk1, 26, Bv.cells ⟨up, ⟨(some ⟨eb, eo, none⟩), en, ec⟩, ⟨la, ln, lc⟩⟩), (gk4, 26, Bv.cells ⟨up, ⟨(some ⟨g9, 0, none⟩), mn0, mc0⟩, ⟨la0, ln0, lc0⟩⟩), (gk7, 31, Cm.cells ⟨4, 3, 9, ⟨#[]⟩, 0, 0, 0, 0, 0⟩)]) (l2 := [(gk44, 34, En.cells ⟨e.nm, e.f0, e.f1, y9⟩)]) (HF.out.set 3 rfl _)) (fun hH => ?_)
    try simp only [pA, pB, p1, p2, p3]
    have HK0 : Hid (Kept No wk41 (wk45.setRow gk44 (En.cells ⟨e.nm, e.f0, e.f1, y9⟩))) := HK0.out.newRow (by rw [HS0.out]; exact hx0_gk44) _
    have HF : Hid (Fr No w (wk45.setRow gk44 (En.cells ⟨e.nm, e.f0, e.f1, y9⟩)) [(gk1, 26, Bv.cells ⟨up, ⟨(some ⟨eb, eo, none⟩), en, ec⟩, ⟨la, ln, lc⟩⟩), (gk4, 26, Bv.cells ⟨up, ⟨(some ⟨g9, 0, none⟩), mn0, mc0⟩, ⟨la0, ln0, lc0⟩⟩), (gk7, 31, Cm.cells ⟨4, 3, 9, ⟨#[]⟩, 0, 0, 0, 0, 0⟩), (gk44, 34, En.cells ⟨e.nm, e.f0, e.f1, y9⟩)]) := HF.out.set 3 rfl _
    generalize wk45.setRow gk44 (En.cells ⟨e.nm, e.f0, e.f1, y9⟩) = wk46 at HF HK0 hH ⊢
    refine aT (i := 12) (oi := { dst := some 8, op := Op.assign (Operand.tmp 61), type := 4, pos := "own.go:153", after := #[{ on := 9, ground := Ground.data }, { on := 11, ground := Ground.chain }, { on := 0, ground := Ground.phase }, { on := 1, ground := Ground.phase }, { on := 2, ground := Ground.phase }, { on := 3, ground := Ground.phase }, { on := 4, ground := Ground.phase }, { on := 5, ground := Ground.phase }, { on := 6, ground := Ground.phase }, { on := 7, ground := Ground.phase }, { on := 8, ground := Ground.phase }, { on := 9, ground := Ground.phase }, { on := 10, ground := Ground.phase }, { on := 11, ground := Ground.phase }], guard := none }) (v := .bool true) (fun _ _ => by kernel_rfl) hH ?_
    try simp only [pA, pB, p1, p2, p3]
    refine wpAnyH_done (by kernel_rfl) ?_ _
    try simp only [pA, pB, p1, p2, p3]
    clear hH
    have HE : Hid (OwE wk46 w.heap.size ⟨(some ⟨g9, 0, none⟩), mn0, mc0⟩ (⟨e.nm, e.f0, e.f1, y9⟩ :: t)) := HEs.out.no HK0.out
    have HL : Hid (OwL wk46 w.heap.size ⟨la0, ln0, lc0⟩ ls) := HLs.out.no HK0.out
    clear HEs HLs HK0 HS0 hx0_gk44
    have HEs : Hid (OwE wk46 w.heap.size ⟨(some ⟨g9, 0, none⟩), mn0, mc0⟩ (⟨e.nm, e.f0, e.f1, y9⟩ :: t)) := HE
    clear HE
    have HLs : Hid (OwL wk46 w.heap.size ⟨la0, ln0, lc0⟩ ls) := HL
    clear HL
    have HK0 : Hid (Kept No wk46 wk46) := Kept.refl _ _
    obtain ⟨s0, hs0⟩ : ∃ n, wk46.heap.size = n := ⟨_, rfl⟩
    have HS0 : Hid (wk46.heap.size = s0) := hs0
    clear hs0
    go_upto_region 11 with fail
    refine WL.start ?_
    refine tW (.agg (Bv.cells ⟨up, ⟨(some ⟨g9, 0, none⟩), mn0, mc0⟩, ⟨la0, ln0, lc0⟩⟩)) (exec_load 26 _ rfl ⟨gk4, 0, none⟩ (by kernel_rfl) (.agg (Bv.cells ⟨up, ⟨(some ⟨g9, 0, none⟩), mn0, mc0⟩, ⟨la0, ln0, lc0⟩⟩)) (run_load_part (cs := Bv.cs ⟨up, ⟨(some ⟨g9, 0, none⟩), mn0, mc0⟩, ⟨la0, ln0, lc0⟩⟩) (sub := Bv.cs ⟨up, ⟨(some ⟨g9, 0, none⟩), mn0, mc0⟩, ⟨la0, ln0, lc0⟩⟩) (HF.out.box 1 _ _ _ rfl) (Part.all _) Try.und25 rfl Try.size25)) ?_
    try simp only [pA, pB, p1, p2, p3]
    refine tW (.agg (Cm.cells ⟨4, 3, 9, ⟨#[]⟩, 0, 0, 0, 0, 0⟩)) (exec_load 31 _ rfl ⟨gk7, 0, none⟩ (by kernel_rfl) (.agg (Cm.cells ⟨4, 3, 9, ⟨#[]⟩, 0, 0, 0, 0, 0⟩)) (run_load_part (cs := Cm.cs ⟨4, 3, 9, ⟨#[]⟩, 0, 0, 0, 0, 0⟩) (sub := Cm.cs ⟨4, 3, 9, ⟨#[]⟩, 0, 0, 0, 0, 0⟩) (HF.out.box 2 _ _ _ rfl) (Part.all _) Try.und29 rfl Try.size29)) ?_
    try simp only [pA, pB, p1, p2, p3]
    refine tK (.int .i64 room) ?_
    try simp only [pA, pB, p1, p2, p3]
    refine wp_callW 6 #[.agg (Bv.cells ⟨up, ⟨(some ⟨g9, 0, none⟩), mn0, mc0⟩, ⟨la0, ln0, lc0⟩⟩), .agg (Cm.cells ⟨4, 3, 9, ⟨#[]⟩, 0, 0, 0, 0, 0⟩), .int .i64 room] (by kernel_rfl) _ (apply_list up (some ⟨g9, 0, none⟩) mn0 mc0 la0 ln0 lc0 (⟨e.nm, e.f0, e.f1, y9⟩ :: t) ls room _ hu hu2 (HEs.out.no HK0.out).rd (HLs.out.no HK0.out).rd (by omega) (by omega)) (by kernel_rfl) ?_
    rintro e9 wk47 ⟨⟨xa, xn, xc⟩, ⟨ya, yn, yc⟩, ⟨za, zn, zc⟩, rfl, hse, hsl, hsx, hap, hk⟩
    have HK0 : Hid (Kept No wk46 (wk47)) := HK0.out.no hk
    have HF : Hid (Fr No w (wk47) [(gk1, 26, Bv.cells ⟨up, ⟨(some ⟨eb, eo, none⟩), en, ec⟩, ⟨la, ln, lc⟩⟩), (gk4, 26, Bv.cells ⟨up, ⟨(some ⟨g9, 0, none⟩), mn0, mc0⟩, ⟨la0, ln0, lc0⟩⟩), (gk7, 31, Cm.cells ⟨4, 3, 9, ⟨#[]⟩, 0, 0, 0, 0, 0⟩), (gk44, 34, En.cells ⟨e.nm, e.f0, e.f1, y9⟩)]) := HF.out.no hk
    have HZ6 : Hid (OwE wk47 0 ⟨za, zn, zc⟩ (⟨e.nm, e.f0, e.f1, y9⟩ :: t)) := hsx.lower (Nat.zero_le _)
    have hzn : t.length + 1 = zn := hsx.len
    clear hse hsl hsx hap hk
    have HK1 : Hid (Kept No wk47 wk47) := Kept.refl _ _
    obtain ⟨s1, hs1⟩ : ∃ n, wk47.heap.size = n := ⟨_, rfl⟩
    have HS1 : Hid (wk47.heap.size = s1) := hs1
    clear hs1
    refine ⟨.tuple #[.agg (Bv.cells ⟨up + 1, ⟨xa, xn, xc⟩, ⟨ya, yn, yc⟩⟩), .agg (Av.cells ⟨0, enZ, ⟨za, zn, zc⟩⟩), .int .i64 0], rfl, ?_⟩
    try simp only [pA, pB, p1, p2, p3]
    refine tK (.tuple #[.agg (Bv.cells ⟨up + 1, ⟨xa, xn, xc⟩, ⟨ya, yn, yc⟩⟩), .agg (Av.cells ⟨0, enZ, ⟨za, zn, zc⟩⟩), .int .i64 0]) ?_
    try simp only [pA, pB, p1, p2, p3]
    refine tK (.agg (Bv.cells ⟨up + 1, ⟨xa, xn, xc⟩, ⟨ya, yn, yc⟩⟩)) ?_
    try simp only [pA, pB, p1, p2, p3]
    refine tK (.agg (Av.cells ⟨0, enZ, ⟨za, zn, zc⟩⟩)) ?_
    try simp only [pA, pB, p1, p2, p3]
    refine tK (.int .i64 0) ?_
    try simp only [pA, pB, p1, p2, p3]
    refine wp_runW (.pointer (some ⟨wk47.heap.size, 0, none⟩)) (wk47.alloc (.cells (Bv.cells bvZ) 26)) (exec_alloc 26 rfl (Bv.cells bvZ) zero25) (by kernel_rfl) ?_
    try simp only [pA, pB, p1, p2, p3]
    have hx0_gk48 : s0 ≤ wk47.heap.size := by rw [← HS0.out]; exact HK0.out.size
    have hx1_gk48 : s1 ≤ wk47.heap.size := by rw [← HS1.out]; exact HK1.out.size
    have HK0 : Hid (Kept No wk46 (wk47.alloc (.cells (Bv.cells bvZ) 26))) := HK0.out.no ((Kept.refl No _).alloc _)
    have HK1 : Hid (Kept No wk47 (wk47.alloc (.cells (Bv.cells bvZ) 26))) := HK1.out.no ((Kept.refl No _).alloc _)
    have HF : Hid (Fr No w (wk47.alloc (.cells (Bv.cells bvZ) 26)) [(gk1, 26, Bv.cells ⟨up, ⟨(some ⟨eb, eo, none⟩), en, ec⟩, ⟨la, ln, lc⟩⟩), (gk4, 26, Bv.cells ⟨up, ⟨(some ⟨g9, 0, none⟩), mn0, mc0⟩, ⟨la0, ln0, lc0⟩⟩), (gk7, 31, Cm.cells ⟨4, 3, 9, ⟨#[]⟩, 0, 0, 0, 0, 0⟩), (gk44, 34, En.cells ⟨e.nm, e.f0, e.f1, y9⟩), (wk47.heap.size, 26, Bv.cells bvZ)]) := HF.out.alloc _ _
    generalize wk47.alloc (.cells (Bv.cells bvZ) 26) = wk49 at HF HK0 HK1 ⊢
    generalize wk47.heap.size = gk48 at HF hx0_gk48 hx1_gk48 ⊢
    refine wp_runW (.pointer (some ⟨wk49.heap.size, 0, none⟩)) (wk49.alloc (.cells (Av.cells avZ) 36)) (exec_alloc 36 rfl (Av.cells avZ) zero56) (by kernel_rfl) ?_
    try simp only [pA, pB, p1, p2, p3]
    have hx0_gk50 : s0 ≤ wk49.heap.size := by rw [← HS0.out]; exact HK0.out.size
    have hx1_gk50 : s1 ≤ wk49.heap.size := by rw [← HS1.out]; exact HK1.out.size
    have HK0 : Hid (Kept No wk46 (wk49.alloc (.cells (Av.cells avZ) 36))) := HK0.out.no ((Kept.refl No _).alloc _)
    have HK1 : Hid (Kept No wk47 (wk49.alloc (.cells (Av.cells avZ) 36))) := HK1.out.no ((Kept.refl No _).alloc _)
    have HF : Hid (Fr No w (wk49.alloc (.cells (Av.cells avZ) 36)) [(gk1, 26, Bv.cells ⟨up, ⟨(some ⟨eb, eo, none⟩), en, ec⟩, ⟨la, ln, lc⟩⟩), (gk4, 26, Bv.cells ⟨up, ⟨(some ⟨g9, 0, none⟩), mn0, mc0⟩, ⟨la0, ln0, lc0⟩⟩), (gk7, 31, Cm.cells ⟨4, 3, 9, ⟨#[]⟩, 0, 0, 0, 0, 0⟩), (gk44, 34, En.cells ⟨e.nm, e.f0, e.f1, y9⟩), (gk48, 26, Bv.cells bvZ), (wk49.heap.size, 36, Av.cells avZ)]) := HF.out.alloc _ _
    generalize wk49.alloc (.cells (Av.cells avZ) 36) = wk51 at HF HK0 HK1 ⊢
    generalize wk49.heap.size = gk50 at HF hx0_gk50 hx1_gk50 ⊢
    refine wp_storeW 26 _ _ rfl ⟨gk48, 0, none⟩ (.agg (Bv.cells ⟨up + 1, ⟨xa, xn, xc⟩, ⟨ya, yn, yc⟩⟩)) (by kernel_rfl) (by kernel_rfl) (wk51.setRow gk48 (Bv.cells ⟨up + 1, ⟨xa, xn, xc⟩, ⟨ya, yn, yc⟩⟩)) (run_store_to (cur := Bv.cs bvZ) (vs := Bv.cs ⟨up + 1, ⟨xa, xn, xc⟩, ⟨ya, yn, yc⟩⟩) (new := Bv.cs ⟨up + 1, ⟨xa, xn, xc⟩, ⟨ya, yn, yc⟩⟩) (HF.out.box 4 _ _ _ rfl) (by kernel_rfl) Try.size25 (Nat.le_of_ble_eq_true (by kernel_rfl)) (Bv.oneL _) (by kernel_rfl)) (by kernel_rfl) ?_
    try simp only [pA, pB, p1, p2, p3]
    have HK0 : Hid (Kept No wk46 (wk51.setRow gk48 (Bv.cells ⟨up + 1, ⟨xa, xn, xc⟩, ⟨ya, yn, yc⟩⟩))) := HK0.out.newRow (by rw [HS0.out]; exact hx0_gk48) _
    have HK1 : Hid (Kept No wk47 (wk51.setRow gk48 (Bv.cells ⟨up + 1, ⟨xa, xn, xc⟩, ⟨ya, yn, yc⟩⟩))) := HK1.out.newRow (by rw [HS1.out]; exact hx1_gk48) _
    have HF : Hid (Fr No w (wk51.setRow gk48 (Bv.cells ⟨up + 1, ⟨xa, xn, xc⟩, ⟨ya, yn, yc⟩⟩)) [(gk1, 26, Bv.cells ⟨up, ⟨(some ⟨eb, eo, none⟩), en, ec⟩, ⟨la, ln, lc⟩⟩), (gk4, 26, Bv.cells ⟨up, ⟨(some ⟨g9, 0, none⟩), mn0, mc0⟩, ⟨la0, ln0, lc0⟩⟩), (gk7, 31, Cm.cells ⟨4, 3, 9, ⟨#[]⟩, 0, 0, 0, 0, 0⟩), (gk44, 34, En.cells ⟨e.nm, e.f0, e.f1, y9⟩), (gk48, 26, Bv.cells ⟨up + 1, ⟨xa, xn, xc⟩, ⟨ya, yn, yc⟩⟩), (gk50, 36, Av.cells avZ)]) := HF.out.set 4 rfl _
    generalize wk51.setRow gk48 (Bv.cells ⟨up + 1, ⟨xa, xn, xc⟩, ⟨ya, yn, yc⟩⟩) = wk52 at HF HK0 HK1 ⊢
    refine wp_storeW 36 _ _ rfl ⟨gk50, 0, none⟩ (.agg (Av.cells ⟨0, enZ, ⟨za, zn, zc⟩⟩)) (by kernel_rfl) (by kernel_rfl) (wk52.setRow gk50 (Av.cells ⟨0, enZ, ⟨za, zn, zc⟩⟩)) (run_store_to (cur := Av.cs avZ) (vs := Av.cs ⟨0, enZ, ⟨za, zn, zc⟩⟩) (new := Av.cs ⟨0, enZ, ⟨za, zn, zc⟩⟩) (HF.out.box 5 _ _ _ rfl) (by kernel_rfl) Try.size56 (Nat.le_of_ble_eq_true (by kernel_rfl)) (Av.oneL _) (by kernel_rfl)) (by kernel_rfl) ?_
    try simp only [pA, pB, p1, p2, p3]
    have HK0 : Hid (Kept No wk46 (wk52.setRow gk50 (Av.cells ⟨0, enZ, ⟨za, zn, zc⟩⟩))) := HK0.out.newRow (by rw [HS0.out]; exact hx0_gk50) _
    have HK1 : Hid (Kept No wk47 (wk52.setRow gk50 (Av.cells ⟨0, enZ, ⟨za, zn, zc⟩⟩))) := HK1.out.newRow (by rw [HS1.out]; exact hx1_gk50) _
    have HF : Hid (Fr No w (wk52.setRow gk50 (Av.cells ⟨0, enZ, ⟨za, zn, zc⟩⟩)) [(gk1, 26, Bv.cells ⟨up, ⟨(some ⟨eb, eo, none⟩), en, ec⟩, ⟨la, ln, lc⟩⟩), (gk4, 26, Bv.cells ⟨up, ⟨(some ⟨g9, 0, none⟩), mn0, mc0⟩, ⟨la0, ln0, lc0⟩⟩), (gk7, 31, Cm.cells ⟨4, 3, 9, ⟨#[]⟩, 0, 0, 0, 0, 0⟩), (gk44, 34, En.cells ⟨e.nm, e.f0, e.f1, y9⟩), (gk48, 26, Bv.cells ⟨up + 1, ⟨xa, xn, xc⟩, ⟨ya, yn, yc⟩⟩), (gk50, 36, Av.cells ⟨0, enZ, ⟨za, zn, zc⟩⟩)]) := HF.out.set 5 rfl _
    generalize wk52.setRow gk50 (Av.cells ⟨0, enZ, ⟨za, zn, zc⟩⟩) = wk53 at HF HK0 HK1 ⊢
    refine tK (.int .i64 0) ?_
    try simp only [pA, pB, p1, p2, p3]
    refine WL.nil ?_
    try simp only [pA, pB, p1, p2, p3]
    have HE : Hid (OwE wk53 w.heap.size ⟨(some ⟨g9, 0, none⟩), mn0, mc0⟩ (⟨e.nm, e.f0, e.f1, y9⟩ :: t)) := HEs.out.no HK0.out
    have HL : Hid (OwL wk53 w.heap.size ⟨la0, ln0, lc0⟩ ls) := HLs.out.no HK0.out
    have HZ : Hid (OwE wk53 0 ⟨za, zn, zc⟩ (⟨e.nm, e.f0, e.f1, y9⟩ :: t)) := HZ6.out.no HK1.out
    clear HEs HLs HZ6 HK1 HS1 HK0 HS0 hx0_gk48 hx1_gk48 hx0_gk50 hx1_gk50
    have HEs : Hid (OwE wk53 w.heap.size ⟨(some ⟨g9, 0, none⟩), mn0, mc0⟩ (⟨e.nm, e.f0, e.f1, y9⟩ :: t)) := HE
    clear HE
    have HLs : Hid (OwL wk53 w.heap.size ⟨la0, ln0, lc0⟩ ls) := HL
    clear HL
    have HZs : Hid (OwE wk53 0 ⟨za, zn, zc⟩ (⟨e.nm, e.f0, e.f1, y9⟩ :: t)) := HZ
    clear HZ
    have HK0 : Hid (Kept No wk53 wk53) := Kept.refl _ _
    obtain ⟨s0, hs0⟩ : ∃ n, wk53.heap.size = n := ⟨_, rfl⟩
    have HS0 : Hid (wk53.heap.size = s0) := hs0
    clear hs0
    go_upto_region 12 with fail
    refine wp_region_held_drew (S := fun w' => Fr No w w' [(gk1, 26, Bv.cells ⟨up, ⟨(some ⟨eb, eo, none⟩), en, ec⟩, ⟨la, ln, lc⟩⟩), (gk4, 26, Bv.cells ⟨up, ⟨(some ⟨g9, 0, none⟩), mn0, mc0⟩, ⟨la0, ln0, lc0⟩⟩), (gk7, 31, Cm.cells ⟨4, 3, 9, ⟨#[]⟩, 0, 0, 0, 0, 0⟩), (gk44, 34, En.cells ⟨e.nm, e.f0, e.f1, y9⟩), (gk48, 26, Bv.cells ⟨up + 1, ⟨xa, xn, xc⟩, ⟨ya, yn, yc⟩⟩), (gk50, 36, Av.cells ⟨0, enZ, ⟨za, zn, zc⟩⟩)] ∧ RdE w' ⟨(some ⟨g9, 0, none⟩), mn0, mc0⟩ (⟨e.nm, e.f0, e.f1, y9⟩ :: t)) rfl ⟨HF.out.drew, HEs.out.rd.no (Kept.refl No _).drew⟩ (fun hH => ?_)
    have HK0 : Hid (Kept No wk53 (wk53.drew)) := HK0.out.no (Kept.refl No _).drew
    have HF : Hid (Fr No w (wk53.drew) [(gk1, 26, Bv.cells ⟨up, ⟨(some ⟨eb, eo, none⟩), en, ec⟩, ⟨la, ln, lc⟩⟩), (gk4, 26, Bv.cells ⟨up, ⟨(some ⟨g9, 0, none⟩), mn0, mc0⟩, ⟨la0, ln0, lc0⟩⟩), (gk7, 31, Cm.cells ⟨4, 3, 9, ⟨#[]⟩, 0, 0, 0, 0, 0⟩), (gk44, 34, En.cells ⟨e.nm, e.f0, e.f1, y9⟩), (gk48, 26, Bv.cells ⟨up + 1, ⟨xa, xn, xc⟩, ⟨ya, yn, yc⟩⟩), (gk50, 36, Av.cells ⟨0, enZ, ⟨za, zn, zc⟩⟩)]) := HF.out.drew
    generalize wk53.drew = wk54 at HF HK0 hH ⊢
    refine aT (i := 0) (oi := { dst := some 70, op := Op.move (Operand.tmp 8), type := 4, pos := "own.go:155", after := #[], guard := none }) (v := .bool true) (fun _ _ => by kernel_rfl) hH ?_
    try simp only [pA, pB, p1, p2, p3]
    refine aT (i := 1) (oi := { dst := some 71, op := Op.move (Operand.tmp 70), type := 4, pos := "own.go:155", after := #[{ on := 0, ground := Ground.data }], guard := none }) (v := .bool true) (fun _ _ => by kernel_rfl) hH ?_
    try simp only [pA, pB, p1, p2, p3]
    refine aT (i := 2) (oi := { dst := some 72, op := Op.load 34 (Operand.tmp 7), type := 34, pos := "own.go:155", after := #[{ on := 1, ground := Ground.guard }], guard := some (1, true) }) (v := .agg (En.cells ⟨e.nm, e.f0, e.f1, y9⟩)) (fun w' hw => exec_load 34 _ rfl ⟨gk44, 0, none⟩ (by kernel_rfl) (.agg (En.cells ⟨e.nm, e.f0, e.f1, y9⟩)) (run_load_part (cs := En.cs ⟨e.nm, e.f0, e.f1, y9⟩) (sub := En.cs ⟨e.nm, e.f0, e.f1, y9⟩) (hw.1.box 3 _ _ _ rfl) (Part.all _) Try.und54 rfl Try.size54)) hH ?_
    try simp only [pA, pB, p1, p2, p3]
    refine aT (i := 3) (oi := { dst := some 73, op := Op.fieldAddr 26 (Operand.tmp 5) 1, type := 0, pos := "own.go:155", after := #[{ on := 1, ground := Ground.guard }], guard := some (1, true) }) (v := .pointer (some ⟨gk4, 1, none⟩)) (fun _ _ => by kernel_rfl) hH ?_
    try simp only [pA, pB, p1, p2, p3]
    refine aT (i := 4) (oi := { dst := some 74, op := Op.load 23 (Operand.tmp 73), type := 23, pos := "own.go:155", after := #[{ on := 3, ground := Ground.data }, { on := 1, ground := Ground.guard }], guard := some (1, true) }) (v := .slice (some ⟨g9, 0, none⟩) mn0 mc0) (fun w' hw => exec_load 23 _ rfl ⟨gk4, 1, none⟩ (by kernel_rfl) (.slice (some ⟨g9, 0, none⟩) mn0 mc0) (load_one ((hw.1.box 1 _ _ _ rfl).cell 1 |>.trans (by kernel_rfl)) Try.und22 rfl)) hH ?_
    try simp only [pA, pB, p1, p2, p3]
    refine aT (i := 5) (oi := { dst := some 75, op := Op.indexAddr 23 (Operand.tmp 74) (Operand.const (Value.int IntKind.i64 0)), type := 0, pos := "own.go:155", after := #[{ on := 4, ground := Ground.data }, { on := 1, ground := Ground.guard }], guard := some (1, true) }) (v := .pointer (some ⟨g9, 0 + 0 * 4, none⟩)) (fun w' hw => exec_ixA 23 4 Try.und22e Try.size22e _ _ rfl g9 0 mn0 mc0 0 (by kernel_rfl) (by kernel_rfl) (by omega)) hH ?_
    try simp only [pA, pB, p1, p2, p3]
    refine aT (i := 6) (oi := { dst := some 76, op := Op.load 34 (Operand.tmp 75), type := 34, pos := "own.go:155", after := #[{ on := 5, ground := Ground.data }, { on := 1, ground := Ground.guard }], guard := some (1, true) }) (v := .agg (En.cells ⟨e.nm, e.f0, e.f1, y9⟩)) (fun w' hw => exec_load 34 _ rfl ⟨g9, 0 + 0 * 4, none⟩ (by kernel_rfl) (.agg (En.cells ⟨e.nm, e.f0, e.f1, y9⟩)) (load_E (hw.2.at0))) hH ?_
    try simp only [pA, pB, p1, p2, p3]
    refine aT (i := 7) (oi := { dst := some 77, op := Op.binOp BinOp.eql 34 (Operand.tmp 72) (Operand.tmp 76) 34, type := 4, pos := "own.go:155", after := #[{ on := 2, ground := Ground.data }, { on := 6, ground := Ground.data }, { on := 1, ground := Ground.guard }], guard := some (1, true) }) (v := .bool true) (fun w' hw => exec_bin .eql 34 _ _ _ rfl (.agg (En.cells ⟨e.nm, e.f0, e.f1, y9⟩)) (.agg (En.cells ⟨e.nm, e.f0, e.f1, y9⟩)) (.bool true) (by kernel_rfl) (by kernel_rfl) (by kernel_rfl) (by rw [eqE_eql, eqE_refl'])) hH ?_
    try simp only [pA, pB, p1, p2, p3]
    refine aT (i := 8) (oi := { dst := some 78, op := Op.pick (Operand.tmp 71) (Operand.tmp 77) (Operand.const (Value.bool false)), type := 4, pos := "own.go:155", after := #[{ on := 1, ground := Ground.data }, { on := 7, ground := Ground.data }], guard := none }) (v := .bool true) (fun _ _ => by kernel_rfl) hH ?_
    try simp only [pA, pB, p1, p2, p3]
    refine aT (i := 9) (oi := { dst := some 79, op := Op.move (Operand.tmp 78), type := 4, pos := "own.go:155", after := #[{ on := 8, ground := Ground.data }, { on := 1, ground := Ground.chain }], guard := none }) (v := .bool true) (fun _ _ => by kernel_rfl) hH ?_
    try simp only [pA, pB, p1, p2, p3]
    refine aT (i := 10) (oi := { dst := some 80, op := Op.fieldAddr 36 (Operand.tmp 10) 2, type := 0, pos := "own.go:155", after := #[{ on := 9, ground := Ground.guard }], guard := some (9, true) }) (v := .pointer (some ⟨gk50, 5, none⟩)) (fun _ _ => by kernel_rfl) hH ?_
    try simp only [pA, pB, p1, p2, p3]
    refine aT (i := 11) (oi := { dst := some 81, op := Op.load 23 (Operand.tmp 80), type := 23, pos := "own.go:155", after := #[{ on := 10, ground := Ground.data }, { on := 9, ground := Ground.guard }], guard := some (9, true) }) (v := .slice za zn zc) (fun w' hw => exec_load 23 _ rfl ⟨gk50, 5, none⟩ (by kernel_rfl) (.slice za zn zc) (load_one ((hw.1.box 5 _ _ _ rfl).cell 5 |>.trans (by kernel_rfl)) Try.und22 rfl)) hH ?_
    try simp only [pA, pB, p1, p2, p3]
    refine aT (i := 12) (oi := { dst := some 82, op := Op.fieldAddr 26 (Operand.tmp 5) 1, type := 0, pos := "own.go:155", after := #[{ on := 9, ground := Ground.guard }], guard := some (9, true) }) (v := .pointer (some ⟨gk4, 1, none⟩)) (fun _ _ => by kernel_rfl) hH ?_
    try simp only [pA, pB, p1, p2, p3]
    refine aT (i := 13) (oi := { dst := some 83, op := Op.load 23 (Operand.tmp 82), type := 23, pos := "own.go:155", after := #[{ on := 12, ground := Ground.data }, { on := 9, ground := Ground.guard }], guard := some (9, true) }) (v := .slice (some ⟨g9, 0, none⟩) mn0 mc0) (fun w' hw => exec_load 23 _ rfl ⟨gk4, 1, none⟩ (by kernel_rfl) (.slice (some ⟨g9, 0, none⟩) mn0 mc0) (load_one ((hw.1.box 1 _ _ _ rfl).cell 1 |>.trans (by kernel_rfl)) Try.und22 rfl)) hH ?_
    try simp only [pA, pB, p1, p2, p3]
    refine any_call (i := 14) (o := { dst := some 84, op := Op.call { callee := Callee.value (Operand.func 12), args := #[Operand.tmp 81, Operand.tmp 83], argTypes := #[23, 23] }, type := 4, pos := "own.go:155", after := #[{ on := 11, ground := Ground.data }, { on := 13, ground := Ground.data }, { on := 9, ground := Ground.chain }, { on := 9, ground := Ground.guard }], guard := some (9, true) }) rfl (by kernel_rfl) (by kernel_rfl) 12 #[.slice za zn zc, .slice (some ⟨g9, 0, none⟩) mn0 mc0] (by kernel_rfl) _ (sameE_any za zn zc (some ⟨g9, 0, none⟩) mn0 mc0 (⟨e.nm, e.f0, e.f1, y9⟩ :: t) (⟨e.nm, e.f0, e.f1, y9⟩ :: t) _ (HZs.out.no HK0.out).rd (HEs.out.no HK0.out).rd (by omega)) ?_
    rintro e wk55 ⟨rfl, hk⟩
    have hH2 : Fr No w wk55 [(gk1, 26, Bv.cells ⟨up, ⟨(some ⟨eb, eo, none⟩), en, ec⟩, ⟨la, ln, lc⟩⟩), (gk4, 26, Bv.cells ⟨up, ⟨(some ⟨g9, 0, none⟩), mn0, mc0⟩, ⟨la0, ln0, lc0⟩⟩), (gk7, 31, Cm.cells ⟨4, 3, 9, ⟨#[]⟩, 0, 0, 0, 0, 0⟩), (gk44, 34, En.cells ⟨e.nm, e.f0, e.f1, y9⟩), (gk48, 26, Bv.cells ⟨up + 1, ⟨xa, xn, xc⟩, ⟨ya, yn, yc⟩⟩), (gk50, 36, Av.cells ⟨0, enZ, ⟨za, zn, zc⟩⟩)] ∧ RdE wk55 ⟨(some ⟨g9, 0, none⟩), mn0, mc0⟩ (⟨e.nm, e.f0, e.f1, y9⟩ :: t) := ⟨hH.1.no hk, hH.2.no hk⟩
    have HK0 : Hid (Kept No wk53 (wk55)) := HK0.out.no hk
    have HF : Hid (Fr No w (wk55) [(gk1, 26, Bv.cells ⟨up, ⟨(some ⟨eb, eo, none⟩), en, ec⟩, ⟨la, ln, lc⟩⟩), (gk4, 26, Bv.cells ⟨up, ⟨(some ⟨g9, 0, none⟩), mn0, mc0⟩, ⟨la0, ln0, lc0⟩⟩), (gk7, 31, Cm.cells ⟨4, 3, 9, ⟨#[]⟩, 0, 0, 0, 0, 0⟩), (gk44, 34, En.cells ⟨e.nm, e.f0, e.f1, y9⟩), (gk48, 26, Bv.cells ⟨up + 1, ⟨xa, xn, xc⟩, ⟨ya, yn, yc⟩⟩), (gk50, 36, Av.cells ⟨0, enZ, ⟨za, zn, zc⟩⟩)]) := HF.out.no hk
    clear hk
    refine ⟨.bool true, by rw [sameE_iff.2 rfl], hH2, fun hH => ?_⟩
    clear hH2
    try simp only [pA, pB, p1, p2, p3]
    refine aT (i := 15) (oi := { dst := some 85, op := Op.pick (Operand.tmp 79) (Operand.tmp 84) (Operand.const (Value.bool false)), type := 4, pos := "own.go:155", after := #[{ on := 9, ground := Ground.data }, { on := 14, ground := Ground.data }], guard := none }) (v := .bool true) (fun _ _ => by kernel_rfl) hH ?_
    try simp only [pA, pB, p1, p2, p3]
    refine aT (i := 16) (oi := { dst := some 4, op := Op.assign (Operand.tmp 85), type := 4, pos := "own.go:155", after := #[{ on := 15, ground := Ground.data }, { on := 14, ground := Ground.chain }, { on := 0, ground := Ground.phase }, { on := 1, ground := Ground.phase }, { on := 2, ground := Ground.phase }, { on := 3, ground := Ground.phase }, { on := 4, ground := Ground.phase }, { on := 5, ground := Ground.phase }, { on := 6, ground := Ground.phase }, { on := 7, ground := Ground.phase }, { on := 8, ground := Ground.phase }, { on := 9, ground := Ground.phase }, { on := 10, ground := Ground.phase }, { on := 11, ground := Ground.phase }, { on := 12, ground := Ground.phase }, { on := 13, ground := Ground.phase }, { on := 14, ground := Ground.phase }, { on := 15, ground := Ground.phase }], guard := none }) (v := .bool true) (fun _ _ => by kernel_rfl) hH ?_
    try simp only [pA, pB, p1, p2, p3]
    refine wpAnyH_done (by kernel_rfl) ?_ _
    try simp only [pA, pB, p1, p2, p3]
    clear hH
    go_wp2
    rw [HC.out]
    exact ⟨rfl, HF.out.kept⟩
   ·skip
    clear hi
    refine step_run (i := 10) (o := { dst := some 7, op := Op.alloc 34, type := 0, pos := "own.go:153", after := #[], guard := none }) rfl (by kernel_rfl) (exec_alloc 34 rfl (En.cells enZ) zero54) (Fr.front (l1 := [(gk1, 26, Bv.cells ⟨up, ⟨(some ⟨eb, eo, none⟩), en, ec⟩, ⟨la, ln, lc⟩⟩), (gk4, 26, Bv.cells ⟨up, ⟨(some ⟨g9, 0, none⟩), mn0, mc0⟩, ⟨la0, ln0, lc0⟩⟩), (gk7, 31, Cm.cells ⟨4, 3, 9, ⟨#[]⟩, 0, 0, 0, 0, 0⟩)]) (l2 := [_]) (hH.alloc _ _)) (fun hH => ?_)
    try simp only [pA, pB, p1, p2, p3]
    have hx0_gk56 : s0 ≤ wk42.heap.size := by rw [← HS0.out]; exact HK0.out.size
    have HK0 : Hid (Kept No wk41 (wk42.alloc (.cells (En.cells enZ) 34))) := HK0.out.no ((Kept.refl No _).alloc _)
    have HF : Hid (Fr No w (wk42.alloc (.cells (En.cells enZ) 34)) [(gk1, 26, Bv.cells ⟨up, ⟨(some ⟨eb, eo, none⟩), en, ec⟩, ⟨la, ln, lc⟩⟩), (gk4, 26, Bv.cells ⟨up, ⟨(some ⟨g9, 0, none⟩), mn0, mc0⟩, ⟨la0, ln0, lc0⟩⟩), (gk7, 31, Cm.cells ⟨4, 3, 9, ⟨#[]⟩, 0, 0, 0, 0, 0⟩), (wk42.heap.size, 34, En.cells enZ)]) := HF.out.alloc _ _
    generalize wk42.alloc (.cells (En.cells enZ) 34) = wk57 at HF HK0 hH ⊢
    generalize wk42.heap.size = gk56 at HF hx0_gk56 ⊢
    refine any_call (i := 6) (o := { dst := some 59, op := Op.call { callee := Callee.value (Operand.func 26), args := #[Operand.tmp 53, Operand.tmp 58], argTypes := #[26, 9] }, type := 69, pos := "own.go:153", after := #[{ on := 0, ground := Ground.data }, { on := 5, ground := Ground.data }], guard := none }) rfl (by kernel_rfl) (by kernel_rfl) 26 #[.agg (Bv.cells ⟨up, ⟨(some ⟨g9, 0, none⟩), mn0, mc0⟩, ⟨la0, ln0, lc0⟩⟩), .string e.nm] (by kernel_rfl) _ (find_moved up (some ⟨g9, 0, none⟩) mn0 mc0 ⟨la0, ln0, lc0⟩ e t y9 _ HR.out (HEs.out.no HK0.out).rd (by omega)) ?_
    rintro e wk58 ⟨rfl, hk⟩
    have hH2 : Fr No w wk58 [(gk1, 26, Bv.cells ⟨up, ⟨(some ⟨eb, eo, none⟩), en, ec⟩, ⟨la, ln, lc⟩⟩), (gk4, 26, Bv.cells ⟨up, ⟨(some ⟨g9, 0, none⟩), mn0, mc0⟩, ⟨la0, ln0, lc0⟩⟩), (gk7, 31, Cm.cells ⟨4, 3, 9, ⟨#[]⟩, 0, 0, 0, 0, 0⟩)] := hH.no hk
    have HK0 : Hid (Kept No wk41 (wk58)) := HK0.out.no hk
    have HF : Hid (Fr No w (wk58) [(gk1, 26, Bv.cells ⟨up, ⟨(some ⟨eb, eo, none⟩), en, ec⟩, ⟨la, ln, lc⟩⟩), (gk4, 26, Bv.cells ⟨up, ⟨(some ⟨g9, 0, none⟩), mn0, mc0⟩, ⟨la0, ln0, lc0⟩⟩), (gk7, 31, Cm.cells ⟨4, 3, 9, ⟨#[]⟩, 0, 0, 0, 0, 0⟩), (gk56, 34, En.cells enZ)]) := HF.out.no hk
    clear hk
    refine ⟨.tuple #[.agg (En.cells ⟨e.nm, e.f0, e.f1, y9⟩), .bool true], rfl, hH2, fun hH => ?_⟩
    clear hH2
    try simp only [pA, pB, p1, p2, p3]
    refine aT (i := 7) (oi := { dst := some 52, op := Op.move (Operand.tmp 59), type := 69, pos := "own.go:153", after := #[{ on := 6, ground := Ground.data }], guard := none }) (v := .tuple #[.agg (En.cells ⟨e.nm, e.f0, e.f1, y9⟩), .bool true]) (fun _ _ => by kernel_rfl) hH ?_
    try simp only [pA, pB, p1, p2, p3]
    refine aT (i := 8) (oi := { dst := some 60, op := Op.extract (Operand.tmp 52) 0, type := 34, pos := "own.go:153", after := #[{ on := 7, ground := Ground.data }], guard := none }) (v := .agg (En.cells ⟨e.nm, e.f0, e.f1, y9⟩)) (fun _ _ => by kernel_rfl) hH ?_
    try simp only [pA, pB, p1, p2, p3]
    refine aT (i := 9) (oi := { dst := some 61, op := Op.extract (Operand.tmp 52) 1, type := 4, pos := "own.go:153", after := #[{ on := 7, ground := Ground.data }, { on := 11, ground := Ground.gcOnly Departure.lateStores }], guard := none }) (v := .bool true) (fun _ _ => by kernel_rfl) hH ?_
    try simp only [pA, pB, p1, p2, p3]
    refine any_store (i := 11) (o := { dst := none, op := Op.store 34 (Operand.tmp 7) (Operand.tmp 60), type := 0, pos := "own.go:153", after := #[{ on := 10, ground := Ground.data }, { on := 8, ground := Ground.data }, { on := 6, ground := Ground.chain }, { on := 0, ground := Ground.phase }, { on := 1, ground := Ground.phase }, { on := 2, ground := Ground.phase }, { on := 3, ground := Ground.phase }, { on := 4, ground := Ground.phase }, { on := 5, ground := Ground.phase }, { on := 6, ground := Ground.phase }, { on := 7, ground := Ground.phase }, { on := 8, ground := Ground.phase }, { on := 9, ground := Ground.textOnly Departure.lateStores }, { on := 10, ground := Ground.phase }], guard := none }) (w' := wk58.setRow gk56 (En.cells ⟨e.nm, e.f0, e.f1, y9⟩)) rfl (by kernel_rfl) (by kernel_rfl) 34 _ _ rfl ⟨gk56, 0, none⟩ (.agg (En.cells ⟨e.nm, e.f0, e.f1, y9⟩)) (by kernel_rfl) (by kernel_rfl) (run_store_to (cur := En.cs enZ) (vs := En.cs ⟨e.nm, e.f0, e.f1, y9⟩) (new := En.cs ⟨e.nm, e.f0, e.f1, y9⟩) (HF.out.box 3 _ _ _ rfl) (by kernel_rfl) Try.size54 (Nat.le_of_ble_eq_true (by kernel_rfl)) (En.oneL _) (by kernel_rfl)) (Fr.front (l1 := [(gk1, 26, Bv.cells ⟨up, ⟨(some ⟨eb, eo, none⟩), en, ec⟩, ⟨la, ln, lc⟩⟩), (gk4, 26, Bv.cells ⟨up, ⟨(some ⟨g9, 0, none⟩), mn0, mc0⟩, ⟨la0, ln0, lc0⟩⟩), (gk7, 31, Cm.cells ⟨4, 3, 9, ⟨#[]⟩, 0, 0, 0, 0, 0⟩)]) (l2 := [(gk56, 34, En.cells ⟨e.nm, e.f0, e.f1, y9⟩)]) (HF.out.set 3 rfl _)) (fun hH => ?_)
    try simp only [pA, pB, p1, p2, p3]
    have HK0 : Hid (Kept No wk41 (wk58.setRow gk56 (En.cells ⟨e.nm, e.f0, e.f1, y9⟩))) := HK0.out.newRow (by rw [HS0.out]; exact hx0_gk56) _
    have HF : Hid (Fr No w (wk58.setRow gk56 (En.cells ⟨e.nm, e.f0, e.f1, y9⟩)) [(gk1, 26, Bv.cells ⟨up, ⟨(some ⟨eb, eo, none⟩), en, ec⟩, ⟨la, ln, lc⟩⟩), (gk4, 26, Bv.cells ⟨up, ⟨(some ⟨g9, 0, none⟩), mn0, mc0⟩, ⟨la0, ln0, lc0⟩⟩), (gk7, 31, Cm.cells ⟨4, 3, 9, ⟨#[]⟩, 0, 0, 0, 0, 0⟩), (gk56, 34, En.cells ⟨e.nm, e.f0, e.f1, y9⟩)]) := HF.out.set 3 rfl _
    generalize wk58.setRow gk56 (En.cells ⟨e.nm, e.f0, e.f1, y9⟩) = wk59 at HF HK0 hH ⊢
    refine aT (i := 12) (oi := { dst := some 8, op := Op.assign (Operand.tmp 61), type := 4, pos := "own.go:153", after := #[{ on := 9, ground := Ground.data }, { on := 11, ground := Ground.chain }, { on := 0, ground := Ground.phase }, { on := 1, ground := Ground.phase }, { on := 2, ground := Ground.phase }, { on := 3, ground := Ground.phase }, { on := 4, ground := Ground.phase }, { on := 5, ground := Ground.phase }, { on := 6, ground := Ground.phase }, { on := 7, ground := Ground.phase }, { on := 8, ground := Ground.phase }, { on := 9, ground := Ground.phase }, { on := 10, ground := Ground.phase }, { on := 11, ground := Ground.phase }], guard := none }) (v := .bool true) (fun _ _ => by kernel_rfl) hH ?_
    try simp only [pA, pB, p1, p2, p3]
    refine wpAnyH_done (by kernel_rfl) ?_ _
    try simp only [pA, pB, p1, p2, p3]
    clear hH
    have HE : Hid (OwE wk59 w.heap.size ⟨(some ⟨g9, 0, none⟩), mn0, mc0⟩ (⟨e.nm, e.f0, e.f1, y9⟩ :: t)) := HEs.out.no HK0.out
    have HL : Hid (OwL wk59 w.heap.size ⟨la0, ln0, lc0⟩ ls) := HLs.out.no HK0.out
    clear HEs HLs HK0 HS0 hx0_gk56
    have HEs : Hid (OwE wk59 w.heap.size ⟨(some ⟨g9, 0, none⟩), mn0, mc0⟩ (⟨e.nm, e.f0, e.f1, y9⟩ :: t)) := HE
    clear HE
    have HLs : Hid (OwL wk59 w.heap.size ⟨la0, ln0, lc0⟩ ls) := HL
    clear HL
    have HK0 : Hid (Kept No wk59 wk59) := Kept.refl _ _
    obtain ⟨s0, hs0⟩ : ∃ n, wk59.heap.size = n := ⟨_, rfl⟩
    have HS0 : Hid (wk59.heap.size = s0) := hs0
    clear hs0
    go_upto_region 11 with fail
    refine WL.start ?_
    refine tW (.agg (Bv.cells ⟨up, ⟨(some ⟨g9, 0, none⟩), mn0, mc0⟩, ⟨la0, ln0, lc0⟩⟩)) (exec_load 26 _ rfl ⟨gk4, 0, none⟩ (by kernel_rfl) (.agg (Bv.cells ⟨up, ⟨(some ⟨g9, 0, none⟩), mn0, mc0⟩, ⟨la0, ln0, lc0⟩⟩)) (run_load_part (cs := Bv.cs ⟨up, ⟨(some ⟨g9, 0, none⟩), mn0, mc0⟩, ⟨la0, ln0, lc0⟩⟩) (sub := Bv.cs ⟨up, ⟨(some ⟨g9, 0, none⟩), mn0, mc0⟩, ⟨la0, ln0, lc0⟩⟩) (HF.out.box 1 _ _ _ rfl) (Part.all _) Try.und25 rfl Try.size25)) ?_
    try simp only [pA, pB, p1, p2, p3]
    refine tW (.agg (Cm.cells ⟨4, 3, 9, ⟨#[]⟩, 0, 0, 0, 0, 0⟩)) (exec_load 31 _ rfl ⟨gk7, 0, none⟩ (by kernel_rfl) (.agg (Cm.cells ⟨4, 3, 9, ⟨#[]⟩, 0, 0, 0, 0, 0⟩)) (run_load_part (cs := Cm.cs ⟨4, 3, 9, ⟨#[]⟩, 0, 0, 0, 0, 0⟩) (sub := Cm.cs ⟨4, 3, 9, ⟨#[]⟩, 0, 0, 0, 0, 0⟩) (HF.out.box 2 _ _ _ rfl) (Part.all _) Try.und29 rfl Try.size29)) ?_
    try simp only [pA, pB, p1, p2, p3]
    refine tK (.int .i64 room) ?_
    try simp only [pA, pB, p1, p2, p3]
    refine wp_callW 6 #[.agg (Bv.cells ⟨up, ⟨(some ⟨g9, 0, none⟩), mn0, mc0⟩, ⟨la0, ln0, lc0⟩⟩), .agg (Cm.cells ⟨4, 3, 9, ⟨#[]⟩, 0, 0, 0, 0, 0⟩), .int .i64 room] (by kernel_rfl) _ (apply_list up (some ⟨g9, 0, none⟩) mn0 mc0 la0 ln0 lc0 (⟨e.nm, e.f0, e.f1, y9⟩ :: t) ls room _ hu hu2 (HEs.out.no HK0.out).rd (HLs.out.no HK0.out).rd (by omega) (by omega)) (by kernel_rfl) ?_
    rintro e9 wk60 ⟨⟨xa, xn, xc⟩, ⟨ya, yn, yc⟩, ⟨za, zn, zc⟩, rfl, hse, hsl, hsx, hap, hk⟩
    have HK0 : Hid (Kept No wk59 (wk60)) := HK0.out.no hk
    have HF : Hid (Fr No w (wk60) [(gk1, 26, Bv.cells ⟨up, ⟨(some ⟨eb, eo, none⟩), en, ec⟩, ⟨la, ln, lc⟩⟩), (gk4, 26, Bv.cells ⟨up, ⟨(some ⟨g9, 0, none⟩), mn0, mc0⟩, ⟨la0, ln0, lc0⟩⟩), (gk7, 31, Cm.cells ⟨4, 3, 9, ⟨#[]⟩, 0, 0, 0, 0, 0⟩), (gk56, 34, En.cells ⟨e.nm, e.f0, e.f1, y9⟩)]) := HF.out.no hk
    have HZ6 : Hid (OwE wk60 0 ⟨za, zn, zc⟩ (⟨e.nm, e.f0, e.f1, y9⟩ :: t)) := hsx.lower (Nat.zero_le _)
    have hzn : t.length + 1 = zn := hsx.len
    clear hse hsl hsx hap hk
    have HK1 : Hid (Kept No wk60 wk60) := Kept.refl _ _
    obtain ⟨s1, hs1⟩ : ∃ n, wk60.heap.size = n := ⟨_, rfl⟩
    have HS1 : Hid (wk60.heap.size = s1) := hs1
    clear hs1
    refine ⟨.tuple #[.agg (Bv.cells ⟨up + 1, ⟨xa, xn, xc⟩, ⟨ya, yn, yc⟩⟩), .agg (Av.cells ⟨0, enZ, ⟨za, zn, zc⟩⟩), .int .i64 0], rfl, ?_⟩
    try simp only [pA, pB, p1, p2, p3]
    refine tK (.tuple #[.agg (Bv.cells ⟨up + 1, ⟨xa, xn, xc⟩, ⟨ya, yn, yc⟩⟩), .agg (Av.cells ⟨0, enZ, ⟨za, zn, zc⟩⟩), .int .i64 0]) ?_
    try simp only [pA, pB, p1, p2, p3]
    refine tK (.agg (Bv.cells ⟨up + 1, ⟨xa, xn, xc⟩, ⟨ya, yn, yc⟩⟩)) ?_
    try simp only [pA, pB, p1, p2, p3]
    refine tK (.agg (Av.cells ⟨0, enZ, ⟨za, zn, zc⟩⟩)) ?_
    try simp only [pA, pB, p1, p2, p3]
    refine tK (.int .i64 0) ?_
    try simp only [pA, pB, p1, p2, p3]
    refine wp_runW (.pointer (some ⟨wk60.heap.size, 0, none⟩)) (wk60.alloc (.cells (Bv.cells bvZ) 26)) (exec_alloc 26 rfl (Bv.cells bvZ) zero25) (by kernel_rfl) ?_
    try simp only [pA, pB, p1, p2, p3]
    have hx0_gk61 : s0 ≤ wk60.heap.size := by rw [← HS0.out]; exact HK0.out.size
    have hx1_gk61 : s1 ≤ wk60.heap.size := by rw [← HS1.out]; exact HK1.out.size
    have HK0 : Hid (Kept No wk59 (wk60.alloc (.cells (Bv.cells bvZ) 26))) := HK0.out.no ((Kept.refl No _).alloc _)
    have HK1 : Hid (Kept No wk60 (wk60.alloc (.cells (Bv.cells bvZ) 26))) := HK1.out.no ((Kept.refl No _).alloc _)
    have HF : Hid (Fr No w (wk60.alloc (.cells (Bv.cells bvZ) 26)) [(gk1, 26, Bv.cells ⟨up, ⟨(some ⟨eb, eo, none⟩), en, ec⟩, ⟨la, ln, lc⟩⟩), (gk4, 26, Bv.cells ⟨up, ⟨(some ⟨g9, 0, none⟩), mn0, mc0⟩, ⟨la0, ln0, lc0⟩⟩), (gk7, 31, Cm.cells ⟨4, 3, 9, ⟨#[]⟩, 0, 0, 0, 0, 0⟩), (gk56, 34, En.cells ⟨e.nm, e.f0, e.f1, y9⟩), (wk60.heap.size, 26, Bv.cells bvZ)]) := HF.out.alloc _ _
    generalize wk60.alloc (.cells (Bv.cells bvZ) 26) = wk62 at HF HK0 HK1 ⊢
    generalize wk60.heap.size = gk61 at HF hx0_gk61 hx1_gk61 ⊢
    refine wp_runW (.pointer (some ⟨wk62.heap.size, 0, none⟩)) (wk62.alloc (.cells (Av.cells avZ) 36)) (exec_alloc 36 rfl (Av.cells avZ) zero56) (by kernel_rfl) ?_
    try simp only [pA, pB, p1, p2, p3]
    have hx0_gk63 : s0 ≤ wk62.heap.size := by rw [← HS0.out]; exact HK0.out.size
    have hx1_gk63 : s1 ≤ wk62.heap.size := by rw [← HS1.out]; exact HK1.out.size
    have HK0 : Hid (Kept No wk59 (wk62.alloc (.cells (Av.cells avZ) 36))) := HK0.out.no ((Kept.refl No _).alloc _)
    have HK1 : Hid (Kept No wk60 (wk62.alloc (.cells (Av.cells avZ) 36))) := HK1.out.no ((Kept.refl No _).alloc _)
    have HF : Hid (Fr No w (wk62.alloc (.cells (Av.cells avZ) 36)) [(gk1, 26, Bv.cells ⟨up, ⟨(some ⟨eb, eo, none⟩), en, ec⟩, ⟨la, ln, lc⟩⟩), (gk4, 26, Bv.cells ⟨up, ⟨(some ⟨g9, 0, none⟩), mn0, mc0⟩, ⟨la0, ln0, lc0⟩⟩), (gk7, 31, Cm.cells ⟨4, 3, 9, ⟨#[]⟩, 0, 0, 0, 0, 0⟩), (gk56, 34, En.cells ⟨e.nm, e.f0, e.f1, y9⟩), (gk61, 26, Bv.cells bvZ), (wk62.heap.size, 36, Av.cells avZ)]) := HF.out.alloc _ _
    generalize wk62.alloc (.cells (Av.cells avZ) 36) = wk64 at HF HK0 HK1 ⊢
    generalize wk62.heap.size = gk63 at HF hx0_gk63 hx1_gk63 ⊢
    refine wp_storeW 26 _ _ rfl ⟨gk61, 0, none⟩ (.agg (Bv.cells ⟨up + 1, ⟨xa, xn, xc⟩, ⟨ya, yn, yc⟩⟩)) (by kernel_rfl) (by kernel_rfl) (wk64.setRow gk61 (Bv.cells ⟨up + 1, ⟨xa, xn, xc⟩, ⟨ya, yn, yc⟩⟩)) (run_store_to (cur := Bv.cs bvZ) (vs := Bv.cs ⟨up + 1, ⟨xa, xn, xc⟩, ⟨ya, yn, yc⟩⟩) (new := Bv.cs ⟨up + 1, ⟨xa, xn, xc⟩, ⟨ya, yn, yc⟩⟩) (HF.out.box 4 _ _ _ rfl) (by kernel_rfl) Try.size25 (Nat.le_of_ble_eq_true (by kernel_rfl)) (Bv.oneL _) (by kernel_rfl)) (by kernel_rfl) ?_
    try simp only [pA, pB, p1, p2, p3]
    have HK0 : Hid (Kept No wk59 (wk64.setRow gk61 (Bv.cells ⟨up + 1, ⟨xa, xn, xc⟩, ⟨ya, yn, yc⟩⟩))) := HK0.out.newRow (by rw [HS0.out]; exact hx0_gk61) _
    have HK1 : Hid (Kept No wk60 (wk64.setRow gk61 (Bv.cells ⟨up + 1, ⟨xa, xn, xc⟩, ⟨ya, yn, yc⟩⟩))) := HK1.out.newRow (by rw [HS1.out]; exact hx1_gk61) _
    have HF : Hid (Fr No w (wk64.setRow gk61 (Bv.cells ⟨up + 1, ⟨xa, xn, xc⟩, ⟨ya, yn, yc⟩⟩)) [(gk1, 26, Bv.cells ⟨up, ⟨(some ⟨eb, eo, none⟩), en, ec⟩, ⟨la, ln, lc⟩⟩), (gk4, 26, Bv.cells ⟨up, ⟨(some ⟨g9, 0, none⟩), mn0, mc0⟩, ⟨la0, ln0, lc0⟩⟩), (gk7, 31, Cm.cells ⟨4, 3, 9, ⟨#[]⟩, 0, 0, 0, 0, 0⟩), (gk56, 34, En.cells ⟨e.nm, e.f0, e.f1, y9⟩), (gk61, 26, Bv.cells ⟨up + 1, ⟨xa, xn, xc⟩, ⟨ya, yn, yc⟩⟩), (gk63, 36, Av.cells avZ)]) := HF.out.set 4 rfl _
    generalize wk64.setRow gk61 (Bv.cells ⟨up + 1, ⟨xa, xn, xc⟩, ⟨ya, yn, yc⟩⟩) = wk65 at HF HK0 HK1 ⊢
    refine wp_storeW 36 _ _ rfl ⟨gk63, 0, none⟩ (.agg (Av.cells ⟨0, enZ, ⟨za, zn, zc⟩⟩)) (by kernel_rfl) (by kernel_rfl) (wk65.setRow gk63 (Av.cells ⟨0, enZ, ⟨za, zn, zc⟩⟩)) (run_store_to (cur := Av.cs avZ) (vs := Av.cs ⟨0, enZ, ⟨za, zn, zc⟩⟩) (new := Av.cs ⟨0, enZ, ⟨za, zn, zc⟩⟩) (HF.out.box 5 _ _ _ rfl) (by kernel_rfl) Try.size56 (Nat.le_of_ble_eq_true (by kernel_rfl)) (Av.oneL _) (by kernel_rfl)) (by kernel_rfl) ?_
    try simp only [pA, pB, p1, p2, p3]
    have HK0 : Hid (Kept No wk59 (wk65.setRow gk63 (Av.cells ⟨0, enZ, ⟨za, zn, zc⟩⟩))) := HK0.out.newRow (by rw [HS0.out]; exact hx0_gk63) _
    have HK1 : Hid (Kept No wk60 (wk65.setRow gk63 (Av.cells ⟨0, enZ, ⟨za, zn, zc⟩⟩))) := HK1.out.newRow (by rw [HS1.out]; exact hx1_gk63) _
    have HF : Hid (Fr No w (wk65.setRow gk63 (Av.cells ⟨0, enZ, ⟨za, zn, zc⟩⟩)) [(gk1, 26, Bv.cells ⟨up, ⟨(some ⟨eb, eo, none⟩), en, ec⟩, ⟨la, ln, lc⟩⟩), (gk4, 26, Bv.cells ⟨up, ⟨(some ⟨g9, 0, none⟩), mn0, mc0⟩, ⟨la0, ln0, lc0⟩⟩), (gk7, 31, Cm.cells ⟨4, 3, 9, ⟨#[]⟩, 0, 0, 0, 0, 0⟩), (gk56, 34, En.cells ⟨e.nm, e.f0, e.f1, y9⟩), (gk61, 26, Bv.cells ⟨up + 1, ⟨xa, xn, xc⟩, ⟨ya, yn, yc⟩⟩), (gk63, 36, Av.cells ⟨0, enZ, ⟨za, zn, zc⟩⟩)]) := HF.out.set 5 rfl _
    generalize wk65.setRow gk63 (Av.cells ⟨0, enZ, ⟨za, zn, zc⟩⟩) = wk66 at HF HK0 HK1 ⊢
    refine tK (.int .i64 0) ?_
    try simp only [pA, pB, p1, p2, p3]
    refine WL.nil ?_
    try simp only [pA, pB, p1, p2, p3]
    have HE : Hid (OwE wk66 w.heap.size ⟨(some ⟨g9, 0, none⟩), mn0, mc0⟩ (⟨e.nm, e.f0, e.f1, y9⟩ :: t)) := HEs.out.no HK0.out
    have HL : Hid (OwL wk66 w.heap.size ⟨la0, ln0, lc0⟩ ls) := HLs.out.no HK0.out
    have HZ : Hid (OwE wk66 0 ⟨za, zn, zc⟩ (⟨e.nm, e.f0, e.f1, y9⟩ :: t)) := HZ6.out.no HK1.out
    clear HEs HLs HZ6 HK1 HS1 HK0 HS0 hx0_gk61 hx1_gk61 hx0_gk63 hx1_gk63
    have HEs : Hid (OwE wk66 w.heap.size ⟨(some ⟨g9, 0, none⟩), mn0, mc0⟩ (⟨e.nm, e.f0, e.f1, y9⟩ :: t)) := HE
    clear HE
    have HLs : Hid (OwL wk66 w.heap.size ⟨la0, ln0, lc0⟩ ls) := HL
    clear HL
    have HZs : Hid (OwE wk66 0 ⟨za, zn, zc⟩ (⟨e.nm, e.f0, e.f1, y9⟩ :: t)) := HZ
    clear HZ
    have HK0 : Hid (Kept No wk66 wk66) := Kept.refl _ _
    obtain ⟨s0, hs0⟩ : ∃ n, wk66.heap.size = n := ⟨_, rfl⟩
    have HS0 : Hid (wk66.heap.size = s0) := hs0
    clear hs0
    go_upto_region 12 with fail
    refine wp_region_held_drew (S := fun w' => Fr No w w' [(gk1, 26, Bv.cells ⟨up, ⟨(some ⟨eb, eo, none⟩), en, ec⟩, ⟨la, ln, lc⟩⟩), (gk4, 26, Bv.cells ⟨up, ⟨(some ⟨g9, 0, none⟩), mn0, mc0⟩, ⟨la0, ln0, lc0⟩⟩), (gk7, 31, Cm.cells ⟨4, 3, 9, ⟨#[]⟩, 0, 0, 0, 0, 0⟩), (gk56, 34, En.cells ⟨e.nm, e.f0, e.f1, y9⟩), (gk61, 26, Bv.cells ⟨up + 1, ⟨xa, xn, xc⟩, ⟨ya, yn, yc⟩⟩), (gk63, 36, Av.cells ⟨0, enZ, ⟨za, zn, zc⟩⟩)] ∧ RdE w' ⟨(some ⟨g9, 0, none⟩), mn0, mc0⟩ (⟨e.nm, e.f0, e.f1, y9⟩ :: t)) rfl ⟨HF.out.drew, HEs.out.rd.no (Kept.refl No _).drew⟩ (fun hH => ?_)
    have HK0 : Hid (Kept No wk66 (wk66.drew)) := HK0.out.no (Kept.refl No _).drew
    have HF : Hid (Fr No w (wk66.drew) [(gk1, 26, Bv.cells ⟨up, ⟨(some ⟨eb, eo, none⟩), en, ec⟩, ⟨la, ln, lc⟩⟩), (gk4, 26, Bv.cells ⟨up, ⟨(some ⟨g9, 0, none⟩), mn0, mc0⟩, ⟨la0, ln0, lc0⟩⟩), (gk7, 31, Cm.cells ⟨4, 3, 9, ⟨#[]⟩, 0, 0, 0, 0, 0⟩), (gk56, 34, En.cells ⟨e.nm, e.f0, e.f1, y9⟩), (gk61, 26, Bv.cells ⟨up + 1, ⟨xa, xn, xc⟩, ⟨ya, yn, yc⟩⟩), (gk63, 36, Av.cells ⟨0, enZ, ⟨za, zn, zc⟩⟩)]) := HF.out.drew
    generalize wk66.drew = wk67 at HF HK0 hH ⊢
    refine aT (i := 0) (oi := { dst := some 70, op := Op.move (Operand.tmp 8), type := 4, pos := "own.go:155", after := #[], guard := none }) (v := .bool true) (fun _ _ => by kernel_rfl) hH ?_
    try simp only [pA, pB, p1, p2, p3]
    refine aT (i := 1) (oi := { dst := some 71, op := Op.move (Operand.tmp 70), type := 4, pos := "own.go:155", after := #[{ on := 0, ground := Ground.data }], guard := none }) (v := .bool true) (fun _ _ => by kernel_rfl) hH ?_
    try simp only [pA, pB, p1, p2, p3]
    refine aT (i := 2) (oi := { dst := some 72, op := Op.load 34 (Operand.tmp 7), type := 34, pos := "own.go:155", after := #[{ on := 1, ground := Ground.guard }], guard := some (1, true) }) (v := .agg (En.cells ⟨e.nm, e.f0, e.f1, y9⟩)) (fun w' hw => exec_load 34 _ rfl ⟨gk56, 0, none⟩ (by kernel_rfl) (.agg (En.cells ⟨e.nm, e.f0, e.f1, y9⟩)) (run_load_part (cs := En.cs ⟨e.nm, e.f0, e.f1, y9⟩) (sub := En.cs ⟨e.nm, e.f0, e.f1, y9⟩) (hw.1.box 3 _ _ _ rfl) (Part.all _) Try.und54 rfl Try.size54)) hH ?_
    try simp only [pA, pB, p1, p2, p3]
    refine aT (i := 3) (oi := { dst := some 73, op := Op.fieldAddr 26 (Operand.tmp 5) 1, type := 0, pos := "own.go:155", after := #[{ on := 1, ground := Ground.guard }], guard := some (1, true) }) (v := .pointer (some ⟨gk4, 1, none⟩)) (fun _ _ => by kernel_rfl) hH ?_
    try simp only [pA, pB, p1, p2, p3]
    refine aT (i := 4) (oi := { dst := some 74, op := Op.load 23 (Operand.tmp 73), type := 23, pos := "own.go:155", after := #[{ on := 3, ground := Ground.data }, { on := 1, ground := Ground.guard }], guard := some (1, true) }) (v := .slice (some ⟨g9, 0, none⟩) mn0 mc0) (fun w' hw => exec_load 23 _ rfl ⟨gk4, 1, none⟩ (by kernel_rfl) (.slice (some ⟨g9, 0, none⟩) mn0 mc0) (load_one ((hw.1.box 1 _ _ _ rfl).cell 1 |>.trans (by kernel_rfl)) Try.und22 rfl)) hH ?_
    try simp only [pA, pB, p1, p2, p3]
    refine aT (i := 5) (oi := { dst := some 75, op := Op.indexAddr 23 (Operand.tmp 74) (Operand.const (Value.int IntKind.i64 0)), type := 0, pos := "own.go:155", after := #[{ on := 4, ground := Ground.data }, { on := 1, ground := Ground.guard }], guard := some (1, true) }) (v := .pointer (some ⟨g9, 0 + 0 * 4, none⟩)) (fun w' hw => exec_ixA 23 4 Try.und22e Try.size22e _ _ rfl g9 0 mn0 mc0 0 (by kernel_rfl) (by kernel_rfl) (by omega)) hH ?_
    try simp only [pA, pB, p1, p2, p3]
    refine aT (i := 6) (oi := { dst := some 76, op := Op.load 34 (Operand.tmp 75), type := 34, pos := "own.go:155", after := #[{ on := 5, ground := Ground.data }, { on := 1, ground := Ground.guard }], guard := some (1, true) }) (v := .agg (En.cells ⟨e.nm, e.f0, e.f1, y9⟩)) (fun w' hw => exec_load 34 _ rfl ⟨g9, 0 + 0 * 4, none⟩ (by kernel_rfl) (.agg (En.cells ⟨e.nm, e.f0, e.f1, y9⟩)) (load_E (hw.2.at0))) hH ?_
    try simp only [pA, pB, p1, p2, p3]
    refine aT (i := 7) (oi := { dst := some 77, op := Op.binOp BinOp.eql 34 (Operand.tmp 72) (Operand.tmp 76) 34, type := 4, pos := "own.go:155", after := #[{ on := 2, ground := Ground.data }, { on := 6, ground := Ground.data }, { on := 1, ground := Ground.guard }], guard := some (1, true) }) (v := .bool true) (fun w' hw => exec_bin .eql 34 _ _ _ rfl (.agg (En.cells ⟨e.nm, e.f0, e.f1, y9⟩)) (.agg (En.cells ⟨e.nm, e.f0, e.f1, y9⟩)) (.bool true) (by kernel_rfl) (by kernel_rfl) (by kernel_rfl) (by rw [eqE_eql, eqE_refl'])) hH ?_
    try simp only [pA, pB, p1, p2, p3]
    refine aT (i := 8) (oi := { dst := some 78, op := Op.pick (Operand.tmp 71) (Operand.tmp 77) (Operand.const (Value.bool false)), type := 4, pos := "own.go:155", after := #[{ on := 1, ground := Ground.data }, { on := 7, ground := Ground.data }], guard := none }) (v := .bool true) (fun _ _ => by kernel_rfl) hH ?_
    try simp only [pA, pB, p1, p2, p3]
    refine aT (i := 9) (oi := { dst := some 79, op := Op.move (Operand.tmp 78), type := 4, pos := "own.go:155", after := #[{ on := 8, ground := Ground.data }, { on := 1, ground := Ground.chain }], guard := none }) (v := .bool true) (fun _ _ => by kernel_rfl) hH ?_
    try simp only [pA, pB, p1, p2, p3]
    refine aT (i := 10) (oi := { dst := some 80, op := Op.fieldAddr 36 (Operand.tmp 10) 2, type := 0, pos := "own.go:155", after := #[{ on := 9, ground := Ground.guard }], guard := some (9, true) }) (v := .pointer (some ⟨gk63, 5, none⟩)) (fun _ _ => by kernel_rfl) hH ?_
    try simp only [pA, pB, p1, p2, p3]
    refine aT (i := 11) (oi := { dst := some 81, op := Op.load 23 (Operand.tmp 80), type := 23, pos := "own.go:155", after := #[{ on := 10, ground := Ground.data }, { on := 9, ground := Ground.guard }], guard := some (9, true) }) (v := .slice za zn zc) (fun w' hw => exec_load 23 _ rfl ⟨gk63, 5, none⟩ (by kernel_rfl) (.slice za zn zc) (load_one ((hw.1.box 5 _ _ _ rfl).cell 5 |>.trans (by kernel_rfl)) Try.und22 rfl)) hH ?_
    try simp only [pA, pB, p1, p2, p3]
    refine aT (i := 12) (oi := { dst := some 82, op := Op.fieldAddr 26 (Operand.tmp 5) 1, type := 0, pos := "own.go:155", after := #[{ on := 9, ground := Ground.guard }], guard := some (9, true) }) (v := .pointer (some ⟨gk4, 1, none⟩)) (fun _ _ => by kernel_rfl) hH ?_
    try simp only [pA, pB, p1, p2, p3]
    refine aT (i := 13) (oi := { dst := some 83, op := Op.load 23 (Operand.tmp 82), type := 23, pos := "own.go:155", after := #[{ on := 12, ground := Ground.data }, { on := 9, ground := Ground.guard }], guard := some (9, true) }) (v := .slice (some ⟨g9, 0, none⟩) mn0 mc0) (fun w' hw => exec_load 23 _ rfl ⟨gk4, 1, none⟩ (by kernel_rfl) (.slice (some ⟨g9, 0, none⟩) mn0 mc0) (load_one ((hw.1.box 1 _ _ _ rfl).cell 1 |>.trans (by kernel_rfl)) Try.und22 rfl)) hH ?_
    try simp only [pA, pB, p1, p2, p3]
    refine any_call (i := 14) (o := { dst := some 84, op := Op.call { callee := Callee.value (Operand.func 12), args := #[Operand.tmp 81, Operand.tmp 83], argTypes := #[23, 23] }, type := 4, pos := "own.go:155", after := #[{ on := 11, ground := Ground.data }, { on := 13, ground := Ground.data }, { on := 9, ground := Ground.chain }, { on := 9, ground := Ground.guard }], guard := some (9, true) }) rfl (by kernel_rfl) (by kernel_rfl) 12 #[.slice za zn zc, .slice (some ⟨g9, 0, none⟩) mn0 mc0] (by kernel_rfl) _ (sameE_any za zn zc (some ⟨g9, 0, none⟩) mn0 mc0 (⟨e.nm, e.f0, e.f1, y9⟩ :: t) (⟨e.nm, e.f0, e.f1, y9⟩ :: t) _ (HZs.out.no HK0.out).rd (HEs.out.no HK0.out).rd (by omega)) ?_
    rintro e wk68 ⟨rfl, hk⟩
    have hH2 : Fr No w wk68 [(gk1, 26, Bv.cells ⟨up, ⟨(some ⟨eb, eo, none⟩), en, ec⟩, ⟨la, ln, lc⟩⟩), (gk4, 26, Bv.cells ⟨up, ⟨(some ⟨g9, 0, none⟩), mn0, mc0⟩, ⟨la0, ln0, lc0⟩⟩), (gk7, 31, Cm.cells ⟨4, 3, 9, ⟨#[]⟩, 0, 0, 0, 0, 0⟩), (gk56, 34, En.cells ⟨e.nm, e.f0, e.f1, y9⟩), (gk61, 26, Bv.cells ⟨up + 1, ⟨xa, xn, xc⟩, ⟨ya, yn, yc⟩⟩), (gk63, 36, Av.cells ⟨0, enZ, ⟨za, zn, zc⟩⟩)] ∧ RdE wk68 ⟨(some ⟨g9, 0, none⟩), mn0, mc0⟩ (⟨e.nm, e.f0, e.f1, y9⟩ :: t) := ⟨hH.1.no hk, hH.2.no hk⟩
    have HK0 : Hid (Kept No wk66 (wk68)) := HK0.out.no hk
    have HF : Hid (Fr No w (wk68) [(gk1, 26, Bv.cells ⟨up, ⟨(some ⟨eb, eo, none⟩), en, ec⟩, ⟨la, ln, lc⟩⟩), (gk4, 26, Bv.cells ⟨up, ⟨(some ⟨g9, 0, none⟩), mn0, mc0⟩, ⟨la0, ln0, lc0⟩⟩), (gk7, 31, Cm.cells ⟨4, 3, 9, ⟨#[]⟩, 0, 0, 0, 0, 0⟩), (gk56, 34, En.cells ⟨e.nm, e.f0, e.f1, y9⟩), (gk61, 26, Bv.cells ⟨up + 1, ⟨xa, xn, xc⟩, ⟨ya, yn, yc⟩⟩), (gk63, 36, Av.cells ⟨0, enZ, ⟨za, zn, zc⟩⟩)]) := HF.out.no hk
    clear hk
    refine ⟨.bool true, by rw [sameE_iff.2 rfl], hH2, fun hH => ?_⟩
    clear hH2
    try simp only [pA, pB, p1, p2, p3]
    refine aT (i := 15) (oi := { dst := some 85, op := Op.pick (Operand.tmp 79) (Operand.tmp 84) (Operand.const (Value.bool false)), type := 4, pos := "own.go:155", after := #[{ on := 9, ground := Ground.data }, { on := 14, ground := Ground.data }], guard := none }) (v := .bool true) (fun _ _ => by kernel_rfl) hH ?_
    try simp only [pA, pB, p1, p2, p3]
    refine aT (i := 16) (oi := { dst := some 4, op := Op.assign (Operand.tmp 85), type := 4, pos := "own.go:155", after := #[{ on := 15, ground := Ground.data }, { on := 14, ground := Ground.chain }, { on := 0, ground := Ground.phase }, { on := 1, ground := Ground.phase }, { on := 2, ground := Ground.phase }, { on := 3, ground := Ground.phase }, { on := 4, ground := Ground.phase }, { on := 5, ground := Ground.phase }, { on := 6, ground := Ground.phase }, { on := 7, ground := Ground.phase }, { on := 8, ground := Ground.phase }, { on := 9, ground := Ground.phase }, { on := 10, ground := Ground.phase }, { on := 11, ground := Ground.phase }, { on := 12, ground := Ground.phase }, { on := 13, ground := Ground.phase }, { on := 14, ground := Ground.phase }, { on := 15, ground := Ground.phase }], guard := none }) (v := .bool true) (fun _ _ => by kernel_rfl) hH ?_
    try simp only [pA, pB, p1, p2, p3]
    refine wpAnyH_done (by kernel_rfl) ?_ _
    try simp only [pA, pB, p1, p2, p3]
    clear hH
    go_wp2
    rw [HC.out]
    exact ⟨rfl, HF.out.kept⟩
set_option maxRecDepth 100000 in
set_option maxHeartbeats 4000000 in
theorem moved_no (up : Int) (ea : Option Addr) (ec : Nat) (sl : Sl) (room : Int) (w : World) : Calls Try.prog 16 #[.agg (Bv.cells ⟨up, ⟨ea, 0, ec⟩, sl⟩), .int .i64 room] w (fun e w' => e = .returned (.bool true) ∧ Kept No w w') := by
  obtain ⟨C, hC⟩ : ∃ C : Ending → World → Prop, C = (fun e w' => e = .returned (.bool true) ∧ Kept No w w') := ⟨_, rfl⟩
  have HC : Hid (C = (fun e w' => e = .returned (.bool true) ∧ Kept No w w')) := hC
  rw [← hC]
  clear hC
  have HF : Hid (Fr No w w []) := Fr.start _ _
  go_enter Try.func16, Try.ntmps16
  go_upto_region 0 with fail
  refine WL.start ?_
  refine wp_runW (.pointer (some ⟨w.heap.size, 0, none⟩)) (w.alloc (.cells (Bv.cells ⟨up, ⟨ea, 0, ec⟩, sl⟩) 26)) (exec_box 26 _ rfl (Bv.cells ⟨up, ⟨ea, 0, ec⟩, sl⟩) (by kernel_rfl)) (by kernel_rfl) ?_
  try simp only [pA, pB, p1, p2, p3]
  have HF : Hid (Fr No w (w.alloc (.cells (Bv.cells ⟨up, ⟨ea, 0, ec⟩, sl⟩) 26)) [(w.heap.size, 26, Bv.cells ⟨up, ⟨ea, 0, ec⟩, sl⟩)]) := HF.out.alloc _ _
  generalize w.alloc (.cells (Bv.cells ⟨up, ⟨ea, 0, ec⟩, sl⟩) 26) = wk2 at HF ⊢
  generalize w.heap.size = gk1 at HF ⊢
  refine tK (.bool false) ?_
  try simp only [pA, pB, p1, p2, p3]
  refine WL.nil ?_
  try simp only [pA, pB, p1, p2, p3]
  go_upto_region 1 with fail
  refine WL.start ?_
  refine tK (.pointer (some ⟨gk1, 1, none⟩)) ?_
  try simp only [pA, pB, p1, p2, p3]
  refine tW (.slice ea 0 ec) (exec_load 23 _ rfl ⟨gk1, 1, none⟩ (by kernel_rfl) (.slice ea 0 ec) (load_one ((HF.out.box 0 _ _ _ rfl).cell 1 |>.trans (by kernel_rfl)) Try.und22 rfl)) ?_
  try simp only [pA, pB, p1, p2, p3]
  refine tK (.int .i64 ((0 : Nat) : Int)) ?_
  try simp only [pA, pB, p1, p2, p3]
  refine tW (.bool true) (exec_bin .eql 3 _ _ _ rfl (.int .i64 ((0 : Nat) : Int)) (.int .i64 0) (.bool true) (by kernel_rfl) (by kernel_rfl) (by kernel_rfl) (by kernel_rfl)) ?_
  try simp only [pA, pB, p1, p2, p3]
  refine WL.nil ?_
  try simp only [pA, pB, p1, p2, p3]
  go_upto_region 2 with fail
  refine WL.start ?_
  refine tK (.bool true) ?_
  try simp only [pA, pB, p1, p2, p3]
  refine WL.nil ?_
  try simp only [pA, pB, p1, p2, p3]
  go_wp2
  rw [HC.out]
  exact ⟨rfl, HF.out.kept⟩

end Go.Proofs.Ytfemlnfknebalab
