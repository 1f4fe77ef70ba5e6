import Derived.Test.YtfemlnfknebalaaRd
namespace Go.Proofs.Ytfemlnfknebalaa
open Go.RowKit
set_option linter.unusedVariables false
set_option linter.unusedSimpArgs false

set_option maxRecDepth 100000 in
set_option maxHeartbeats 4000000 in
theorem appliesWalk (up : Int) (ea : Option Addr) (en ec : Nat) (la : Option Addr) (ln lc : Nat) (es : List En) (ls : List La) (c : Cm) (room : Int) (w : World) (he : RdE w ⟨ea, en, ec⟩ es) (hl : RdL w ⟨la, ln, lc⟩ ls) (hec : en ≤ ec) (hb : en + 1 ≤ 3518437208883) (hbl : ln + 1 ≤ 2513169434916) (hu1 : -9223372036854775808 ≤ up) : Calls Try.prog 3 #[.agg (Bv.cells ⟨up, ⟨ea, en, ec⟩, ⟨la, ln, lc⟩⟩), .agg (Cm.cells c), .int .i64 room] w (fun e w' => e = .returned (.bool true) ∧ Kept No w w') := by
  obtain ⟨C, hC⟩ : ∃ C : Ending → World → Prop, C = (fun e w' => e = .returned (.bool true) ∧ Kept No w w') := ⟨_, rfl⟩
  have HC : Hid (C = (fun e w' => e = .returned (.bool true) ∧ Kept No w w')) := hC
  rw [← hC]
  clear hC
  have HE : Hid (RdE w ⟨ea, en, ec⟩ es) := he
  have HL : Hid (RdL w ⟨la, ln, lc⟩ ls) := hl
  clear he hl
  have HF : Hid (Fr No w w []) := Fr.start _ _
  go_enter Try.func3, Try.ntmps3
  go_upto_region 0 with fail
  refine WL.start ?_
  refine wp_runW (.pointer (some ⟨w.heap.size, 0, none⟩)) (w.alloc (.cells (Bv.cells ⟨up, ⟨ea, en, ec⟩, ⟨la, ln, lc⟩⟩) 25)) (exec_box 25 _ rfl (Bv.cells ⟨up, ⟨ea, en, ec⟩, ⟨la, ln, lc⟩⟩) (by kernel_rfl)) (by kernel_rfl) ?_
  try simp only [pA, pB, p1, p2, p3]
  have HF : Hid (Fr No w (w.alloc (.cells (Bv.cells ⟨up, ⟨ea, en, ec⟩, ⟨la, ln, lc⟩⟩) 25)) [(w.heap.size, 25, Bv.cells ⟨up, ⟨ea, en, ec⟩, ⟨la, ln, lc⟩⟩)]) := HF.out.alloc _ _
  generalize w.alloc (.cells (Bv.cells ⟨up, ⟨ea, en, ec⟩, ⟨la, ln, lc⟩⟩) 25) = wk2 at HF ⊢
  generalize w.heap.size = gk1 at HF ⊢
  refine wp_runW (.pointer (some ⟨wk2.heap.size, 0, none⟩)) (wk2.alloc (.cells (Cm.cells c) 29)) (exec_box 29 _ rfl (Cm.cells c) (by kernel_rfl)) (by kernel_rfl) ?_
  try simp only [pA, pB, p1, p2, p3]
  have HF : Hid (Fr No w (wk2.alloc (.cells (Cm.cells c) 29)) [(gk1, 25, Bv.cells ⟨up, ⟨ea, en, ec⟩, ⟨la, ln, lc⟩⟩), (wk2.heap.size, 29, Cm.cells c)]) := HF.out.alloc _ _
  generalize wk2.alloc (.cells (Cm.cells c) 29) = wk4 at HF ⊢
  generalize wk2.heap.size = gk3 at HF ⊢
  refine tK (.bool false) ?_
  try simp only [pA, pB, p1, p2, p3]
  refine WL.nil ?_
  try simp only [pA, pB, p1, p2, p3]
  go_upto_region 1 with fail
  refine WL.start ?_
  refine tW (.agg (Bv.cells ⟨up, ⟨ea, en, ec⟩, ⟨la, ln, lc⟩⟩)) (exec_load 25 _ rfl ⟨gk1, 0, none⟩ (by kernel_rfl) (.agg (Bv.cells ⟨up, ⟨ea, en, ec⟩, ⟨la, ln, lc⟩⟩)) (ld25 (HF.out.box 0 _ _ _ rfl))) ?_
  try simp only [pA, pB, p1, p2, p3]
  refine tW (.agg (Cm.cells c)) (exec_load 29 _ rfl ⟨gk3, 0, none⟩ (by kernel_rfl) (.agg (Cm.cells c)) (ld29 (HF.out.box 1 _ _ _ rfl))) ?_
  try simp only [pA, pB, p1, p2, p3]
  refine tK (.int .i64 room) ?_
  try simp only [pA, pB, p1, p2, p3]
  refine wp_callW 9 #[.agg (Bv.cells ⟨up, ⟨ea, en, ec⟩, ⟨la, ln, lc⟩⟩), .agg (Cm.cells c), .int .i64 room] (by kernel_rfl) _ (applied_any up ea en ec la ln lc es ls c room _ (HE.out.no HF.out.kept) (HL.out.no HF.out.kept) hec hb hbl hu1) (by kernel_rfl) ?_
  rintro e wk5 ⟨⟨bu, ⟨ba, bn, bc⟩, ⟨ca, cn, cc⟩⟩, rfl, hk⟩
  have HF : Hid (Fr No w (wk5) [(gk1, 25, Bv.cells ⟨up, ⟨ea, en, ec⟩, ⟨la, ln, lc⟩⟩), (gk3, 29, Cm.cells c)]) := HF.out.no hk
  clear hk
  refine ⟨.tuple #[.agg (Bv.cells ⟨bu, ⟨ba, bn, bc⟩, ⟨ca, cn, cc⟩⟩), .bool true], rfl, ?_⟩
  try simp only [pA, pB, p1, p2, p3]
  refine tK (.tuple #[.agg (Bv.cells ⟨bu, ⟨ba, bn, bc⟩, ⟨ca, cn, cc⟩⟩), .bool true]) ?_
  try simp only [pA, pB, p1, p2, p3]
  refine tK (.agg (Bv.cells ⟨bu, ⟨ba, bn, bc⟩, ⟨ca, cn, cc⟩⟩)) ?_
  try simp only [pA, pB, p1, p2, p3]
  refine tK (.bool true) ?_
  try simp only [pA, pB, p1, p2, p3]
  refine wp_runW (.pointer (some ⟨wk5.heap.size, 0, none⟩)) (wk5.alloc (.cells (Bv.cells bvZ) 25)) (exec_alloc 25 rfl (Bv.cells bvZ) zero25) (by kernel_rfl) ?_
  try simp only [pA, pB, p1, p2, p3]
  have HF : Hid (Fr No w (wk5.alloc (.cells (Bv.cells bvZ) 25)) [(gk1, 25, Bv.cells ⟨up, ⟨ea, en, ec⟩, ⟨la, ln, lc⟩⟩), (gk3, 29, Cm.cells c), (wk5.heap.size, 25, Bv.cells bvZ)]) := HF.out.alloc _ _
  generalize wk5.alloc (.cells (Bv.cells bvZ) 25) = wk7 at HF ⊢
  generalize wk5.heap.size = gk6 at HF ⊢
  refine wp_storeW 25 _ _ rfl ⟨gk6, 0, none⟩ (.agg (Bv.cells ⟨bu, ⟨ba, bn, bc⟩, ⟨ca, cn, cc⟩⟩)) (by kernel_rfl) (by kernel_rfl) (wk7.setRow gk6 (Bv.cells ⟨bu, ⟨ba, bn, bc⟩, ⟨ca, cn, cc⟩⟩)) (st25 (HF.out.box 2 _ _ _ rfl) rfl) (by kernel_rfl) ?_
  try simp only [pA, pB, p1, p2, p3]
  have HF : Hid (Fr No w (wk7.setRow gk6 (Bv.cells ⟨bu, ⟨ba, bn, bc⟩, ⟨ca, cn, cc⟩⟩)) [(gk1, 25, Bv.cells ⟨up, ⟨ea, en, ec⟩, ⟨la, ln, lc⟩⟩), (gk3, 29, Cm.cells c), (gk6, 25, Bv.cells ⟨bu, ⟨ba, bn, bc⟩, ⟨ca, cn, cc⟩⟩)]) := HF.out.set 2 rfl _
  generalize wk7.setRow gk6 (Bv.cells ⟨bu, ⟨ba, bn, bc⟩, ⟨ca, cn, cc⟩⟩) = wk8 at HF ⊢
  refine tK (.bool true) ?_
  try simp only [pA, pB, p1, p2, p3]
  refine WL.nil ?_
  try simp only [pA, pB, p1, p2, p3]
  go_upto_region 2 with fail
  refine WL.start ?_
  refine tK (.bool true) ?_
  try simp only [pA, pB, p1, p2, p3]
  refine tK (.bool true) ?_
  try simp only [pA, pB, p1, p2, p3]
  refine wp_callW 10 #[] (by kernel_rfl) _ (head_any _) (by kernel_rfl) ?_
  rintro e wk9 ⟨rfl, hk⟩
  have HF : Hid (Fr No w (wk9) [(gk1, 25, Bv.cells ⟨up, ⟨ea, en, ec⟩, ⟨la, ln, lc⟩⟩), (gk3, 29, Cm.cells c), (gk6, 25, Bv.cells ⟨bu, ⟨ba, bn, bc⟩, ⟨ca, cn, cc⟩⟩)]) := HF.out.no hk
  clear hk
  refine ⟨.bool true, rfl, ?_⟩
  try simp only [pA, pB, p1, p2, p3]
  refine tK (.bool true) ?_
  try simp only [pA, pB, p1, p2, p3]
  refine tK (.bool true) ?_
  try simp only [pA, pB, p1, p2, p3]
  refine WL.nil ?_
  try simp only [pA, pB, p1, p2, p3]
  go_wp2
  rw [HC.out]
  exact ⟨rfl, HF.out.kept⟩

end Go.Proofs.Ytfemlnfknebalaa
