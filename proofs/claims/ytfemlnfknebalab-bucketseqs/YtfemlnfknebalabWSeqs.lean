import Derived.Test.YtfemlnfknebalabQa
import Derived.RangeFuncNested
import Derived.RangeFuncBound
import Derived.RangeFuncCalls
import Derived.RangeFuncLeaves
import Derived.RangeFuncBox
import Derived.Shelf.Abstract
import Derived.Sort.QuietTacIn
import Derived.Shelf.RegionOpen
import Derived.OwnWalkIn
import Derived.TacticsInMore
import Derived.LoopNIn
import Derived.LoopN
import Derived.LoopIn
import Derived.Sort.CutIn
import Derived.Deep.CutBlock
import Derived.Sort.QuietLawsIn
namespace Go.Proofs.Ytfemlnfknebalab
open Go.RowKit Go.Shelf
set_option linter.unusedVariables false
set_option linter.unusedSimpArgs false

set_option maxRecDepth 100000 in
set_option maxHeartbeats 4000000 in
theorem seqsWalk (up : Int) (ea : Option Addr) (en ec : Nat) (la : Option Addr) (ln lc : Nat) (es : List En) (ls : List La) (n : ByteArray) (stop : Int) (w : World) (he : RdE w ⟨ea, en, ec⟩ es) (hl : RdL w ⟨la, ln, lc⟩ ls) (hbe : en ≤ 140737488355328) (hbl : ln ≤ 140737488355328) : Calls Try.prog 4 #[.agg (Bv.cells ⟨up, ⟨ea, en, ec⟩, ⟨la, ln, lc⟩⟩), .string n, .int .i64 stop] w (fun e w' => e = .returned (.bool true) ∧ Kept No w w') := by
  obtain ⟨C, hC⟩ : ∃ C : Ending → World → Prop, C = (fun e w' => e = .returned (.bool true) ∧ Kept No w w') := ⟨_, rfl⟩
  have HC : Hid (C = (fun e w' => e = .returned (.bool true) ∧ Kept No w w')) := hC
  rw [← hC]
  clear hC
  have HE0 : Hid (RdE w ⟨ea, en, ec⟩ es) := he
  have HL0 : Hid (RdL w ⟨la, ln, lc⟩ ls) := hl
  have hel : es.length = en := he.len
  have hll : ls.length = ln := hl.len
  clear he hl
  obtain ⟨w0s, hw0⟩ : ∃ x, w.heap.size = x := ⟨_, rfl⟩
  have HW0 : Hid (w.heap.size = w0s) := hw0
  clear hw0
  have HF : Hid (Fr No w w []) := Fr.start _ _
  refine (callsIn_wide (n := 8)).1 ?_
  refine callsIn_of_wp_marks Try.func4 rfl trivial ?_ rfl
  refine wpIn_wide.2 ?_
  simp only [Try.ntmps4, List.size_toArray, List.length_cons, List.length_nil, Nat.reduceAdd, Nat.reduceSub, Array.replicate_succ, Array.replicate_zero, List.push_toArray, List.append_toArray, List.nil_append, List.cons_append]
  go_upto_region 0 with fail
  refine WL.start ?_
  refine wp_runW (.pointer (some ⟨w.heap.size, 0, none⟩)) (w.alloc (.cells (Bv.cells ⟨up, ⟨ea, en, ec⟩, ⟨la, ln, lc⟩⟩) 26)) (exec_box 26 _ rfl (Bv.cells ⟨up, ⟨ea, en, ec⟩, ⟨la, ln, lc⟩⟩) (by kernel_rfl)) (by kernel_rfl) ?_
  try simp only [pA, pB, p1, p2, p3]
  have HF : Hid (Fr No w (w.alloc (.cells (Bv.cells ⟨up, ⟨ea, en, ec⟩, ⟨la, ln, lc⟩⟩) 26)) [(w.heap.size, 26, Bv.cells ⟨up, ⟨ea, en, ec⟩, ⟨la, ln, lc⟩⟩)]) := HF.out.alloc _ _
  generalize w.alloc (.cells (Bv.cells ⟨up, ⟨ea, en, ec⟩, ⟨la, ln, lc⟩⟩) 26) = wk2 at HF ⊢
  generalize w.heap.size = gk1 at HF ⊢
  refine wp_runW (.pointer (some ⟨wk2.heap.size, 0, none⟩)) (wk2.alloc (.cells (#[.int .i64 stop]) 3)) (exec_box1 3 _ rfl (.int .i64 stop) (by kernel_rfl) (by kernel_rfl)) (by kernel_rfl) ?_
  try simp only [pA, pB, p1, p2, p3]
  have HF : Hid (Fr No w (wk2.alloc (.cells (#[.int .i64 stop]) 3)) [(gk1, 26, Bv.cells ⟨up, ⟨ea, en, ec⟩, ⟨la, ln, lc⟩⟩), (wk2.heap.size, 3, #[.int .i64 stop])]) := HF.out.alloc _ _
  generalize wk2.alloc (.cells (#[.int .i64 stop]) 3) = wk4 at HF ⊢
  generalize wk2.heap.size = gk3 at HF ⊢
  refine wp_runW (.pointer (some ⟨wk4.heap.size, 0, none⟩)) (wk4.alloc (.cells (#[.bool false]) 4)) (exec_alloc1 4 rfl (.bool false) rfl zero4) (by kernel_rfl) ?_
  try simp only [pA, pB, p1, p2, p3]
  have HF : Hid (Fr No w (wk4.alloc (.cells (#[.bool false]) 4)) [(gk1, 26, Bv.cells ⟨up, ⟨ea, en, ec⟩, ⟨la, ln, lc⟩⟩), (gk3, 3, #[.int .i64 stop]), (wk4.heap.size, 4, #[.bool false])]) := HF.out.alloc _ _
  generalize wk4.alloc (.cells (#[.bool false]) 4) = wk6 at HF ⊢
  generalize wk4.heap.size = gk5 at HF ⊢
  refine WL.nil ?_
  try simp only [pA, pB, p1, p2, p3]
  go_upto_region 1 with fail
  refine WL.start ?_
  refine tW (.agg (Bv.cells ⟨up, ⟨ea, en, ec⟩, ⟨la, ln, lc⟩⟩)) (exec_load 26 _ rfl ⟨gk1, 0, none⟩ (by kernel_rfl) (.agg (Bv.cells ⟨up, ⟨ea, en, ec⟩, ⟨la, ln, lc⟩⟩)) (run_load_part (cs := Bv.cs ⟨up, ⟨ea, en, ec⟩, ⟨la, ln, lc⟩⟩) (sub := Bv.cs ⟨up, ⟨ea, en, ec⟩, ⟨la, ln, lc⟩⟩) (HF.out.box 0 _ _ _ rfl) (Part.all _) Try.und25 rfl Try.size25)) ?_
  try simp only [pA, pB, p1, p2, p3]
  refine wp_callW 7 #[.agg (Bv.cells ⟨up, ⟨ea, en, ec⟩, ⟨la, ln, lc⟩⟩)] (by kernel_rfl) _ (bucket_any up ea en ec la ln lc es ls _ (HE0.out.no HF.out.kept) (HL0.out.no HF.out.kept) hbe hbl) (by kernel_rfl) ?_
  rintro e wk7 ⟨rfl, hk⟩
  have HF : Hid (Fr No w (wk7) [(gk1, 26, Bv.cells ⟨up, ⟨ea, en, ec⟩, ⟨la, ln, lc⟩⟩), (gk3, 3, #[.int .i64 stop]), (gk5, 4, #[.bool false])]) := HF.out.no hk
  clear hk
  refine ⟨.bool (bktB up es ls), rfl, ?_⟩
  try simp only [pA, pB, p1, p2, p3]
  cases q1 : ((bktB up es ls))
  ·skip
   try simp only [q1]
   refine tK (.bool true) ?_
   try simp only [pA, pB, p1, p2, p3]
   refine WL.nil ?_
   try simp only [pA, pB, p1, p2, p3]
   go_upto_region 2 with fail
   refine WL.start ?_
   refine wp_callW 8 #[] (by kernel_rfl) _ (head_any _) (by kernel_rfl) ?_
   rintro e wk8 ⟨rfl, hk⟩
   have HF : Hid (Fr No w (wk8) [(gk1, 26, Bv.cells ⟨up, ⟨ea, en, ec⟩, ⟨la, ln, lc⟩⟩), (gk3, 3, #[.int .i64 stop]), (gk5, 4, #[.bool false])]) := HF.out.no hk
   clear hk
   refine ⟨.bool true, rfl, ?_⟩
   try simp only [pA, pB, p1, p2, p3]
   refine wp_storeW 4 _ _ rfl ⟨gk5, 0, none⟩ (.bool true) (by kernel_rfl) (by kernel_rfl) (wk8.setRow gk5 (#[.bool true])) (run_store_to (cur := [.bool false]) (vs := [.bool true]) (new := [.bool true]) (HF.out.box 2 _ _ _ rfl) (by kernel_rfl) Try.size4 (Nat.le_of_ble_eq_true (by kernel_rfl)) (by simp [Value.oneCell', Sl.v]) (by kernel_rfl)) (by kernel_rfl) ?_
   try simp only [pA, pB, p1, p2, p3]
   have HF : Hid (Fr No w (wk8.setRow gk5 (#[.bool true])) [(gk1, 26, Bv.cells ⟨up, ⟨ea, en, ec⟩, ⟨la, ln, lc⟩⟩), (gk3, 3, #[.int .i64 stop]), (gk5, 4, #[.bool true])]) := HF.out.set 2 rfl _
   generalize wk8.setRow gk5 (#[.bool true]) = wk9 at HF ⊢
   refine WL.nil ?_
   try simp only [pA, pB, p1, p2, p3]
   go_wp2
   rw [HC.out]
   exact ⟨.bool true, results_one rfl _ _ gk5 rfl (load_one ((HF.out.box 2 _ _ _ rfl).cell 0 |>.trans rfl) Try.und4 rfl), rfl, HF.out.kept⟩
  ·skip
   try simp only [q1]
   refine tK (.bool false) ?_
   try simp only [pA, pB, p1, p2, p3]
   refine WL.nil ?_
   try simp only [pA, pB, p1, p2, p3]
   have hG := bkt_good q1
   have hGn := hG.n
   have hGl := hG.ln
   have HK0 : Hid (Kept No wk7 wk7) := Kept.refl _ _
   obtain ⟨s0, hs0⟩ : ∃ n, wk7.heap.size = n := ⟨_, rfl⟩
   have HS0 : Hid (wk7.heap.size = s0) := hs0
   clear hs0
   go_upto_region 3 with fail
   refine WL.start ?_
   refine tW (.agg (Bv.cells ⟨up, ⟨ea, en, ec⟩, ⟨la, ln, lc⟩⟩)) (exec_load 26 _ rfl ⟨gk1, 0, none⟩ (by kernel_rfl) (.agg (Bv.cells ⟨up, ⟨ea, en, ec⟩, ⟨la, ln, lc⟩⟩)) (run_load_part (cs := Bv.cs ⟨up, ⟨ea, en, ec⟩, ⟨la, ln, lc⟩⟩) (sub := Bv.cs ⟨up, ⟨ea, en, ec⟩, ⟨la, ln, lc⟩⟩) (HF.out.box 0 _ _ _ rfl) (Part.all _) Try.und25 rfl Try.size25)) ?_
   try simp only [pA, pB, p1, p2, p3]
   refine wp_callW 9 #[.agg (Bv.cells ⟨up, ⟨ea, en, ec⟩, ⟨la, ln, lc⟩⟩)] (by kernel_rfl) _ (twin_any up ea en ec la ln lc es ls _ (by omega) (by omega) (HE0.out.no HF.out.kept) (HL0.out.no HF.out.kept)) (by kernel_rfl) ?_
   have hb3 : w0s ≤ wk7.heap.size := by rw [← HW0.out]; exact HF.out.kept.size
   rintro e wk10 ⟨⟨ma0, mn0, mc0⟩, ⟨la0, ln0, lc0⟩, rfl, hse, hsl, hk⟩
   have HK0 : Hid (Kept No wk7 (wk10)) := HK0.out.no hk
   have HF : Hid (Fr No w (wk10) [(gk1, 26, Bv.cells ⟨up, ⟨ea, en, ec⟩, ⟨la, ln, lc⟩⟩), (gk3, 3, #[.int .i64 stop]), (gk5, 4, #[.bool false])]) := HF.out.no hk
   have HE6 : Hid (OwE wk10 wk7.heap.size ⟨ma0, mn0, mc0⟩ es) := hse
   clear hse hsl hk
   generalize wk7.heap.size = b3 at hb3 HE6
   have HK1 : Hid (Kept No wk10 wk10) := Kept.refl _ _
   obtain ⟨s1, hs1⟩ : ∃ n, wk10.heap.size = n := ⟨_, rfl⟩
   have HS1 : Hid (wk10.heap.size = s1) := hs1
   clear hs1
   refine ⟨.agg (Bv.cells ⟨up, ⟨ma0, mn0, mc0⟩, ⟨la0, ln0, lc0⟩⟩), rfl, ?_⟩
   try simp only [pA, pB, p1, p2, p3]
   refine wp_runW (.pointer (some ⟨wk10.heap.size, 0, none⟩)) (wk10.alloc (.cells (Bv.cells bvZ) 26)) (exec_alloc 26 rfl (Bv.cells bvZ) zero25) (by kernel_rfl) ?_
   try simp only [pA, pB, p1, p2, p3]
   have hx0_gk11 : s0 ≤ wk10.heap.size := by rw [← HS0.out]; exact HK0.out.size
   have hx1_gk11 : s1 ≤ wk10.heap.size := by rw [← HS1.out]; exact HK1.out.size
   have HK0 : Hid (Kept No wk7 (wk10.alloc (.cells (Bv.cells bvZ) 26))) := HK0.out.no ((Kept.refl No _).alloc _)
   have HK1 : Hid (Kept No wk10 (wk10.alloc (.cells (Bv.cells bvZ) 26))) := HK1.out.no ((Kept.refl No _).alloc _)
   have HF : Hid (Fr No w (wk10.alloc (.cells (Bv.cells bvZ) 26)) [(gk1, 26, Bv.cells ⟨up, ⟨ea, en, ec⟩, ⟨la, ln, lc⟩⟩), (gk3, 3, #[.int .i64 stop]), (gk5, 4, #[.bool false]), (wk10.heap.size, 26, Bv.cells bvZ)]) := HF.out.alloc _ _
   generalize wk10.alloc (.cells (Bv.cells bvZ) 26) = wk12 at HF HK0 HK1 ⊢
   generalize wk10.heap.size = gk11 at HF hx0_gk11 hx1_gk11 ⊢
   refine wp_storeW 26 _ _ rfl ⟨gk11, 0, none⟩ (.agg (Bv.cells ⟨up, ⟨ma0, mn0, mc0⟩, ⟨la0, ln0, lc0⟩⟩)) (by kernel_rfl) (by kernel_rfl) (wk12.setRow gk11 (Bv.cells ⟨up, ⟨ma0, mn0, mc0⟩, ⟨la0, ln0, lc0⟩⟩)) (run_store_to (cur := Bv.cs bvZ) (vs := Bv.cs ⟨up, ⟨ma0, mn0, mc0⟩, ⟨la0, ln0, lc0⟩⟩) (new := Bv.cs ⟨up, ⟨ma0, mn0, mc0⟩, ⟨la0, ln0, lc0⟩⟩) (HF.out.box 3 _ _ _ rfl) (by kernel_rfl) Try.size25 (Nat.le_of_ble_eq_true (by kernel_rfl)) (Bv.oneL _) (by kernel_rfl)) (by kernel_rfl) ?_
   try simp only [pA, pB, p1, p2, p3]
   have HK0 : Hid (Kept No wk7 (wk12.setRow gk11 (Bv.cells ⟨up, ⟨ma0, mn0, mc0⟩, ⟨la0, ln0, lc0⟩⟩))) := HK0.out.newRow (by rw [HS0.out]; exact hx0_gk11) _
   have HK1 : Hid (Kept No wk10 (wk12.setRow gk11 (Bv.cells ⟨up, ⟨ma0, mn0, mc0⟩, ⟨la0, ln0, lc0⟩⟩))) := HK1.out.newRow (by rw [HS1.out]; exact hx1_gk11) _
   have HF : Hid (Fr No w (wk12.setRow gk11 (Bv.cells ⟨up, ⟨ma0, mn0, mc0⟩, ⟨la0, ln0, lc0⟩⟩)) [(gk1, 26, Bv.cells ⟨up, ⟨ea, en, ec⟩, ⟨la, ln, lc⟩⟩), (gk3, 3, #[.int .i64 stop]), (gk5, 4, #[.bool false]), (gk11, 26, Bv.cells ⟨up, ⟨ma0, mn0, mc0⟩, ⟨la0, ln0, lc0⟩⟩)]) := HF.out.set 3 rfl _
   generalize wk12.setRow gk11 (Bv.cells ⟨up, ⟨ma0, mn0, mc0⟩, ⟨la0, ln0, lc0⟩⟩) = wk13 at HF HK0 HK1 ⊢
   refine WL.nil ?_
   try simp only [pA, pB, p1, p2, p3]
   have HE : Hid (OwE wk13 b3 ⟨ma0, mn0, mc0⟩ es) := HE6.out.no HK1.out
   clear  HE6 HK1 HS1 HK0 HS0 hx0_gk11 hx1_gk11
   have hmn0 : es.length = mn0 := HE.out.len
   have HEs : Hid (OwE wk13 b3 ⟨ma0, mn0, mc0⟩ es) := HE
   clear HE
   have HK0 : Hid (Kept No wk13 wk13) := Kept.refl _ _
   obtain ⟨s0, hs0⟩ : ∃ n, wk13.heap.size = n := ⟨_, rfl⟩
   have HS0 : Hid (wk13.heap.size = s0) := hs0
   clear hs0
   go_upto_region 4 with fail
   refine WL.start ?_
   refine tW (.agg (Bv.cells ⟨up, ⟨ma0, mn0, mc0⟩, ⟨la0, ln0, lc0⟩⟩)) (exec_load 26 _ rfl ⟨gk11, 0, none⟩ (by kernel_rfl) (.agg (Bv.cells ⟨up, ⟨ma0, mn0, mc0⟩, ⟨la0, ln0, lc0⟩⟩)) (run_load_part (cs := Bv.cs ⟨up, ⟨ma0, mn0, mc0⟩, ⟨la0, ln0, lc0⟩⟩) (sub := Bv.cs ⟨up, ⟨ma0, mn0, mc0⟩, ⟨la0, ln0, lc0⟩⟩) (HF.out.box 3 _ _ _ rfl) (Part.all _) Try.und25 rfl Try.size25)) ?_
   try simp only [pA, pB, p1, p2, p3]
   refine tK (.string n) ?_
   try simp only [pA, pB, p1, p2, p3]
   refine wp_callW 17 #[.agg (Bv.cells ⟨up, ⟨ma0, mn0, mc0⟩, ⟨la0, ln0, lc0⟩⟩), .string n] (by kernel_rfl) _ (names_any up ma0 mn0 mc0 ⟨la0, ln0, lc0⟩ es n _ hmn0 (by omega) (HEs.out.no HK0.out).rd (HEs.out.no HK0.out).own.le) (by kernel_rfl) ?_
   have hb4 : w0s ≤ wk13.heap.size := by rw [← HW0.out]; exact HF.out.kept.size
   have hat4 : ∀ k, At ma0 k → b3 ≤ k ∧ k < wk13.heap.size := fun k e => ⟨(HEs.out.no HK0.out).own.base e, (HEs.out.no HK0.out).own.lt e⟩
   rintro e wk14 ⟨lb, sa, sc, rfl, hsq, hlb, hsb, hk⟩
   have HK0 : Hid (Kept No wk13 (wk14)) := HK0.out.no hk
   have HF : Hid (Fr No w (wk14) [(gk1, 26, Bv.cells ⟨up, ⟨ea, en, ec⟩, ⟨la, ln, lc⟩⟩), (gk3, 3, #[.int .i64 stop]), (gk5, 4, #[.bool false]), (gk11, 26, Bv.cells ⟨up, ⟨ma0, mn0, mc0⟩, ⟨la0, ln0, lc0⟩⟩)]) := HF.out.no hk
   have HSq6 : Hid (SeqAt wk14 lb sa sc (namesS es n)) := hsq
   have HSb : Hid (∀ k, SB lb sa k → wk13.heap.size ≤ k) := show ∀ k, SB lb sa k → wk13.heap.size ≤ k from fun k e => by rcases e with e | e; rw [e]; exact hlb; exact hsb k e
   clear hsq hlb hsb hk
   generalize wk13.heap.size = b4 at hb4 hat4 HSb
   have HK1 : Hid (Kept No wk14 wk14) := Kept.refl _ _
   obtain ⟨s1, hs1⟩ : ∃ n, wk14.heap.size = n := ⟨_, rfl⟩
   have HS1 : Hid (wk14.heap.size = s1) := hs1
   clear hs1
   refine ⟨.func (.func 30) #[] #[.pointer (some ⟨lb, 0, none⟩)], rfl, ?_⟩
   try simp only [pA, pB, p1, p2, p3]
   refine wp_runW (.pointer (some ⟨wk14.heap.size, 0, none⟩)) (wk14.alloc (.cells (#[.nilFunc]) 56)) (exec_alloc1 56 rfl (.nilFunc) rfl zero56f) (by kernel_rfl) ?_
   try simp only [pA, pB, p1, p2, p3]
   have hx0_gk15 : s0 ≤ wk14.heap.size := by rw [← HS0.out]; exact HK0.out.size
   have hx1_gk15 : s1 ≤ wk14.heap.size := by rw [← HS1.out]; exact HK1.out.size
   have HK0 : Hid (Kept No wk13 (wk14.alloc (.cells (#[.nilFunc]) 56))) := HK0.out.no ((Kept.refl No _).alloc _)
   have HK1 : Hid (Kept No wk14 (wk14.alloc (.cells (#[.nilFunc]) 56))) := HK1.out.no ((Kept.refl No _).alloc _)
   have HF : Hid (Fr No w (wk14.alloc (.cells (#[.nilFunc]) 56)) [(gk1, 26, Bv.cells ⟨up, ⟨ea, en, ec⟩, ⟨la, ln, lc⟩⟩), (gk3, 3, #[.int .i64 stop]), (gk5, 4, #[.bool false]), (gk11, 26, Bv.cells ⟨up, ⟨ma0, mn0, mc0⟩, ⟨la0, ln0, lc0⟩⟩), (wk14.heap.size, 56, #[.nilFunc])]) := HF.out.alloc _ _
   generalize wk14.alloc (.cells (#[.nilFunc]) 56) = wk16 at HF HK0 HK1 ⊢
   generalize wk14.heap.size = gk15 at HF hx0_gk15 hx1_gk15 ⊢
   refine wp_storeW 56 _ _ rfl ⟨gk15, 0, none⟩ (.func (.func 30) #[] #[.pointer (some ⟨lb, 0, none⟩)]) (by kernel_rfl) (by kernel_rfl) (wk16.setRow gk15 (#[.func (.func 30) #[] #[.pointer (some ⟨lb, 0, none⟩)]])) (run_store_to (cur := [.nilFunc]) (vs := [.func (.func 30) #[] #[.pointer (some ⟨lb, 0, none⟩)]]) (new := [.func (.func 30) #[] #[.pointer (some ⟨lb, 0, none⟩)]]) (HF.out.box 4 _ _ _ rfl) (by kernel_rfl) Try.size56f (Nat.le_of_ble_eq_true (by kernel_rfl)) (by simp [Value.oneCell', Sl.v]) (by kernel_rfl)) (by kernel_rfl) ?_
   try simp only [pA, pB, p1, p2, p3]
   have HK0 : Hid (Kept No wk13 (wk16.setRow gk15 (#[.func (.func 30) #[] #[.pointer (some ⟨lb, 0, none⟩)]]))) := HK0.out.newRow (by rw [HS0.out]; exact hx0_gk15) _
   have HK1 : Hid (Kept No wk14 (wk16.setRow gk15 (#[.func (.func 30) #[] #[.pointer (some ⟨lb, 0, none⟩)]]))) := HK1.out.newRow (by rw [HS1.out]; exact hx1_gk15) _
   have HF : Hid (Fr No w (wk16.setRow gk15 (#[.func (.func 30) #[] #[.pointer (some ⟨lb, 0, none⟩)]])) [(gk1, 26, Bv.cells ⟨up, ⟨ea, en, ec⟩, ⟨la, ln, lc⟩⟩), (gk3, 3, #[.int .i64 stop]), (gk5, 4, #[.bool false]), (gk11, 26, Bv.cells ⟨up, ⟨ma0, mn0, mc0⟩, ⟨la0, ln0, lc0⟩⟩), (gk15, 56, #[.func (.func 30) #[] #[.pointer (some ⟨lb, 0, none⟩)]])]) := HF.out.set 4 rfl _
   generalize wk16.setRow gk15 (#[.func (.func 30) #[] #[.pointer (some ⟨lb, 0, none⟩)]]) = wk17 at HF HK0 HK1 ⊢
   refine WL.nil ?_
   try simp only [pA, pB, p1, p2, p3]
   have HE : Hid (OwE wk17 b3 ⟨ma0, mn0, mc0⟩ es) := HEs.out.no HK0.out
   have HSq : Hid (SeqAt wk17 lb sa sc (namesS es n)) := HSq6.out.no HK1.out
   clear HEs HSq6 HK1 HS1 HK0 HS0 hx0_gk15 hx1_gk15
   have HEs : Hid (OwE wk17 b3 ⟨ma0, mn0, mc0⟩ es) := HE
   clear HE
   have HSqs : Hid (SeqAt wk17 lb sa sc (namesS es n)) := HSq
   clear HSq
   have HK0 : Hid (Kept No wk17 wk17) := Kept.refl _ _
   obtain ⟨s0, hs0⟩ : ∃ n, wk17.heap.size = n := ⟨_, rfl⟩
   have HS0 : Hid (wk17.heap.size = s0) := hs0
   clear hs0
   go_upto_region 5 with fail
   refine WL.start ?_
   refine tW (.agg (Bv.cells ⟨up, ⟨ea, en, ec⟩, ⟨la, ln, lc⟩⟩)) (exec_load 26 _ rfl ⟨gk1, 0, none⟩ (by kernel_rfl) (.agg (Bv.cells ⟨up, ⟨ea, en, ec⟩, ⟨la, ln, lc⟩⟩)) (run_load_part (cs := Bv.cs ⟨up, ⟨ea, en, ec⟩, ⟨la, ln, lc⟩⟩) (sub := Bv.cs ⟨up, ⟨ea, en, ec⟩, ⟨la, ln, lc⟩⟩) (HF.out.box 0 _ _ _ rfl) (Part.all _) Try.und25 rfl Try.size25)) ?_
   try simp only [pA, pB, p1, p2, p3]
   refine tK (.string n) ?_
   try simp only [pA, pB, p1, p2, p3]
   refine wp_callW 18 #[.agg (Bv.cells ⟨up, ⟨ea, en, ec⟩, ⟨la, ln, lc⟩⟩), .string n] (by kernel_rfl) _ (refNames_any up ea en ec la ln lc es n _ (HE0.out.no HF.out.kept) hG.re (by omega)) (by kernel_rfl) ?_
   have hb5 : b4 ≤ wk17.heap.size := Nat.le_trans (HSb.out _ (.inl rfl)) (Nat.le_of_lt ((HSqs.out.no HK0.out).lt (.inl rfl)))
   have hb6 : w.heap.size ≤ wk17.heap.size := HF.out.kept.size
   rintro e wk18 ⟨⟨ma, mn, mc⟩, rfl, hM, hk⟩
   obtain rfl : mn = (namesS es n).length := hM.len.symm
   have HK0 : Hid (Kept No wk17 (wk18)) := HK0.out.no hk
   have HF : Hid (Fr No w (wk18) [(gk1, 26, Bv.cells ⟨up, ⟨ea, en, ec⟩, ⟨la, ln, lc⟩⟩), (gk3, 3, #[.int .i64 stop]), (gk5, 4, #[.bool false]), (gk11, 26, Bv.cells ⟨up, ⟨ma0, mn0, mc0⟩, ⟨la0, ln0, lc0⟩⟩), (gk15, 56, #[.func (.func 30) #[] #[.pointer (some ⟨lb, 0, none⟩)]])]) := HF.out.no hk
   have HM6 : Hid (OwE wk18 w.heap.size ⟨ma, (namesS es n).length, mc⟩ (namesS es n)) := hM.lower hb6
   have hmb : ∀ k, At ma k → b4 ≤ k := fun k e => Nat.le_trans hb5 (hM.own.base e)
   clear hM hk hb5 hb6
   have HK1 : Hid (Kept No wk18 wk18) := Kept.refl _ _
   obtain ⟨s1, hs1⟩ : ∃ n, wk18.heap.size = n := ⟨_, rfl⟩
   have HS1 : Hid (wk18.heap.size = s1) := hs1
   clear hs1
   refine ⟨.slice ma (namesS es n).length mc, rfl, ?_⟩
   try simp only [pA, pB, p1, p2, p3]
   refine wp_runW (.pointer (some ⟨wk18.heap.size, 0, none⟩)) (wk18.alloc (.cells (#[.slice none 0 0]) 23)) (exec_alloc1 23 rfl (.slice none 0 0) rfl zero22) (by kernel_rfl) ?_
   try simp only [pA, pB, p1, p2, p3]
   have hx0_gk19 : s0 ≤ wk18.heap.size := by rw [← HS0.out]; exact HK0.out.size
   have hx1_gk19 : s1 ≤ wk18.heap.size := by rw [← HS1.out]; exact HK1.out.size
   have HK0 : Hid (Kept No wk17 (wk18.alloc (.cells (#[.slice none 0 0]) 23))) := HK0.out.no ((Kept.refl No _).alloc _)
   have HK1 : Hid (Kept No wk18 (wk18.alloc (.cells (#[.slice none 0 0]) 23))) := HK1.out.no ((Kept.refl No _).alloc _)
   have HF : Hid (Fr No w (wk18.alloc (.cells (#[.slice none 0 0]) 23)) [(gk1, 26, Bv.cells ⟨up, ⟨ea, en, ec⟩, ⟨la, ln, lc⟩⟩), (gk3, 3, #[.int .i64 stop]), (gk5, 4, #[.bool false]), (gk11, 26, Bv.cells ⟨up, ⟨ma0, mn0, mc0⟩, ⟨la0, ln0, lc0⟩⟩), (gk15, 56, #[.func (.func 30) #[] #[.pointer (some ⟨lb, 0, none⟩)]]), (wk18.heap.size, 23, #[.slice none 0 0])]) := HF.out.alloc _ _
   generalize wk18.alloc (.cells (#[.slice none 0 0]) 23) = wk20 at HF HK0 HK1 ⊢
   generalize wk18.heap.size = gk19 at HF hx0_gk19 hx1_gk19 ⊢
   refine wp_storeW 23 _ _ rfl ⟨gk19, 0, none⟩ (.slice ma (namesS es n).length mc) (by kernel_rfl) (by kernel_rfl) (wk20.setRow gk19 (#[.slice ma (namesS es n).length mc])) (run_store_to (cur := [.slice none 0 0]) (vs := [.slice ma (namesS es n).length mc]) (new := [.slice ma (namesS es n).length mc]) (HF.out.box 5 _ _ _ rfl) (by kernel_rfl) Try.size22 (Nat.le_of_ble_eq_true (by kernel_rfl)) (by simp [Value.oneCell', Sl.v]) (by kernel_rfl)) (by kernel_rfl) ?_
   try simp only [pA, pB, p1, p2, p3]
   have HK0 : Hid (Kept No wk17 (wk20.setRow gk19 (#[.slice ma (namesS es n).length mc]))) := HK0.out.newRow (by rw [HS0.out]; exact hx0_gk19) _
   have HK1 : Hid (Kept No wk18 (wk20.setRow gk19 (#[.slice ma (namesS es n).length mc]))) := HK1.out.newRow (by rw [HS1.out]; exact hx1_gk19) _
   have HF : Hid (Fr No w (wk20.setRow gk19 (#[.slice ma (namesS es n).length mc])) [(gk1, 26, Bv.cells ⟨up, ⟨ea, en, ec⟩, ⟨la, ln, lc⟩⟩), (gk3, 3, #[.int .i64 stop]), (gk5, 4, #[.bool false]), (gk11, 26, Bv.cells ⟨up, ⟨ma0, mn0, mc0⟩, ⟨la0, ln0, lc0⟩⟩), (gk15, 56, #[.func (.func 30) #[] #[.pointer (some ⟨lb, 0, none⟩)]]), (gk19, 23, #[.slice ma (namesS es n).length mc])]) := HF.out.set 5 rfl _
   generalize wk20.setRow gk19 (#[.slice ma (namesS es n).length mc]) = wk21 at HF HK0 HK1 ⊢
   refine WL.nil ?_
   try simp only [pA, pB, p1, p2, p3]
   have HE : Hid (OwE wk21 b3 ⟨ma0, mn0, mc0⟩ es) := HEs.out.no HK0.out
   have HSq : Hid (SeqAt wk21 lb sa sc (namesS es n)) := HSqs.out.no HK0.out
   have HM : Hid (OwE wk21 w.heap.size ⟨ma, (namesS es n).length, mc⟩ (namesS es n)) := HM6.out.no HK1.out
   clear HEs HSqs HM6 HK1 HS1 HK0 HS0 hx0_gk19 hx1_gk19
   go_upto_region 6 with fail
   refine WL.start ?_
   refine tW (.func (.func 30) #[] #[.pointer (some ⟨lb, 0, none⟩)]) (exec_load 56 _ rfl ⟨gk15, 0, none⟩ (by kernel_rfl) (.func (.func 30) #[] #[.pointer (some ⟨lb, 0, none⟩)]) (load_one ((HF.out.box 4 _ _ _ rfl).cell 0 |>.trans (by kernel_rfl)) Try.und56f rfl)) ?_
   try simp only [pA, pB, p1, p2, p3]
   refine tW (.bool false) (exec_bin .eql 56 _ _ _ rfl (.func (.func 30) #[] #[.pointer (some ⟨lb, 0, none⟩)]) (.nilFunc) (.bool false) (by kernel_rfl) (by kernel_rfl) (by kernel_rfl) (by kernel_rfl)) ?_
   try simp only [pA, pB, p1, p2, p3]
   refine WL.nil ?_
   try simp only [pA, pB, p1, p2, p3]
   go_upto_region 8 with fail
   refine WL.start ?_
   refine tK (.int .i64 0) ?_
   try simp only [pA, pB, p1, p2, p3]
   refine WL.nil ?_
   try simp only [pA, pB, p1, p2, p3]
   have hnl : (namesS es n).length ≤ es.length := names_len es n
   generalize (namesS es n) = ns at HSq HM hnl HF ⊢
   go_wp2
   go_loopw [10] (fun v10 wr => ∃ (i : Nat) (cur : List En), v10 = .int .i64 ((i : Nat) : Int) ∧ i ≤ mn0 ∧ Hid (OwE wr b3 ⟨ma0, mn0, mc0⟩ cur) ∧ Hid (SeqAt wr lb sa sc ns) ∧ Hid (OwE wr w.heap.size ⟨ma, ns.length, mc⟩ ns) ∧ Hid (Fr No w wr [(gk1, 26, Bv.cells ⟨up, ⟨ea, en, ec⟩, ⟨la, ln, lc⟩⟩), (gk3, 3, #[.int .i64 stop]), (gk5, 4, #[.bool false]), (gk11, 26, Bv.cells ⟨up, ⟨ma0, mn0, mc0⟩, ⟨la0, ln0, lc0⟩⟩), (gk15, 56, #[.func (.func 30) #[] #[.pointer (some ⟨lb, 0, none⟩)]]), (gk19, 23, #[.slice ma ns.length mc])])) (fun i _ => mn0 - (intOf i).toNat)
   case atStart => exact ⟨0, es, by go_num, by omega, HE, HSq, HM, HF⟩
   case round =>
     clear HF HE HSq HM
     obtain ⟨i, cur, rfl, hi, HE, HSq, HM, HF⟩ := hrel
     by_cases hlt : i < mn0
     · skip
       obtain ⟨g9, hg9⟩ := HE.out.own.some (by show 0 < mn0; omega)
       have hg9 : ma0 = some ⟨g9, 0, none⟩ := hg9
       have hsl : Hid (Value.slice ma0 mn0 mc0 = .slice (some ⟨g9, 0, none⟩) mn0 mc0) := congrArg (fun y => Value.slice y mn0 mc0) hg9
       go_upto_region 9 with fail
       refine WL.start ?_
       refine tK (.int .i64 ((i : Nat) : Int)) ?_
       try simp only [pA, pB, p1, p2, p3]
       refine tK (.pointer (some ⟨gk11, 1, none⟩)) ?_
       try simp only [pA, pB, p1, p2, p3]
       refine tW (.slice ma0 mn0 mc0) (exec_load 23 _ rfl ⟨gk11, 1, none⟩ (by kernel_rfl) (.slice ma0 mn0 mc0) (load_one ((HF.out.box 3 _ _ _ rfl).cell 1 |>.trans (by kernel_rfl)) Try.und22 rfl)) ?_
       try simp only [pA, pB, p1, p2, p3]
       refine tK (.int .i64 ((mn0 : Nat) : Int)) ?_
       try simp only [pA, pB, p1, p2, p3]
       refine tW (.bool true) (exec_bin .lss 3 _ _ _ rfl (.int .i64 ((i : Nat) : Int)) (.int .i64 ((mn0 : Nat) : Int)) (.bool true) (by kernel_rfl) (by kernel_rfl) (by kernel_rfl) (by rw [b_lss, decide_eq_true (by omega)])) ?_
       try simp only [pA, pB, p1, p2, p3]
       refine WL.nil ?_
       try simp only [pA, pB, p1, p2, p3]
       go_upto_region 11 with fail
       refine WL.start ?_
       refine tK (.pointer (some ⟨gk11, 1, none⟩)) ?_
       try simp only [pA, pB, p1, p2, p3]
       refine tW (.slice ma0 mn0 mc0) (exec_load 23 _ rfl ⟨gk11, 1, none⟩ (by kernel_rfl) (.slice ma0 mn0 mc0) (load_one ((HF.out.box 3 _ _ _ rfl).cell 1 |>.trans (by kernel_rfl)) Try.und22 rfl)) ?_
       try simp only [pA, pB, p1, p2, p3]
       refine tK (.int .i64 ((i : Nat) : Int)) ?_
       try simp only [pA, pB, p1, p2, p3]
       refine tK (.int .i64 ((i : Nat) : Int)) ?_
       try simp only [pA, pB, p1, p2, p3]
       refine tW (.agg (En.cells ⟨⟨#[111, 116, 104, 101, 114]⟩, 0, 0, ((i : Nat) : Int)⟩)) (exec_build 34 _ rfl (En.cells ⟨⟨#[111, 116, 104, 101, 114]⟩, 0, 0, ((i : Nat) : Int)⟩) (by kernel_rfl)) ?_
       try simp only [pA, pB, p1, p2, p3]
       refine tW (.pointer (some ⟨g9, 0 + i * 4, none⟩)) (exec_ixA 23 4 Try.und22e Try.size22e _ _ rfl g9 0 mn0 mc0 i (Eq.trans (b := .slice ma0 mn0 mc0) (by kernel_rfl) hsl.out) (by kernel_rfl) hlt) ?_
       try simp only [pA, pB, p1, p2, p3]
       obtain ⟨cs9, hrun9, hown9⟩ := HE.out.set (i := i) hlt hg9 ⟨⟨#[111, 116, 104, 101, 114]⟩, 0, 0, ((i : Nat) : Int)⟩
       refine wp_storeW 34 _ _ rfl ⟨g9, 0 + i * 4, none⟩ (.agg (En.cells ⟨⟨#[111, 116, 104, 101, 114]⟩, 0, 0, ((i : Nat) : Int)⟩)) (by kernel_rfl) (by kernel_rfl) (wr.setRow g9 cs9) hrun9 (by kernel_rfl) ?_
       try simp only [pA, pB, p1, p2, p3]
       have hk : Kept (Only g9) wr (wr.setRow g9 cs9) := Kept.setRow _ _ _
       have hl9 := hat4 g9 ⟨_, hg9, rfl⟩
       have HSq : Hid (SeqAt (wr.setRow g9 cs9) lb sa sc ns) := HSq.out.kept hk (fun k e f => by have f : k = g9 := f; have h1 := HSb.out k e; omega)
       have HM : Hid (OwE (wr.setRow g9 cs9) w.heap.size ⟨ma, ns.length, mc⟩ ns) := HM.out.kept hk (fun k e f => by have f : k = g9 := f; have h1 := hmb k e; omega)
       have HF : Hid (Fr No w (wr.setRow g9 cs9) [(gk1, 26, Bv.cells ⟨up, ⟨ea, en, ec⟩, ⟨la, ln, lc⟩⟩), (gk3, 3, #[.int .i64 stop]), (gk5, 4, #[.bool false]), (gk11, 26, Bv.cells ⟨up, ⟨ma0, mn0, mc0⟩, ⟨la0, ln0, lc0⟩⟩), (gk15, 56, #[.func (.func 30) #[] #[.pointer (some ⟨lb, 0, none⟩)]]), (gk19, 23, #[.slice ma ns.length mc])]) := HF.out.lent hk (fun k e => by have e : k = g9 := e; rw [HW0.out]; omega) (fun y hy e => by obtain ⟨i9, hi9⟩ := List.mem_iff_getElem?.1 hy; exact HE.out.own.notBox (HF.out.box i9 y.1 y.2.1 y.2.2 hi9) (fun e2 => (show ∀ y ∈ [(gk1, 26, Bv.cells ⟨up, ⟨ea, en, ec⟩, ⟨la, ln, lc⟩⟩), (gk3, 3, #[.int .i64 stop]), (gk5, 4, #[.bool false]), (gk11, 26, Bv.cells ⟨up, ⟨ma0, mn0, mc0⟩, ⟨la0, ln0, lc0⟩⟩), (gk15, 56, #[.func (.func 30) #[] #[.pointer (some ⟨lb, 0, none⟩)]]), (gk19, 23, #[.slice ma ns.length mc])], y.2.1 ≠ 34 from by simp) y hy e2.symm) ⟨_, hg9, (show y.1 = g9 from e).symm⟩)
       have HE : Hid (OwE (wr.setRow g9 cs9) b3 ⟨ma0, mn0, mc0⟩ (cur.set i ⟨⟨#[111, 116, 104, 101, 114]⟩, 0, 0, ((i : Nat) : Int)⟩)) := hown9
       clear hk hl9 hrun9 hown9
       generalize wr.setRow g9 cs9 = wk22 at HF HE HSq HM ⊢
       refine WL.nil ?_
       try simp only [pA, pB, p1, p2, p3]
       go_upto_region 10 with fail
       refine WL.start ?_
       refine tK (.int .i64 ((i : Nat) : Int)) ?_
       try simp only [pA, pB, p1, p2, p3]
       refine tW (.int .i64 (((i + 1) : Nat) : Int)) (exec_bin .add 3 _ _ _ rfl (.int .i64 ((i : Nat) : Int)) (.int .i64 1) (.int .i64 (((i + 1) : Nat) : Int)) (by kernel_rfl) (by kernel_rfl) (by kernel_rfl) (b_addw _ _ _ (by rw [IntKind.wrap_i64]; omega) _)) ?_
       try simp only [pA, pB, p1, p2, p3]
       refine tK (.int .i64 (((i + 1) : Nat) : Int)) ?_
       try simp only [pA, pB, p1, p2, p3]
       refine WL.nil ?_
       try simp only [pA, pB, p1, p2, p3]
       go_wp2
       go_roundw
       case rel => exact ⟨i + 1, _, by go_num, by omega, HE, HSq, HM, HF⟩
       case measure => simp [intOf]; omega
     · skip
       go_upto_region 9 with fail
       refine WL.start ?_
       refine tK (.int .i64 ((i : Nat) : Int)) ?_
       try simp only [pA, pB, p1, p2, p3]
       refine tK (.pointer (some ⟨gk11, 1, none⟩)) ?_
       try simp only [pA, pB, p1, p2, p3]
       refine tW (.slice ma0 mn0 mc0) (exec_load 23 _ rfl ⟨gk11, 1, none⟩ (by kernel_rfl) (.slice ma0 mn0 mc0) (load_one ((HF.out.box 3 _ _ _ rfl).cell 1 |>.trans (by kernel_rfl)) Try.und22 rfl)) ?_
       try simp only [pA, pB, p1, p2, p3]
       refine tK (.int .i64 ((mn0 : Nat) : Int)) ?_
       try simp only [pA, pB, p1, p2, p3]
       refine tW (.bool false) (exec_bin .lss 3 _ _ _ rfl (.int .i64 ((i : Nat) : Int)) (.int .i64 ((mn0 : Nat) : Int)) (.bool false) (by kernel_rfl) (by kernel_rfl) (by kernel_rfl) (by rw [b_lss, decide_eq_false (by omega)])) ?_
       try simp only [pA, pB, p1, p2, p3]
       refine WL.nil ?_
       try simp only [pA, pB, p1, p2, p3]
       clear hlt hi HE
       have HSqs : Hid (SeqAt wr lb sa sc ns) := HSq
       clear HSq
       have HMs : Hid (OwE wr w.heap.size ⟨ma, ns.length, mc⟩ ns) := HM
       clear HM
       have HK0 : Hid (Kept No wr wr) := Kept.refl _ _
       obtain ⟨s0, hs0⟩ : ∃ n, wr.heap.size = n := ⟨_, rfl⟩
       have HS0 : Hid (wr.heap.size = s0) := hs0
       clear hs0
       go_upto_region 12 with fail
       refine WL.start ?_
       refine wp_runW (.pointer (some ⟨wr.heap.size, 0, none⟩)) (wr.alloc (.cells (#[.int .i64 0]) 3)) (exec_alloc1 3 rfl (.int .i64 0) rfl zero3) (by kernel_rfl) ?_
       try simp only [pA, pB, p1, p2, p3]
       have hx0_gk23 : s0 ≤ wr.heap.size := by rw [← HS0.out]; exact HK0.out.size
       have HK0 : Hid (Kept No wr (wr.alloc (.cells (#[.int .i64 0]) 3))) := HK0.out.no ((Kept.refl No _).alloc _)
       have HF : Hid (Fr No w (wr.alloc (.cells (#[.int .i64 0]) 3)) [(gk1, 26, Bv.cells ⟨up, ⟨ea, en, ec⟩, ⟨la, ln, lc⟩⟩), (gk3, 3, #[.int .i64 stop]), (gk5, 4, #[.bool false]), (gk11, 26, Bv.cells ⟨up, ⟨ma0, mn0, mc0⟩, ⟨la0, ln0, lc0⟩⟩), (gk15, 56, #[.func (.func 30) #[] #[.pointer (some ⟨lb, 0, none⟩)]]), (gk19, 23, #[.slice ma ns.length mc]), (wr.heap.size, 3, #[.int .i64 0])]) := HF.out.alloc _ _
       generalize wr.alloc (.cells (#[.int .i64 0]) 3) = wk24 at HF HK0 ⊢
       generalize wr.heap.size = gk23 at HF hx0_gk23 ⊢
       refine wp_storeW 3 _ _ rfl ⟨gk23, 0, none⟩ (.int .i64 0) (by kernel_rfl) (by kernel_rfl) (wk24.setRow gk23 (#[.int .i64 0])) (run_store_to (cur := [.int .i64 0]) (vs := [.int .i64 0]) (new := [.int .i64 0]) (HF.out.box 6 _ _ _ rfl) (by kernel_rfl) Try.size3 (Nat.le_of_ble_eq_true (by kernel_rfl)) (by simp [Value.oneCell', Sl.v]) (by kernel_rfl)) (by kernel_rfl) ?_
       try simp only [pA, pB, p1, p2, p3]
       have HK0 : Hid (Kept No wr (wk24.setRow gk23 (#[.int .i64 0]))) := HK0.out.newRow (by rw [HS0.out]; exact hx0_gk23) _
       have HF : Hid (Fr No w (wk24.setRow gk23 (#[.int .i64 0])) [(gk1, 26, Bv.cells ⟨up, ⟨ea, en, ec⟩, ⟨la, ln, lc⟩⟩), (gk3, 3, #[.int .i64 stop]), (gk5, 4, #[.bool false]), (gk11, 26, Bv.cells ⟨up, ⟨ma0, mn0, mc0⟩, ⟨la0, ln0, lc0⟩⟩), (gk15, 56, #[.func (.func 30) #[] #[.pointer (some ⟨lb, 0, none⟩)]]), (gk19, 23, #[.slice ma ns.length mc]), (gk23, 3, #[.int .i64 0])]) := HF.out.set 6 rfl _
       generalize wk24.setRow gk23 (#[.int .i64 0]) = wk25 at HF HK0 ⊢
       refine WL.nil ?_
       try simp only [pA, pB, p1, p2, p3]
       have HSq : Hid (SeqAt wk25 lb sa sc ns) := HSqs.out.no HK0.out
       have HM : Hid (OwE wk25 w.heap.size ⟨ma, ns.length, mc⟩ ns) := HMs.out.no HK0.out
       clear HSqs HMs HK0 HS0 hx0_gk23
       have hm3 : ns.length ≤ 10000000000000 := by omega
       have hmix : Try.prog.follows .mixedOrders = true := by kernel_rfl
       have HSQ : Hid (Sq w [(gk1, 26, Bv.cells ⟨up, ⟨ea, en, ec⟩, ⟨la, ln, lc⟩⟩), (gk3, 3, #[.int .i64 stop]), (gk5, 4, #[.bool false]), (gk11, 26, Bv.cells ⟨up, ⟨ma0, mn0, mc0⟩, ⟨la0, ln0, lc0⟩⟩), (gk15, 56, #[.func (.func 30) #[] #[.pointer (some ⟨lb, 0, none⟩)]]), (gk19, 23, #[.slice ma ns.length mc]), (gk23, 3, #[.int .i64 0])] lb sa sc ma mc ns [] wk25) := ⟨HF.out, HSq.out, HM.out, fun D hD => by simp at hD⟩
       clear HSq HM HE0 HL0
       go_wp2
       refine wp_loop_rounds (3 + 1) ?_
       rw [rounds_succ]
       have HSQ0 : Hid (Sq w [(gk1, 26, Bv.cells ⟨up, ⟨ea, en, ec⟩, ⟨la, ln, lc⟩⟩), (gk3, 3, #[.int .i64 stop]), (gk5, 4, #[.bool false]), (gk11, 26, Bv.cells ⟨up, ⟨ma0, mn0, mc0⟩, ⟨la0, ln0, lc0⟩⟩), (gk15, 56, #[.func (.func 30) #[] #[.pointer (some ⟨lb, 0, none⟩)]]), (gk19, 23, #[.slice ma ns.length mc]), (gk23, 3, #[.int .i64 0])] lb sa sc ma mc ns [] wk25) := HSQ
       clear HSQ
       have HK0 : Hid (Kept No wk25 wk25) := Kept.refl _ _
       obtain ⟨s0, hs0⟩ : ∃ n, wk25.heap.size = n := ⟨_, rfl⟩
       have HS0 : Hid (wk25.heap.size = s0) := hs0
       clear hs0
       skip
       go_upto_region 13 with fail
       refine WL.start ?_
       refine tW (.int .i64 0) (exec_load 3 _ rfl ⟨gk23, 0, none⟩ (by kernel_rfl) (.int .i64 0) (load_one ((HF.out.box 6 _ _ _ rfl).cell 0 |>.trans (by kernel_rfl)) Try.und3 rfl)) ?_
       try simp only [pA, pB, p1, p2, p3]
       refine tW (.bool true) (exec_bin .lss 3 _ _ _ rfl (.int .i64 0) (.int .i64 3) (.bool true) (by kernel_rfl) (by kernel_rfl) (by kernel_rfl) (by kernel_rfl)) ?_
       try simp only [pA, pB, p1, p2, p3]
       refine WL.nil ?_
       try simp only [pA, pB, p1, p2, p3]
       go_upto_region 15 with fail
       refine WL.start ?_
       refine wp_runW (.pointer (some ⟨wk25.heap.size, 0, none⟩)) (wk25.alloc (.cells (#[.int .i64 0]) 3)) (exec_alloc1 3 rfl (.int .i64 0) rfl zero3) (by kernel_rfl) ?_
       try simp only [pA, pB, p1, p2, p3]
       have hx0_gk26 : s0 ≤ wk25.heap.size := by rw [← HS0.out]; exact HK0.out.size
       have HK0 : Hid (Kept No wk25 (wk25.alloc (.cells (#[.int .i64 0]) 3))) := HK0.out.no ((Kept.refl No _).alloc _)
       have HF : Hid (Fr No w (wk25.alloc (.cells (#[.int .i64 0]) 3)) [(gk1, 26, Bv.cells ⟨up, ⟨ea, en, ec⟩, ⟨la, ln, lc⟩⟩), (gk3, 3, #[.int .i64 stop]), (gk5, 4, #[.bool false]), (gk11, 26, Bv.cells ⟨up, ⟨ma0, mn0, mc0⟩, ⟨la0, ln0, lc0⟩⟩), (gk15, 56, #[.func (.func 30) #[] #[.pointer (some ⟨lb, 0, none⟩)]]), (gk19, 23, #[.slice ma ns.length mc]), (gk23, 3, #[.int .i64 0]), (wk25.heap.size, 3, #[.int .i64 0])]) := HF.out.alloc _ _
       generalize wk25.alloc (.cells (#[.int .i64 0]) 3) = wk27 at HF HK0 ⊢
       generalize wk25.heap.size = gk26 at HF hx0_gk26 ⊢
       refine wp_storeW 3 _ _ rfl ⟨gk26, 0, none⟩ (.int .i64 0) (by kernel_rfl) (by kernel_rfl) (wk27.setRow gk26 (#[.int .i64 0])) (run_store_to (cur := [.int .i64 0]) (vs := [.int .i64 0]) (new := [.int .i64 0]) (HF.out.box 7 _ _ _ rfl) (by kernel_rfl) Try.size3 (Nat.le_of_ble_eq_true (by kernel_rfl)) (by simp [Value.oneCell', Sl.v]) (by kernel_rfl)) (by kernel_rfl) ?_
       try simp only [pA, pB, p1, p2, p3]
       have HK0 : Hid (Kept No wk25 (wk27.setRow gk26 (#[.int .i64 0]))) := HK0.out.newRow (by rw [HS0.out]; exact hx0_gk26) _
       have HF : Hid (Fr No w (wk27.setRow gk26 (#[.int .i64 0])) [(gk1, 26, Bv.cells ⟨up, ⟨ea, en, ec⟩, ⟨la, ln, lc⟩⟩), (gk3, 3, #[.int .i64 stop]), (gk5, 4, #[.bool false]), (gk11, 26, Bv.cells ⟨up, ⟨ma0, mn0, mc0⟩, ⟨la0, ln0, lc0⟩⟩), (gk15, 56, #[.func (.func 30) #[] #[.pointer (some ⟨lb, 0, none⟩)]]), (gk19, 23, #[.slice ma ns.length mc]), (gk23, 3, #[.int .i64 0]), (gk26, 3, #[.int .i64 0])]) := HF.out.set 7 rfl _
       generalize wk27.setRow gk26 (#[.int .i64 0]) = wk28 at HF HK0 ⊢
       refine WL.nil ?_
       try simp only [pA, pB, p1, p2, p3]
       go_upto_region 16 with fail
       refine WL.start ?_
       refine tW (.func (.func 30) #[] #[.pointer (some ⟨lb, 0, none⟩)]) (exec_load 56 _ rfl ⟨gk15, 0, none⟩ (by kernel_rfl) (.func (.func 30) #[] #[.pointer (some ⟨lb, 0, none⟩)]) (load_one ((HF.out.box 4 _ _ _ rfl).cell 0 |>.trans (by kernel_rfl)) Try.und56f rfl)) ?_
       try simp only [pA, pB, p1, p2, p3]
       refine WL.nil ?_
       try simp only [pA, pB, p1, p2, p3]
       have HSQ : Hid (Sq w [(gk1, 26, Bv.cells ⟨up, ⟨ea, en, ec⟩, ⟨la, ln, lc⟩⟩), (gk3, 3, #[.int .i64 stop]), (gk5, 4, #[.bool false]), (gk11, 26, Bv.cells ⟨up, ⟨ma0, mn0, mc0⟩, ⟨la0, ln0, lc0⟩⟩), (gk15, 56, #[.func (.func 30) #[] #[.pointer (some ⟨lb, 0, none⟩)]]), (gk19, 23, #[.slice ma ns.length mc]), (gk23, 3, #[.int .i64 0]), (gk26, 3, #[.int .i64 0])] lb sa sc ma mc ns [] wk28) := ⟨HF.out, (HSQ0.out.no HK0.out).sq, (HSQ0.out.no HK0.out).wt, (HSQ0.out.no HK0.out).df⟩
       clear HSQ0 HK0 HS0 hx0_gk26
       obtain ⟨B0, hB0⟩ : ∃ x, wk28.heap.size = x := ⟨_, rfl⟩
       have hBw0 : w.heap.size ≤ B0 := by rw [← hB0]; exact HF.out.kept.size
       have hDs0 : ∀ D ∈ ([] : List Nat), D < B0 := fun D hD => by rw [← hB0]; exact (HSQ.out.df D hD).lt
       go_upto_block 4 with fail
       refine cut_defer (fun D W' => B0 ≤ D ∧ DefAt W' D ∧ ∃ nv : Nat, True ∧ Sq w [(gk1, 26, Bv.cells ⟨up, ⟨ea, en, ec⟩, ⟨la, ln, lc⟩⟩), (gk3, 3, #[.int .i64 stop]), (gk5, 4, #[.bool false]), (gk11, 26, Bv.cells ⟨up, ⟨ma0, mn0, mc0⟩, ⟨la0, ln0, lc0⟩⟩), (gk15, 56, #[.func (.func 30) #[] #[.pointer (some ⟨lb, 0, none⟩)]]), (gk19, 23, #[.slice ma ns.length mc]), (gk23, 3, #[.int .i64 0]), (gk26, 3, #[.int .i64 ((nv : Nat) : Int)])] lb sa sc ma mc ns [] W') ?_ ?_
       · have HBB : Hid (wk28.heap.size = B0) := hB0
         clear hB0
         go_wp2
         refine (wpIn_wide (n := 8)).1 ?_
         refine' rf_B (F := Fence.wide) rfl (by omega) (gf := 30) (lb := #[.pointer (some ⟨lb, 0, none⟩)]) rfl trivial (enters_of Try.func30 (by kernel_rfl) rfl)
           (seq_mem Fence.wide (8 - 1) trivial rfl (by omega) lb sc ns.length sa ns hm3 rfl wk28 HSQ.out.sq) nb_t (nb_b HSQ.out.sq (Nat.le_refl _)) (Below.refl _ _) (fun _ => rfl)
           (fun pre W' => Sq w [(gk1, 26, Bv.cells ⟨up, ⟨ea, en, ec⟩, ⟨la, ln, lc⟩⟩), (gk3, 3, #[.int .i64 stop]), (gk5, 4, #[.bool false]), (gk11, 26, Bv.cells ⟨up, ⟨ma0, mn0, mc0⟩, ⟨la0, ln0, lc0⟩⟩), (gk15, 56, #[.func (.func 30) #[] #[.pointer (some ⟨lb, 0, none⟩)]]), (gk19, 23, #[.slice ma ns.length mc]), (gk23, 3, #[.int .i64 0]), (gk26, 3, #[.int .i64 ((pre.length : Nat) : Int)])] lb sa sc ma mc ns [] W')
           (fun c pre W' => (c = .ret ∧ ¬ vals pre <+: ns) ∨ (c = .exit 4 ∧ True ∧ Sq w [(gk1, 26, Bv.cells ⟨up, ⟨ea, en, ec⟩, ⟨la, ln, lc⟩⟩), (gk3, 3, #[.int .i64 stop]), (gk5, 4, #[.bool false]), (gk11, 26, Bv.cells ⟨up, ⟨ma0, mn0, mc0⟩, ⟨la0, ln0, lc0⟩⟩), (gk15, 56, #[.func (.func 30) #[] #[.pointer (some ⟨lb, 0, none⟩)]]), (gk19, 23, #[.slice ma ns.length mc]), (gk23, 3, #[.int .i64 0]), (gk26, 3, #[.int .i64 ((pre.length : Nat) : Int)])] lb sa sc ma mc ns [] W')) ?own ?ownx HSQ.out (fun W' o => (Kept.refl _ W').alloc o) 34 (fun x => x.1.cells) _ ?assign ?body ?done ?stop
         case own => exact fun pre A' B' row h hg hr => h.grown hg (by rw [← HBB.out]; exact hr) hBw0 hDs0
         case ownx => exact fun c pre A' B' row h hg hr => h.imp id (fun ⟨e1, e2, h⟩ => ⟨e1, e2, h.grown hg (by rw [← HBB.out]; exact hr) hBw0 hDs0⟩)
         case assign =>
           intro l x W' K vb hvb hK
           simp only [List.zip_toArray, List.zip_cons_cons, List.zip_nil_left, List.zip_nil_right, List.size_toArray, List.length_cons, List.length_nil, List.foldl_toArray, List.foldl_toArray', List.foldl_cons, List.foldl_nil, p1, p2, p3]
           gi_upto_region 17 with fail
           refine WI.start ?_
           refine wi_run (.pointer (some ⟨W'.heap.size, 0, none⟩)) (W'.alloc (.cells (En.cells enZ) 34)) (exec_alloc 34 rfl (En.cells enZ) zero54) (by kernel_rfl) ?_
           try simp only [pA, pB, p1, p2, p3]
           refine wi_store 34 _ _ rfl ⟨W'.heap.size, 0, none⟩ (.agg (En.cells x.1)) (by kernel_rfl) (by kernel_rfl) (W'.alloc (.cells (En.cells x.1) 34)) (by rw [← alloc_set W' (En.cells enZ) (En.cells x.1) 34]; exact st54 (Box.new _ _ _) rfl) (by kernel_rfl) ?_
           try simp only [pA, pB, p1, p2, p3]
           refine WI.nil ?_
           try simp only [pA, pB, p1, p2, p3]
           gi_wp2
           rw [← hvb]
           exact hK
         case done =>
           rintro D ys W' hD hys hI hK
           have eys : ys.length = ns.length := by have h9 := congrArg List.length hys; simpa using h9
           rw [eys] at hI
           gi_wp2
           exact ⟨rfl, D, rfl, by rw [← HBB.out]; exact hD, hK, ns.length, trivial, hI⟩
         case stop =>
           rintro D c pre W' hD hpre h hK
           rcases h with ⟨rfl, h⟩ | ⟨rfl, hc, h⟩
           · exact absurd hpre h
           · gi_wp2
             exact ⟨rfl, D, rfl, by rw [← HBB.out]; exact hD, hK, pre.length, trivial, h⟩
         case body =>
           clear HSQ HF
           rintro l pre ⟨x, hx⟩ vb W' hl hlo hI hbv hlen
           have hI : Sq w [(gk1, 26, Bv.cells ⟨up, ⟨ea, en, ec⟩, ⟨la, ln, lc⟩⟩), (gk3, 3, #[.int .i64 stop]), (gk5, 4, #[.bool false]), (gk11, 26, Bv.cells ⟨up, ⟨ma0, mn0, mc0⟩, ⟨la0, ln0, lc0⟩⟩), (gk15, 56, #[.func (.func 30) #[] #[.pointer (some ⟨lb, 0, none⟩)]]), (gk19, 23, #[.slice ma ns.length mc]), (gk23, 3, #[.int .i64 0]), (gk26, 3, #[.int .i64 ((pre.length : Nat) : Int)])] lb sa sc ma mc ns [] W' := hI
           have HSQ : Hid (Sq w [(gk1, 26, Bv.cells ⟨up, ⟨ea, en, ec⟩, ⟨la, ln, lc⟩⟩), (gk3, 3, #[.int .i64 stop]), (gk5, 4, #[.bool false]), (gk11, 26, Bv.cells ⟨up, ⟨ma0, mn0, mc0⟩, ⟨la0, ln0, lc0⟩⟩), (gk15, 56, #[.func (.func 30) #[] #[.pointer (some ⟨lb, 0, none⟩)]]), (gk19, 23, #[.slice ma ns.length mc]), (gk23, 3, #[.int .i64 0]), (gk26, 3, #[.int .i64 ((pre.length : Nat) : Int)])] lb sa sc ma mc ns [] W') := hI
           have HV : Hid (Box W' vb 34 (En.cells x)) := hbv
           have HKN : Hid (Kept (NB lb sa) W' W') := Kept.refl _ _
           have HKF : Hid (KeepsFrom B0 W' W') := KeepsFrom.refl _ _
           have HF : Hid (Fr No w W' [(gk1, 26, Bv.cells ⟨up, ⟨ea, en, ec⟩, ⟨la, ln, lc⟩⟩), (gk3, 3, #[.int .i64 stop]), (gk5, 4, #[.bool false]), (gk11, 26, Bv.cells ⟨up, ⟨ma0, mn0, mc0⟩, ⟨la0, ln0, lc0⟩⟩), (gk15, 56, #[.func (.func 30) #[] #[.pointer (some ⟨lb, 0, none⟩)]]), (gk19, 23, #[.slice ma ns.length mc]), (gk23, 3, #[.int .i64 0]), (gk26, 3, #[.int .i64 ((pre.length : Nat) : Int)])]) := hI.fr
           obtain ⟨r0, hr0⟩ := hlo
           have HR0 : Hid (W'.heap[l]? = some (.loop r0)) := hr0
           have HLl : Hid (B0 ≤ l) := by show _ ≤ _; rw [← HBB.out]; exact hl
           clear hr0
           have hlen : pre.length < ns.length := hlen
           have HPx : Hid (¬ x = eAt ns pre.length → ¬ vals (pre ++ [(⟨x, hx⟩ : { x : En // x ∈ ns })]) <+: ns) := fun h9 hp => h9 (by rw [vals_snoc] at hp; have h8 := pre_is hp; rw [vals_len, eAt_some hlen] at h8; exact (Option.some.inj h8).symm)
           have HLn : Hid ((pre ++ [(⟨x, hx⟩ : { x : En // x ∈ ns })]).length = pre.length + 1) := by show _ = _; simp
           obtain ⟨p, hp⟩ : ∃ p, p = pre.length := ⟨_, rfl⟩
           rw [← hp] at HSQ HF HPx HLn hlen
           clear hI hbv hp
           obtain ⟨pb, po, hca, hcc⟩ := (show Es W' ma ns from HSQ.out.wt.rd.row).at hlen
           have hsl : Hid (Value.slice ma ns.length mc = .slice (some ⟨pb, po, none⟩) ns.length mc) := congrArg (fun y => Value.slice y ns.length mc) hca
           obtain ⟨y, hy⟩ : ∃ y, y = eAt ns p := ⟨_, rfl⟩
           rw [← hy] at hcc HPx
           have HCC : Hid (∀ (j : Nat) v, (En.cs y)[j]? = some v → W'.cell? ⟨pb, po + p * 4 + j, none⟩ = some v) := show ∀ (j : Nat) v, (En.cs y)[j]? = some v → W'.cell? ⟨pb, po + p * 4 + j, none⟩ = some v from hcc
           clear hca hcc hy
           simp only
           gi_upto_region 18 with fail
           refine region_round (F := Fence.wide) rfl hmix (by kernel_rfl) (by kernel_rfl) ?_
           refine qT (.int .i64 ((p : Nat) : Int)) (fun w' hw => exec_load 3 _ rfl ⟨gk26, 0, none⟩ (by kernel_rfl) (.int .i64 ((p : Nat) : Int)) (load_one (((HF.out.box 7 _ _ _ rfl).kept (qk hw) (fun e => e)).cell 0 |>.trans (by kernel_rfl)) Try.und3 rfl)) ?_
           try simp only [pA, pB, p1, p2, p3]
           refine qT (.slice ma ns.length mc) (fun w' hw => exec_load 23 _ rfl ⟨gk19, 0, none⟩ (by kernel_rfl) (.slice ma ns.length mc) (load_one (((HF.out.box 5 _ _ _ rfl).kept (qk hw) (fun e => e)).cell 0 |>.trans (by kernel_rfl)) Try.und22 rfl)) ?_
           try simp only [pA, pB, p1, p2, p3]
           refine qK (.int .i64 ((ns.length : Nat) : Int)) ?_
           try simp only [pA, pB, p1, p2, p3]
           refine qT (.bool false) (fun w' hw => exec_bin .geq 3 _ _ _ rfl (.int .i64 ((p : Nat) : Int)) (.int .i64 ((ns.length : Nat) : Int)) (.bool false) (by kernel_rfl) (by kernel_rfl) (by kernel_rfl) (by rw [b_geq, decide_eq_false (by omega)])) ?_
           try simp only [pA, pB, p1, p2, p3]
           refine qK (.bool false) ?_
           try simp only [pA, pB, p1, p2, p3]
           refine qT (.agg (En.cells x)) (fun w' hw => exec_load 34 _ rfl ⟨vb, 0, none⟩ (by kernel_rfl) (.agg (En.cells x)) (ld54 (HV.out.kept (qk hw) (fun e => e)))) ?_
           try simp only [pA, pB, p1, p2, p3]
           refine qT (.slice ma ns.length mc) (fun w' hw => exec_load 23 _ rfl ⟨gk19, 0, none⟩ (by kernel_rfl) (.slice ma ns.length mc) (load_one (((HF.out.box 5 _ _ _ rfl).kept (qk hw) (fun e => e)).cell 0 |>.trans (by kernel_rfl)) Try.und22 rfl)) ?_
           try simp only [pA, pB, p1, p2, p3]
           refine qT (.int .i64 ((p : Nat) : Int)) (fun w' hw => exec_load 3 _ rfl ⟨gk26, 0, none⟩ (by kernel_rfl) (.int .i64 ((p : Nat) : Int)) (load_one (((HF.out.box 7 _ _ _ rfl).kept (qk hw) (fun e => e)).cell 0 |>.trans (by kernel_rfl)) Try.und3 rfl)) ?_
           try simp only [pA, pB, p1, p2, p3]
           refine qT (.pointer (some ⟨pb, po + p * 4, none⟩)) (fun w' hw => exec_ixA 23 4 Try.und22e Try.size22e _ _ rfl pb po ns.length mc p (Eq.trans (b := .slice ma ns.length mc) (by kernel_rfl) hsl.out) (by kernel_rfl) hlen) ?_
           try simp only [pA, pB, p1, p2, p3]
           refine qT (.agg (En.cells y)) (fun w' hw => exec_load 34 _ rfl ⟨pb, po + p * 4, none⟩ (by kernel_rfl) (.agg (En.cells y)) (load_E (fun j v hv => (qk hw).cell (HCC.out j v hv) (fun e => e)))) ?_
           try simp only [pA, pB, p1, p2, p3]
           cases q2 : (eqE x y)
           ·skip
            refine qT (.bool true) (fun w' hw => exec_bin .neq 34 _ _ _ rfl (.agg (En.cells x)) (.agg (En.cells y)) (.bool true) (by kernel_rfl) (by kernel_rfl) (by kernel_rfl) (by rw [eqE_neq, q2]; try rfl)) ?_
            try simp only [pA, pB, p1, p2, p3]
            refine qK (.bool true) ?_
            try simp only [pA, pB, p1, p2, p3]
            refine wpQuietIn_nil ?_
            intro w9 hw9
            obtain ⟨nq, rfl⟩ := hw9
            have HSQ : Hid (Sq w [(gk1, 26, Bv.cells ⟨up, ⟨ea, en, ec⟩, ⟨la, ln, lc⟩⟩), (gk3, 3, #[.int .i64 stop]), (gk5, 4, #[.bool false]), (gk11, 26, Bv.cells ⟨up, ⟨ma0, mn0, mc0⟩, ⟨la0, ln0, lc0⟩⟩), (gk15, 56, #[.func (.func 30) #[] #[.pointer (some ⟨lb, 0, none⟩)]]), (gk19, 23, #[.slice ma ns.length mc]), (gk23, 3, #[.int .i64 0]), (gk26, 3, #[.int .i64 ((p : Nat) : Int)])] lb sa sc ma mc ns [] (W'.drewN nq)) := HSQ.out.no (Kept.no_drewN _ nq)
            have HKN : Hid (Kept (NB lb sa) W' (W'.drewN nq)) := HKN.out.then (Kept.no_drewN _ nq).of_no
            have HKF : Hid (KeepsFrom B0 W' (W'.drewN nq)) := HKF.out.trans ((keepsN _ nq).from _)
            have HF : Hid (Fr No w (W'.drewN nq) [(gk1, 26, Bv.cells ⟨up, ⟨ea, en, ec⟩, ⟨la, ln, lc⟩⟩), (gk3, 3, #[.int .i64 stop]), (gk5, 4, #[.bool false]), (gk11, 26, Bv.cells ⟨up, ⟨ma0, mn0, mc0⟩, ⟨la0, ln0, lc0⟩⟩), (gk15, 56, #[.func (.func 30) #[] #[.pointer (some ⟨lb, 0, none⟩)]]), (gk19, 23, #[.slice ma ns.length mc]), (gk23, 3, #[.int .i64 0]), (gk26, 3, #[.int .i64 ((p : Nat) : Int)])]) := HSQ.out.fr
            generalize W'.drewN nq = wk29 at HF HSQ HKN HKF ⊢
            have hne : ¬ x = y := fun e => by rw [e, eqE_iff.2 rfl] at q2; cases q2
            gi_upto_region 19 with fail
            refine WI.start ?_
            refine wi_store 4 _ _ rfl ⟨gk5, 0, none⟩ (.bool false) (by kernel_rfl) (by kernel_rfl) (wk29.setRow gk5 (#[.bool false])) (run_store_to (cur := [.bool false]) (vs := [.bool false]) (new := [.bool false]) (HF.out.box 2 _ _ _ rfl) (by kernel_rfl) Try.size4 (Nat.le_of_ble_eq_true (by kernel_rfl)) (by simp [Value.oneCell', Sl.v]) (by kernel_rfl)) (by kernel_rfl) ?_
            try simp only [pA, pB, p1, p2, p3]
            have hset := HSQ.out.set 2 rfl (.inr rfl) (#[.bool false])
            have HKF : Hid (KeepsFrom B0 W' (wk29.setRow gk5 (#[.bool false]))) := HKF.out.trans ((keepsRow (HF.out.box 2 _ _ _ rfl) _).from _)
            have HSQ : Hid (Sq w [(gk1, 26, Bv.cells ⟨up, ⟨ea, en, ec⟩, ⟨la, ln, lc⟩⟩), (gk3, 3, #[.int .i64 stop]), (gk5, 4, #[.bool false]), (gk11, 26, Bv.cells ⟨up, ⟨ma0, mn0, mc0⟩, ⟨la0, ln0, lc0⟩⟩), (gk15, 56, #[.func (.func 30) #[] #[.pointer (some ⟨lb, 0, none⟩)]]), (gk19, 23, #[.slice ma ns.length mc]), (gk23, 3, #[.int .i64 0]), (gk26, 3, #[.int .i64 ((p : Nat) : Int)])] lb sa sc ma mc ns [] (wk29.setRow gk5 (#[.bool false]))) := hset.1
            have HKN : Hid (Kept (NB lb sa) W' (wk29.setRow gk5 (#[.bool false]))) := HKN.out.then hset.2
            clear hset
            have HF : Hid (Fr No w (wk29.setRow gk5 (#[.bool false])) [(gk1, 26, Bv.cells ⟨up, ⟨ea, en, ec⟩, ⟨la, ln, lc⟩⟩), (gk3, 3, #[.int .i64 stop]), (gk5, 4, #[.bool false]), (gk11, 26, Bv.cells ⟨up, ⟨ma0, mn0, mc0⟩, ⟨la0, ln0, lc0⟩⟩), (gk15, 56, #[.func (.func 30) #[] #[.pointer (some ⟨lb, 0, none⟩)]]), (gk19, 23, #[.slice ma ns.length mc]), (gk23, 3, #[.int .i64 0]), (gk26, 3, #[.int .i64 ((p : Nat) : Int)])]) := HSQ.out.fr
            generalize wk29.setRow gk5 (#[.bool false]) = wk30 at HF HSQ HKN HKF ⊢
            refine WI.nil ?_
            try simp only [pA, pB, p1, p2, p3]
            gi_wp2
            exact ⟨by rw [HBB.out]; exact HKF.out, .inl ⟨rfl, HPx.out hne⟩⟩
           ·skip
            refine qT (.bool false) (fun w' hw => exec_bin .neq 34 _ _ _ rfl (.agg (En.cells x)) (.agg (En.cells y)) (.bool false) (by kernel_rfl) (by kernel_rfl) (by kernel_rfl) (by rw [eqE_neq, q2]; try rfl)) ?_
            try simp only [pA, pB, p1, p2, p3]
            refine qK (.bool false) ?_
            try simp only [pA, pB, p1, p2, p3]
            refine wpQuietIn_nil ?_
            intro w9 hw9
            obtain ⟨nq, rfl⟩ := hw9
            have HSQ : Hid (Sq w [(gk1, 26, Bv.cells ⟨up, ⟨ea, en, ec⟩, ⟨la, ln, lc⟩⟩), (gk3, 3, #[.int .i64 stop]), (gk5, 4, #[.bool false]), (gk11, 26, Bv.cells ⟨up, ⟨ma0, mn0, mc0⟩, ⟨la0, ln0, lc0⟩⟩), (gk15, 56, #[.func (.func 30) #[] #[.pointer (some ⟨lb, 0, none⟩)]]), (gk19, 23, #[.slice ma ns.length mc]), (gk23, 3, #[.int .i64 0]), (gk26, 3, #[.int .i64 ((p : Nat) : Int)])] lb sa sc ma mc ns [] (W'.drewN nq)) := HSQ.out.no (Kept.no_drewN _ nq)
            have HKN : Hid (Kept (NB lb sa) W' (W'.drewN nq)) := HKN.out.then (Kept.no_drewN _ nq).of_no
            have HKF : Hid (KeepsFrom B0 W' (W'.drewN nq)) := HKF.out.trans ((keepsN _ nq).from _)
            have HF : Hid (Fr No w (W'.drewN nq) [(gk1, 26, Bv.cells ⟨up, ⟨ea, en, ec⟩, ⟨la, ln, lc⟩⟩), (gk3, 3, #[.int .i64 stop]), (gk5, 4, #[.bool false]), (gk11, 26, Bv.cells ⟨up, ⟨ma0, mn0, mc0⟩, ⟨la0, ln0, lc0⟩⟩), (gk15, 56, #[.func (.func 30) #[] #[.pointer (some ⟨lb, 0, none⟩)]]), (gk19, 23, #[.slice ma ns.length mc]), (gk23, 3, #[.int .i64 0]), (gk26, 3, #[.int .i64 ((p : Nat) : Int)])]) := HSQ.out.fr
            generalize W'.drewN nq = wk31 at HF HSQ HKN HKF ⊢
            gi_upto_region 20 with fail
            refine WI.start ?_
            refine wi_run (.pointer (some ⟨wk31.heap.size, 0, none⟩)) (wk31.alloc (.cells (#[.int .i64 0]) 3)) (exec_alloc1 3 rfl (.int .i64 0) rfl zero3) (by kernel_rfl) ?_
            try simp only [pA, pB, p1, p2, p3]
            have HSQ : Hid (Sq w [(gk1, 26, Bv.cells ⟨up, ⟨ea, en, ec⟩, ⟨la, ln, lc⟩⟩), (gk3, 3, #[.int .i64 stop]), (gk5, 4, #[.bool false]), (gk11, 26, Bv.cells ⟨up, ⟨ma0, mn0, mc0⟩, ⟨la0, ln0, lc0⟩⟩), (gk15, 56, #[.func (.func 30) #[] #[.pointer (some ⟨lb, 0, none⟩)]]), (gk19, 23, #[.slice ma ns.length mc]), (gk23, 3, #[.int .i64 0]), (gk26, 3, #[.int .i64 ((p : Nat) : Int)]), (wk31.heap.size, 3, #[.int .i64 0])] lb sa sc ma mc ns [] (wk31.alloc (.cells (#[.int .i64 0]) 3))) := HSQ.out.alloc _ _
            have HKN : Hid (Kept (NB lb sa) W' (wk31.alloc (.cells (#[.int .i64 0]) 3))) := HKN.out.then ((Kept.refl No _).alloc _).of_no
            have HKF : Hid (KeepsFrom B0 W' (wk31.alloc (.cells (#[.int .i64 0]) 3))) := HKF.out.trans ((KeepsOthers.alloc _ _).from _)
            have HF : Hid (Fr No w (wk31.alloc (.cells (#[.int .i64 0]) 3)) [(gk1, 26, Bv.cells ⟨up, ⟨ea, en, ec⟩, ⟨la, ln, lc⟩⟩), (gk3, 3, #[.int .i64 stop]), (gk5, 4, #[.bool false]), (gk11, 26, Bv.cells ⟨up, ⟨ma0, mn0, mc0⟩, ⟨la0, ln0, lc0⟩⟩), (gk15, 56, #[.func (.func 30) #[] #[.pointer (some ⟨lb, 0, none⟩)]]), (gk19, 23, #[.slice ma ns.length mc]), (gk23, 3, #[.int .i64 0]), (gk26, 3, #[.int .i64 ((p : Nat) : Int)]), (wk31.heap.size, 3, #[.int .i64 0])]) := HSQ.out.fr
            generalize wk31.alloc (.cells (#[.int .i64 0]) 3) = wk33 at HF HSQ HKN HKF ⊢
            generalize wk31.heap.size = gk32 at HF HSQ ⊢
            refine wi_store 3 _ _ rfl ⟨gk32, 0, none⟩ (.int .i64 0) (by kernel_rfl) (by kernel_rfl) (wk33.setRow gk32 (#[.int .i64 0])) (run_store_to (cur := [.int .i64 0]) (vs := [.int .i64 0]) (new := [.int .i64 0]) (HF.out.box 8 _ _ _ rfl) (by kernel_rfl) Try.size3 (Nat.le_of_ble_eq_true (by kernel_rfl)) (by simp [Value.oneCell', Sl.v]) (by kernel_rfl)) (by kernel_rfl) ?_
            try simp only [pA, pB, p1, p2, p3]
            have hset := HSQ.out.set 8 rfl (.inl rfl) (#[.int .i64 0])
            have HKF : Hid (KeepsFrom B0 W' (wk33.setRow gk32 (#[.int .i64 0]))) := HKF.out.trans ((keepsRow (HF.out.box 8 _ _ _ rfl) _).from _)
            have HSQ : Hid (Sq w [(gk1, 26, Bv.cells ⟨up, ⟨ea, en, ec⟩, ⟨la, ln, lc⟩⟩), (gk3, 3, #[.int .i64 stop]), (gk5, 4, #[.bool false]), (gk11, 26, Bv.cells ⟨up, ⟨ma0, mn0, mc0⟩, ⟨la0, ln0, lc0⟩⟩), (gk15, 56, #[.func (.func 30) #[] #[.pointer (some ⟨lb, 0, none⟩)]]), (gk19, 23, #[.slice ma ns.length mc]), (gk23, 3, #[.int .i64 0]), (gk26, 3, #[.int .i64 ((p : Nat) : Int)]), (gk32, 3, #[.int .i64 0])] lb sa sc ma mc ns [] (wk33.setRow gk32 (#[.int .i64 0]))) := hset.1
            have HKN : Hid (Kept (NB lb sa) W' (wk33.setRow gk32 (#[.int .i64 0]))) := HKN.out.then hset.2
            clear hset
            have HF : Hid (Fr No w (wk33.setRow gk32 (#[.int .i64 0])) [(gk1, 26, Bv.cells ⟨up, ⟨ea, en, ec⟩, ⟨la, ln, lc⟩⟩), (gk3, 3, #[.int .i64 stop]), (gk5, 4, #[.bool false]), (gk11, 26, Bv.cells ⟨up, ⟨ma0, mn0, mc0⟩, ⟨la0, ln0, lc0⟩⟩), (gk15, 56, #[.func (.func 30) #[] #[.pointer (some ⟨lb, 0, none⟩)]]), (gk19, 23, #[.slice ma ns.length mc]), (gk23, 3, #[.int .i64 0]), (gk26, 3, #[.int .i64 ((p : Nat) : Int)]), (gk32, 3, #[.int .i64 0])]) := HSQ.out.fr
            generalize wk33.setRow gk32 (#[.int .i64 0]) = wk34 at HF HSQ HKN HKF ⊢
            refine WI.nil ?_
            try simp only [pA, pB, p1, p2, p3]
            gi_upto_region 21 with fail
            refine WI.start ?_
            refine iW (.func (.func 30) #[] #[.pointer (some ⟨lb, 0, none⟩)]) (exec_load 56 _ rfl ⟨gk15, 0, none⟩ (by kernel_rfl) (.func (.func 30) #[] #[.pointer (some ⟨lb, 0, none⟩)]) (load_one ((HF.out.box 4 _ _ _ rfl).cell 0 |>.trans (by kernel_rfl)) Try.und56f rfl)) ?_
            try simp only [pA, pB, p1, p2, p3]
            refine WI.nil ?_
            try simp only [pA, pB, p1, p2, p3]
            have hrc : wk34.heap[l]? = some (.loop r0) := HKF.out.same l _ HLl.out HR0.out rfl
            have hBi : B0 ≤ wk34.heap.size := Nat.le_trans HLl.out (Nat.le_of_lt (Array.getElem?_eq_some_iff.1 hrc).1)
            have hWs : W'.heap.size ≤ wk34.heap.size := HKN.out.size
            have hBw2 : w.heap.size ≤ wk34.heap.size := HF.out.kept.size
            have hDs2 : ∀ D ∈ ([] : List Nat), D < wk34.heap.size := fun D hD => (HSQ.out.df D hD).lt
            gi_wp2
            refine' rf_BN (F := Fence.wide.inRound l) (l₀ := l) (r₀ := r0) rfl hrc (by omega) (gf := 30) (lb := #[.pointer (some ⟨lb, 0, none⟩)]) rfl trivial (enters_of Try.func30 (by kernel_rfl) rfl)
              ((seq_mem Fence.wide (6 - 1) trivial rfl (by omega) lb sc ns.length sa ns hm3 rfl wk34 HSQ.out.sq).inRound l) nb_t (nb_b HSQ.out.sq (Nat.le_refl _)) (Below.refl _ _) (fun _ => rfl)
              (fun pre2 W2 => Sq w [(gk1, 26, Bv.cells ⟨up, ⟨ea, en, ec⟩, ⟨la, ln, lc⟩⟩), (gk3, 3, #[.int .i64 stop]), (gk5, 4, #[.bool false]), (gk11, 26, Bv.cells ⟨up, ⟨ma0, mn0, mc0⟩, ⟨la0, ln0, lc0⟩⟩), (gk15, 56, #[.func (.func 30) #[] #[.pointer (some ⟨lb, 0, none⟩)]]), (gk19, 23, #[.slice ma ns.length mc]), (gk23, 3, #[.int .i64 0]), (gk26, 3, #[.int .i64 ((p : Nat) : Int)]), (gk32, 3, #[.int .i64 ((pre2.length : Nat) : Int)])] lb sa sc ma mc ns [] W2 ∧ Kept (NB lb sa) W' W2 ∧ KeepsFrom B0 W' W2)
              (fun c pre2 W2 => (c = .ret ∧ ¬ vals pre2 <+: ns) ∨ (c = .exit 6 ∧ Sq w [(gk1, 26, Bv.cells ⟨up, ⟨ea, en, ec⟩, ⟨la, ln, lc⟩⟩), (gk3, 3, #[.int .i64 stop]), (gk5, 4, #[.bool false]), (gk11, 26, Bv.cells ⟨up, ⟨ma0, mn0, mc0⟩, ⟨la0, ln0, lc0⟩⟩), (gk15, 56, #[.func (.func 30) #[] #[.pointer (some ⟨lb, 0, none⟩)]]), (gk19, 23, #[.slice ma ns.length mc]), (gk23, 3, #[.int .i64 0]), (gk26, 3, #[.int .i64 ((p : Nat) : Int)]), (gk32, 3, #[.int .i64 ((pre2.length : Nat) : Int)])] lb sa sc ma mc ns [] W2 ∧ Kept (NB lb sa) W' W2 ∧ KeepsFrom B0 W' W2)) ?own2 ?ownx2 ⟨HSQ.out, HKN.out, HKF.out⟩ (fun W2 o => (Kept.refl _ W2).alloc o) 34 (fun x => x.1.cells) _ ?assign2 ?body2 ?done2 ?stop2
            case own2 => exact fun pre2 A' B' row h hg hr => ⟨h.1.grown hg hr hBw2 hDs2, h.2.1.grown hg (fun k e hk => by have h9 := (hr k e).1; omega), (ownFrom_keepsFrom (β := Unit) (B := B0) hWs) () A' B' row h.2.2 hg hr⟩
            case ownx2 => exact fun c pre2 A' B' row h hg hr => h.imp id (fun ⟨e, h⟩ => ⟨e, h.1.grown hg hr hBw2 hDs2, h.2.1.grown hg (fun k e hk => by have h9 := (hr k e).1; omega), (ownFrom_keepsFrom (β := Unit) (B := B0) hWs) () A' B' row h.2.2 hg hr⟩)
            case assign2 =>
              intro l2 y2 W2 K vb2 hvb hK
              simp only [List.zip_toArray, List.zip_cons_cons, List.zip_nil_left, List.zip_nil_right, List.size_toArray, List.length_cons, List.length_nil, List.foldl_toArray, List.foldl_toArray', List.foldl_cons, List.foldl_nil, p1, p2, p3]
              gi_upto_region 22 with fail
              refine WI.start ?_
              refine wi_run (.pointer (some ⟨W2.heap.size, 0, none⟩)) (W2.alloc (.cells (En.cells enZ) 34)) (exec_alloc 34 rfl (En.cells enZ) zero54) (by kernel_rfl) ?_
              try simp only [pA, pB, p1, p2, p3]
              refine wi_store 34 _ _ rfl ⟨W2.heap.size, 0, none⟩ (.agg (En.cells y2.1)) (by kernel_rfl) (by kernel_rfl) (W2.alloc (.cells (En.cells y2.1) 34)) (by rw [← alloc_set W2 (En.cells enZ) (En.cells y2.1) 34]; exact st54 (Box.new _ _ _) rfl) (by kernel_rfl) ?_
              try simp only [pA, pB, p1, p2, p3]
              refine WI.nil ?_
              try simp only [pA, pB, p1, p2, p3]
              gi_wp2
              rw [← hvb]
              exact hK
            case stop2 =>
              rintro c pre2 W2 hpre (⟨_, hn⟩ | ⟨rfl, hI2, hKK, hKF⟩)
              · exact absurd hpre hn
              · have HSQ : Hid (Sq w [(gk1, 26, Bv.cells ⟨up, ⟨ea, en, ec⟩, ⟨la, ln, lc⟩⟩), (gk3, 3, #[.int .i64 stop]), (gk5, 4, #[.bool false]), (gk11, 26, Bv.cells ⟨up, ⟨ma0, mn0, mc0⟩, ⟨la0, ln0, lc0⟩⟩), (gk15, 56, #[.func (.func 30) #[] #[.pointer (some ⟨lb, 0, none⟩)]]), (gk19, 23, #[.slice ma ns.length mc]), (gk23, 3, #[.int .i64 0]), (gk26, 3, #[.int .i64 ((p : Nat) : Int)]), (gk32, 3, #[.int .i64 ((pre2.length : Nat) : Int)])] lb sa sc ma mc ns [] W2) := hI2
                have HKN : Hid (Kept (NB lb sa) W' W2) := hKK
                have HKF : Hid (KeepsFrom B0 W' W2) := hKF
                have HF : Hid (Fr No w W2 [(gk1, 26, Bv.cells ⟨up, ⟨ea, en, ec⟩, ⟨la, ln, lc⟩⟩), (gk3, 3, #[.int .i64 stop]), (gk5, 4, #[.bool false]), (gk11, 26, Bv.cells ⟨up, ⟨ma0, mn0, mc0⟩, ⟨la0, ln0, lc0⟩⟩), (gk15, 56, #[.func (.func 30) #[] #[.pointer (some ⟨lb, 0, none⟩)]]), (gk19, 23, #[.slice ma ns.length mc]), (gk23, 3, #[.int .i64 0]), (gk26, 3, #[.int .i64 ((p : Nat) : Int)]), (gk32, 3, #[.int .i64 ((pre2.length : Nat) : Int)])]) := hI2.fr
                clear hI2 hKK hKF hpre hrc hWs hBw2 hDs2
                generalize pre2.length = jp3 at HSQ HF
                gi_upto_region 27 with fail
                refine WI.start ?_
                refine iW (.int .i64 ((p : Nat) : Int)) (exec_load 3 _ rfl ⟨gk26, 0, none⟩ (by kernel_rfl) (.int .i64 ((p : Nat) : Int)) (load_one ((HF.out.box 7 _ _ _ rfl).cell 0 |>.trans (by kernel_rfl)) Try.und3 rfl)) ?_
                try simp only [pA, pB, p1, p2, p3]
                refine iW (.int .i64 (((p + 1) : Nat) : Int)) (exec_bin .add 3 _ _ _ rfl (.int .i64 ((p : Nat) : Int)) (.int .i64 1) (.int .i64 (((p + 1) : Nat) : Int)) (by kernel_rfl) (by kernel_rfl) (by kernel_rfl) (b_addw _ _ _ (by rw [IntKind.wrap_i64]; omega) _)) ?_
                try simp only [pA, pB, p1, p2, p3]
                refine wi_store 3 _ _ rfl ⟨gk26, 0, none⟩ (.int .i64 (((p + 1) : Nat) : Int)) (by kernel_rfl) (by kernel_rfl) (W2.setRow gk26 (#[.int .i64 (((p + 1) : Nat) : Int)])) (run_store_to (cur := [.int .i64 ((p : Nat) : Int)]) (vs := [.int .i64 (((p + 1) : Nat) : Int)]) (new := [.int .i64 (((p + 1) : Nat) : Int)]) (HF.out.box 7 _ _ _ rfl) (by kernel_rfl) Try.size3 (Nat.le_of_ble_eq_true (by kernel_rfl)) (by simp [Value.oneCell', Sl.v]) (by kernel_rfl)) (by kernel_rfl) ?_
                try simp only [pA, pB, p1, p2, p3]
                have hset := HSQ.out.set 7 rfl (.inl rfl) (#[.int .i64 (((p + 1) : Nat) : Int)])
                have HKF : Hid (KeepsFrom B0 W' (W2.setRow gk26 (#[.int .i64 (((p + 1) : Nat) : Int)]))) := HKF.out.trans ((keepsRow (HF.out.box 7 _ _ _ rfl) _).from _)
                have HSQ : Hid (Sq w [(gk1, 26, Bv.cells ⟨up, ⟨ea, en, ec⟩, ⟨la, ln, lc⟩⟩), (gk3, 3, #[.int .i64 stop]), (gk5, 4, #[.bool false]), (gk11, 26, Bv.cells ⟨up, ⟨ma0, mn0, mc0⟩, ⟨la0, ln0, lc0⟩⟩), (gk15, 56, #[.func (.func 30) #[] #[.pointer (some ⟨lb, 0, none⟩)]]), (gk19, 23, #[.slice ma ns.length mc]), (gk23, 3, #[.int .i64 0]), (gk26, 3, #[.int .i64 (((p + 1) : Nat) : Int)]), (gk32, 3, #[.int .i64 ((jp3 : Nat) : Int)])] lb sa sc ma mc ns [] (W2.setRow gk26 (#[.int .i64 (((p + 1) : Nat) : Int)]))) := hset.1
                have HKN : Hid (Kept (NB lb sa) W' (W2.setRow gk26 (#[.int .i64 (((p + 1) : Nat) : Int)]))) := HKN.out.then hset.2
                clear hset
                have HF : Hid (Fr No w (W2.setRow gk26 (#[.int .i64 (((p + 1) : Nat) : Int)])) [(gk1, 26, Bv.cells ⟨up, ⟨ea, en, ec⟩, ⟨la, ln, lc⟩⟩), (gk3, 3, #[.int .i64 stop]), (gk5, 4, #[.bool false]), (gk11, 26, Bv.cells ⟨up, ⟨ma0, mn0, mc0⟩, ⟨la0, ln0, lc0⟩⟩), (gk15, 56, #[.func (.func 30) #[] #[.pointer (some ⟨lb, 0, none⟩)]]), (gk19, 23, #[.slice ma ns.length mc]), (gk23, 3, #[.int .i64 0]), (gk26, 3, #[.int .i64 (((p + 1) : Nat) : Int)]), (gk32, 3, #[.int .i64 ((jp3 : Nat) : Int)])]) := HSQ.out.fr
                generalize W2.setRow gk26 (#[.int .i64 (((p + 1) : Nat) : Int)]) = wk35 at HF HSQ HKN HKF ⊢
                refine WI.nil ?_
                try simp only [pA, pB, p1, p2, p3]
                gi_upto_region 28 with fail
                refine WI.start ?_
                refine iW (.int .i64 0) (exec_load 3 _ rfl ⟨gk23, 0, none⟩ (by kernel_rfl) (.int .i64 0) (load_one ((HF.out.box 6 _ _ _ rfl).cell 0 |>.trans (by kernel_rfl)) Try.und3 rfl)) ?_
                try simp only [pA, pB, p1, p2, p3]
                refine iW (.bool true) (exec_bin .eql 3 _ _ _ rfl (.int .i64 0) (.int .i64 0) (.bool true) (by kernel_rfl) (by kernel_rfl) (by kernel_rfl) (by kernel_rfl)) ?_
                try simp only [pA, pB, p1, p2, p3]
                refine iK (.bool true) ?_
                try simp only [pA, pB, p1, p2, p3]
                refine iW (.int .i64 (((p + 1) : Nat) : Int)) (exec_load 3 _ rfl ⟨gk26, 0, none⟩ (by kernel_rfl) (.int .i64 (((p + 1) : Nat) : Int)) (load_one ((HF.out.box 7 _ _ _ rfl).cell 0 |>.trans (by kernel_rfl)) Try.und3 rfl)) ?_
                try simp only [pA, pB, p1, p2, p3]
                refine iW (.int .i64 stop) (exec_load 3 _ rfl ⟨gk3, 0, none⟩ (by kernel_rfl) (.int .i64 stop) (load_one ((HF.out.box 1 _ _ _ rfl).cell 0 |>.trans (by kernel_rfl)) Try.und3 rfl)) ?_
                try simp only [pA, pB, p1, p2, p3]
                cases q3 : ((((p + 1) : Nat) : Int) == stop)
                ·skip
                 refine iW (.bool false) (exec_bin .eql 3 _ _ _ rfl (.int .i64 (((p + 1) : Nat) : Int)) (.int .i64 stop) (.bool false) (by kernel_rfl) (by kernel_rfl) (by kernel_rfl) (by rw [b_eql, q3]; try rfl)) ?_
                 try simp only [pA, pB, p1, p2, p3]
                 refine iK (.bool false) ?_
                 try simp only [pA, pB, p1, p2, p3]
                 refine WI.nil ?_
                 try simp only [pA, pB, p1, p2, p3]
                 gi_wp2
                 exact ⟨by rw [HBB.out]; exact HKF.out, HKN.out, (show Sq w [(gk1, 26, Bv.cells ⟨up, ⟨ea, en, ec⟩, ⟨la, ln, lc⟩⟩), (gk3, 3, #[.int .i64 stop]), (gk5, 4, #[.bool false]), (gk11, 26, Bv.cells ⟨up, ⟨ma0, mn0, mc0⟩, ⟨la0, ln0, lc0⟩⟩), (gk15, 56, #[.func (.func 30) #[] #[.pointer (some ⟨lb, 0, none⟩)]]), (gk19, 23, #[.slice ma ns.length mc]), (gk23, 3, #[.int .i64 0]), (gk26, 3, #[.int .i64 (((pre ++ [(⟨x, hx⟩ : { x : En // x ∈ ns })]).length : Nat) : Int)])] lb sa sc ma mc ns [] wk35 from by rw [HLn.out]; exact Sq.front (l := [(gk1, 26, Bv.cells ⟨up, ⟨ea, en, ec⟩, ⟨la, ln, lc⟩⟩), (gk3, 3, #[.int .i64 stop]), (gk5, 4, #[.bool false]), (gk11, 26, Bv.cells ⟨up, ⟨ma0, mn0, mc0⟩, ⟨la0, ln0, lc0⟩⟩), (gk15, 56, #[.func (.func 30) #[] #[.pointer (some ⟨lb, 0, none⟩)]]), (gk19, 23, #[.slice ma ns.length mc]), (gk23, 3, #[.int .i64 0]), (gk26, 3, #[.int .i64 (((p + 1) : Nat) : Int)])]) (m := [(gk32, 3, #[.int .i64 ((jp3 : Nat) : Int)])]) HSQ.out)⟩
                ·skip
                 refine iW (.bool true) (exec_bin .eql 3 _ _ _ rfl (.int .i64 (((p + 1) : Nat) : Int)) (.int .i64 stop) (.bool true) (by kernel_rfl) (by kernel_rfl) (by kernel_rfl) (by rw [b_eql, q3]; try rfl)) ?_
                 try simp only [pA, pB, p1, p2, p3]
                 refine iK (.bool true) ?_
                 try simp only [pA, pB, p1, p2, p3]
                 refine WI.nil ?_
                 try simp only [pA, pB, p1, p2, p3]
                 gi_wp2
                 exact ⟨by rw [HBB.out]; exact HKF.out, .inr ⟨rfl, trivial, (show Sq w [(gk1, 26, Bv.cells ⟨up, ⟨ea, en, ec⟩, ⟨la, ln, lc⟩⟩), (gk3, 3, #[.int .i64 stop]), (gk5, 4, #[.bool false]), (gk11, 26, Bv.cells ⟨up, ⟨ma0, mn0, mc0⟩, ⟨la0, ln0, lc0⟩⟩), (gk15, 56, #[.func (.func 30) #[] #[.pointer (some ⟨lb, 0, none⟩)]]), (gk19, 23, #[.slice ma ns.length mc]), (gk23, 3, #[.int .i64 0]), (gk26, 3, #[.int .i64 (((pre ++ [(⟨x, hx⟩ : { x : En // x ∈ ns })]).length : Nat) : Int)])] lb sa sc ma mc ns [] wk35 from by rw [HLn.out]; exact Sq.front (l := [(gk1, 26, Bv.cells ⟨up, ⟨ea, en, ec⟩, ⟨la, ln, lc⟩⟩), (gk3, 3, #[.int .i64 stop]), (gk5, 4, #[.bool false]), (gk11, 26, Bv.cells ⟨up, ⟨ma0, mn0, mc0⟩, ⟨la0, ln0, lc0⟩⟩), (gk15, 56, #[.func (.func 30) #[] #[.pointer (some ⟨lb, 0, none⟩)]]), (gk19, 23, #[.slice ma ns.length mc]), (gk23, 3, #[.int .i64 0]), (gk26, 3, #[.int .i64 (((p + 1) : Nat) : Int)])]) (m := [(gk32, 3, #[.int .i64 ((jp3 : Nat) : Int)])]) HSQ.out)⟩⟩
            case done2 =>
              rintro ys2 W2 _ ⟨hI2, hKK, hKF⟩
              have HSQ : Hid (Sq w [(gk1, 26, Bv.cells ⟨up, ⟨ea, en, ec⟩, ⟨la, ln, lc⟩⟩), (gk3, 3, #[.int .i64 stop]), (gk5, 4, #[.bool false]), (gk11, 26, Bv.cells ⟨up, ⟨ma0, mn0, mc0⟩, ⟨la0, ln0, lc0⟩⟩), (gk15, 56, #[.func (.func 30) #[] #[.pointer (some ⟨lb, 0, none⟩)]]), (gk19, 23, #[.slice ma ns.length mc]), (gk23, 3, #[.int .i64 0]), (gk26, 3, #[.int .i64 ((p : Nat) : Int)]), (gk32, 3, #[.int .i64 ((ys2.length : Nat) : Int)])] lb sa sc ma mc ns [] W2) := hI2
              have HKN : Hid (Kept (NB lb sa) W' W2) := hKK
              have HKF : Hid (KeepsFrom B0 W' W2) := hKF
              have HF : Hid (Fr No w W2 [(gk1, 26, Bv.cells ⟨up, ⟨ea, en, ec⟩, ⟨la, ln, lc⟩⟩), (gk3, 3, #[.int .i64 stop]), (gk5, 4, #[.bool false]), (gk11, 26, Bv.cells ⟨up, ⟨ma0, mn0, mc0⟩, ⟨la0, ln0, lc0⟩⟩), (gk15, 56, #[.func (.func 30) #[] #[.pointer (some ⟨lb, 0, none⟩)]]), (gk19, 23, #[.slice ma ns.length mc]), (gk23, 3, #[.int .i64 0]), (gk26, 3, #[.int .i64 ((p : Nat) : Int)]), (gk32, 3, #[.int .i64 ((ys2.length : Nat) : Int)])]) := hI2.fr
              clear hI2 hKK hKF hrc hWs hBw2 hDs2
              generalize ys2.length = jp3 at HSQ HF
              gi_upto_region 27 with fail
              refine WI.start ?_
              refine iW (.int .i64 ((p : Nat) : Int)) (exec_load 3 _ rfl ⟨gk26, 0, none⟩ (by kernel_rfl) (.int .i64 ((p : Nat) : Int)) (load_one ((HF.out.box 7 _ _ _ rfl).cell 0 |>.trans (by kernel_rfl)) Try.und3 rfl)) ?_
              try simp only [pA, pB, p1, p2, p3]
              refine iW (.int .i64 (((p + 1) : Nat) : Int)) (exec_bin .add 3 _ _ _ rfl (.int .i64 ((p : Nat) : Int)) (.int .i64 1) (.int .i64 (((p + 1) : Nat) : Int)) (by kernel_rfl) (by kernel_rfl) (by kernel_rfl) (b_addw _ _ _ (by rw [IntKind.wrap_i64]; omega) _)) ?_
              try simp only [pA, pB, p1, p2, p3]
              refine wi_store 3 _ _ rfl ⟨gk26, 0, none⟩ (.int .i64 (((p + 1) : Nat) : Int)) (by kernel_rfl) (by kernel_rfl) (W2.setRow gk26 (#[.int .i64 (((p + 1) : Nat) : Int)])) (run_store_to (cur := [.int .i64 ((p : Nat) : Int)]) (vs := [.int .i64 (((p + 1) : Nat) : Int)]) (new := [.int .i64 (((p + 1) : Nat) : Int)]) (HF.out.box 7 _ _ _ rfl) (by kernel_rfl) Try.size3 (Nat.le_of_ble_eq_true (by kernel_rfl)) (by simp [Value.oneCell', Sl.v]) (by kernel_rfl)) (by kernel_rfl) ?_
              try simp only [pA, pB, p1, p2, p3]
              have hset := HSQ.out.set 7 rfl (.inl rfl) (#[.int .i64 (((p + 1) : Nat) : Int)])
              have HKF : Hid (KeepsFrom B0 W' (W2.setRow gk26 (#[.int .i64 (((p + 1) : Nat) : Int)]))) := HKF.out.trans ((keepsRow (HF.out.box 7 _ _ _ rfl) _).from _)
              have HSQ : Hid (Sq w [(gk1, 26, Bv.cells ⟨up, ⟨ea, en, ec⟩, ⟨la, ln, lc⟩⟩), (gk3, 3, #[.int .i64 stop]), (gk5, 4, #[.bool false]), (gk11, 26, Bv.cells ⟨up, ⟨ma0, mn0, mc0⟩, ⟨la0, ln0, lc0⟩⟩), (gk15, 56, #[.func (.func 30) #[] #[.pointer (some ⟨lb, 0, none⟩)]]), (gk19, 23, #[.slice ma ns.length mc]), (gk23, 3, #[.int .i64 0]), (gk26, 3, #[.int .i64 (((p + 1) : Nat) : Int)]), (gk32, 3, #[.int .i64 ((jp3 : Nat) : Int)])] lb sa sc ma mc ns [] (W2.setRow gk26 (#[.int .i64 (((p + 1) : Nat) : Int)]))) := hset.1
              have HKN : Hid (Kept (NB lb sa) W' (W2.setRow gk26 (#[.int .i64 (((p + 1) : Nat) : Int)]))) := HKN.out.then hset.2
              clear hset
              have HF : Hid (Fr No w (W2.setRow gk26 (#[.int .i64 (((p + 1) : Nat) : Int)])) [(gk1, 26, Bv.cells ⟨up, ⟨ea, en, ec⟩, ⟨la, ln, lc⟩⟩), (gk3, 3, #[.int .i64 stop]), (gk5, 4, #[.bool false]), (gk11, 26, Bv.cells ⟨up, ⟨ma0, mn0, mc0⟩, ⟨la0, ln0, lc0⟩⟩), (gk15, 56, #[.func (.func 30) #[] #[.pointer (some ⟨lb, 0, none⟩)]]), (gk19, 23, #[.slice ma ns.length mc]), (gk23, 3, #[.int .i64 0]), (gk26, 3, #[.int .i64 (((p + 1) : Nat) : Int)]), (gk32, 3, #[.int .i64 ((jp3 : Nat) : Int)])]) := HSQ.out.fr
              generalize W2.setRow gk26 (#[.int .i64 (((p + 1) : Nat) : Int)]) = wk36 at HF HSQ HKN HKF ⊢
              refine WI.nil ?_
              try simp only [pA, pB, p1, p2, p3]
              gi_upto_region 28 with fail
              refine WI.start ?_
              refine iW (.int .i64 0) (exec_load 3 _ rfl ⟨gk23, 0, none⟩ (by kernel_rfl) (.int .i64 0) (load_one ((HF.out.box 6 _ _ _ rfl).cell 0 |>.trans (by kernel_rfl)) Try.und3 rfl)) ?_
              try simp only [pA, pB, p1, p2, p3]
              refine iW (.bool true) (exec_bin .eql 3 _ _ _ rfl (.int .i64 0) (.int .i64 0) (.bool true) (by kernel_rfl) (by kernel_rfl) (by kernel_rfl) (by kernel_rfl)) ?_
              try simp only [pA, pB, p1, p2, p3]
              refine iK (.bool true) ?_
              try simp only [pA, pB, p1, p2, p3]
              refine iW (.int .i64 (((p + 1) : Nat) : Int)) (exec_load 3 _ rfl ⟨gk26, 0, none⟩ (by kernel_rfl) (.int .i64 (((p + 1) : Nat) : Int)) (load_one ((HF.out.box 7 _ _ _ rfl).cell 0 |>.trans (by kernel_rfl)) Try.und3 rfl)) ?_
              try simp only [pA, pB, p1, p2, p3]
              refine iW (.int .i64 stop) (exec_load 3 _ rfl ⟨gk3, 0, none⟩ (by kernel_rfl) (.int .i64 stop) (load_one ((HF.out.box 1 _ _ _ rfl).cell 0 |>.trans (by kernel_rfl)) Try.und3 rfl)) ?_
              try simp only [pA, pB, p1, p2, p3]
              cases q4 : ((((p + 1) : Nat) : Int) == stop)
              ·skip
               refine iW (.bool false) (exec_bin .eql 3 _ _ _ rfl (.int .i64 (((p + 1) : Nat) : Int)) (.int .i64 stop) (.bool false) (by kernel_rfl) (by kernel_rfl) (by kernel_rfl) (by rw [b_eql, q4]; try rfl)) ?_
               try simp only [pA, pB, p1, p2, p3]
               refine iK (.bool false) ?_
               try simp only [pA, pB, p1, p2, p3]
               refine WI.nil ?_
               try simp only [pA, pB, p1, p2, p3]
               gi_wp2
               exact ⟨by rw [HBB.out]; exact HKF.out, HKN.out, (show Sq w [(gk1, 26, Bv.cells ⟨up, ⟨ea, en, ec⟩, ⟨la, ln, lc⟩⟩), (gk3, 3, #[.int .i64 stop]), (gk5, 4, #[.bool false]), (gk11, 26, Bv.cells ⟨up, ⟨ma0, mn0, mc0⟩, ⟨la0, ln0, lc0⟩⟩), (gk15, 56, #[.func (.func 30) #[] #[.pointer (some ⟨lb, 0, none⟩)]]), (gk19, 23, #[.slice ma ns.length mc]), (gk23, 3, #[.int .i64 0]), (gk26, 3, #[.int .i64 (((pre ++ [(⟨x, hx⟩ : { x : En // x ∈ ns })]).length : Nat) : Int)])] lb sa sc ma mc ns [] wk36 from by rw [HLn.out]; exact Sq.front (l := [(gk1, 26, Bv.cells ⟨up, ⟨ea, en, ec⟩, ⟨la, ln, lc⟩⟩), (gk3, 3, #[.int .i64 stop]), (gk5, 4, #[.bool false]), (gk11, 26, Bv.cells ⟨up, ⟨ma0, mn0, mc0⟩, ⟨la0, ln0, lc0⟩⟩), (gk15, 56, #[.func (.func 30) #[] #[.pointer (some ⟨lb, 0, none⟩)]]), (gk19, 23, #[.slice ma ns.length mc]), (gk23, 3, #[.int .i64 0]), (gk26, 3, #[.int .i64 (((p + 1) : Nat) : Int)])]) (m := [(gk32, 3, #[.int .i64 ((jp3 : Nat) : Int)])]) HSQ.out)⟩
              ·skip
               refine iW (.bool true) (exec_bin .eql 3 _ _ _ rfl (.int .i64 (((p + 1) : Nat) : Int)) (.int .i64 stop) (.bool true) (by kernel_rfl) (by kernel_rfl) (by kernel_rfl) (by rw [b_eql, q4]; try rfl)) ?_
               try simp only [pA, pB, p1, p2, p3]
               refine iK (.bool true) ?_
               try simp only [pA, pB, p1, p2, p3]
               refine WI.nil ?_
               try simp only [pA, pB, p1, p2, p3]
               gi_wp2
               exact ⟨by rw [HBB.out]; exact HKF.out, .inr ⟨rfl, trivial, (show Sq w [(gk1, 26, Bv.cells ⟨up, ⟨ea, en, ec⟩, ⟨la, ln, lc⟩⟩), (gk3, 3, #[.int .i64 stop]), (gk5, 4, #[.bool false]), (gk11, 26, Bv.cells ⟨up, ⟨ma0, mn0, mc0⟩, ⟨la0, ln0, lc0⟩⟩), (gk15, 56, #[.func (.func 30) #[] #[.pointer (some ⟨lb, 0, none⟩)]]), (gk19, 23, #[.slice ma ns.length mc]), (gk23, 3, #[.int .i64 0]), (gk26, 3, #[.int .i64 (((pre ++ [(⟨x, hx⟩ : { x : En // x ∈ ns })]).length : Nat) : Int)])] lb sa sc ma mc ns [] wk36 from by rw [HLn.out]; exact Sq.front (l := [(gk1, 26, Bv.cells ⟨up, ⟨ea, en, ec⟩, ⟨la, ln, lc⟩⟩), (gk3, 3, #[.int .i64 stop]), (gk5, 4, #[.bool false]), (gk11, 26, Bv.cells ⟨up, ⟨ma0, mn0, mc0⟩, ⟨la0, ln0, lc0⟩⟩), (gk15, 56, #[.func (.func 30) #[] #[.pointer (some ⟨lb, 0, none⟩)]]), (gk19, 23, #[.slice ma ns.length mc]), (gk23, 3, #[.int .i64 0]), (gk26, 3, #[.int .i64 (((p + 1) : Nat) : Int)])]) (m := [(gk32, 3, #[.int .i64 ((jp3 : Nat) : Int)])]) HSQ.out)⟩⟩
            case body2 =>
              rintro l2 pre2 ⟨y2, hy2⟩ vb2 W2 hl2 hlo2 ⟨hI2, hKK, hKFo⟩ hbv2 hlen2
              have HKNo : Hid (Kept (NB lb sa) W' W2) := hKK
              have HKFo : Hid (KeepsFrom B0 W' W2) := hKFo
              have HSQ : Hid (Sq w [(gk1, 26, Bv.cells ⟨up, ⟨ea, en, ec⟩, ⟨la, ln, lc⟩⟩), (gk3, 3, #[.int .i64 stop]), (gk5, 4, #[.bool false]), (gk11, 26, Bv.cells ⟨up, ⟨ma0, mn0, mc0⟩, ⟨la0, ln0, lc0⟩⟩), (gk15, 56, #[.func (.func 30) #[] #[.pointer (some ⟨lb, 0, none⟩)]]), (gk19, 23, #[.slice ma ns.length mc]), (gk23, 3, #[.int .i64 0]), (gk26, 3, #[.int .i64 ((p : Nat) : Int)]), (gk32, 3, #[.int .i64 ((pre2.length : Nat) : Int)])] lb sa sc ma mc ns [] W2) := hI2
              have HV2 : Hid (Box W2 vb2 34 (En.cells y2)) := hbv2
              have HKN : Hid (Kept (NB lb sa) W2 W2) := Kept.refl _ _
              have HKF : Hid (KeepsFrom B0 W2 W2) := KeepsFrom.refl _ _
              have HF : Hid (Fr No w W2 [(gk1, 26, Bv.cells ⟨up, ⟨ea, en, ec⟩, ⟨la, ln, lc⟩⟩), (gk3, 3, #[.int .i64 stop]), (gk5, 4, #[.bool false]), (gk11, 26, Bv.cells ⟨up, ⟨ma0, mn0, mc0⟩, ⟨la0, ln0, lc0⟩⟩), (gk15, 56, #[.func (.func 30) #[] #[.pointer (some ⟨lb, 0, none⟩)]]), (gk19, 23, #[.slice ma ns.length mc]), (gk23, 3, #[.int .i64 0]), (gk26, 3, #[.int .i64 ((p : Nat) : Int)]), (gk32, 3, #[.int .i64 ((pre2.length : Nat) : Int)])]) := hI2.fr
              have hlen2 : pre2.length < ns.length := hlen2
              have HPy : Hid (¬ y2 = eAt ns pre2.length → ¬ vals (pre2 ++ [(⟨y2, hy2⟩ : { x : En // x ∈ ns })]) <+: ns) := fun h9 hp => h9 (by rw [vals_snoc] at hp; have h8 := pre_is hp; rw [vals_len, eAt_some hlen2] at h8; exact (Option.some.inj h8).symm)
              have HLn2 : Hid ((pre2 ++ [(⟨y2, hy2⟩ : { x : En // x ∈ ns })]).length = pre2.length + 1) := by show _ = _; simp
              obtain ⟨jp2, hp2⟩ : ∃ jp2, jp2 = pre2.length := ⟨_, rfl⟩
              rw [← hp2] at HSQ HF HPy HLn2 hlen2
              clear hI2 hbv2 hp2 hKK hKFo hlo2 hrc
              obtain ⟨pb2, po2, hca, hcc⟩ := (show Es W2 ma ns from HSQ.out.wt.rd.row).at hlen2
              have hsl2 : Hid (Value.slice ma ns.length mc = .slice (some ⟨pb2, po2, none⟩) ns.length mc) := congrArg (fun y => Value.slice y ns.length mc) hca
              obtain ⟨z2, hz2⟩ : ∃ z2, z2 = eAt ns jp2 := ⟨_, rfl⟩
              rw [← hz2] at hcc HPy
              have HCC2 : Hid (∀ (j : Nat) v, (En.cs z2)[j]? = some v → W2.cell? ⟨pb2, po2 + jp2 * 4 + j, none⟩ = some v) := show ∀ (j : Nat) v, (En.cs z2)[j]? = some v → W2.cell? ⟨pb2, po2 + jp2 * 4 + j, none⟩ = some v from hcc
              clear hca hcc hz2
              simp only
              gi_upto_region 23 with fail
              refine region_round (F := Fence.wide) rfl hmix (by kernel_rfl) (by kernel_rfl) ?_
              refine qT (.int .i64 ((jp2 : Nat) : Int)) (fun w' hw => exec_load 3 _ rfl ⟨gk32, 0, none⟩ (by kernel_rfl) (.int .i64 ((jp2 : Nat) : Int)) (load_one (((HF.out.box 8 _ _ _ rfl).kept (qk hw) (fun e => e)).cell 0 |>.trans (by kernel_rfl)) Try.und3 rfl)) ?_
              try simp only [pA, pB, p1, p2, p3]
              refine qT (.slice ma ns.length mc) (fun w' hw => exec_load 23 _ rfl ⟨gk19, 0, none⟩ (by kernel_rfl) (.slice ma ns.length mc) (load_one (((HF.out.box 5 _ _ _ rfl).kept (qk hw) (fun e => e)).cell 0 |>.trans (by kernel_rfl)) Try.und22 rfl)) ?_
              try simp only [pA, pB, p1, p2, p3]
              refine qK (.int .i64 ((ns.length : Nat) : Int)) ?_
              try simp only [pA, pB, p1, p2, p3]
              refine qT (.bool false) (fun w' hw => exec_bin .geq 3 _ _ _ rfl (.int .i64 ((jp2 : Nat) : Int)) (.int .i64 ((ns.length : Nat) : Int)) (.bool false) (by kernel_rfl) (by kernel_rfl) (by kernel_rfl) (by rw [b_geq, decide_eq_false (by omega)])) ?_
              try simp only [pA, pB, p1, p2, p3]
              refine qK (.bool false) ?_
              try simp only [pA, pB, p1, p2, p3]
              refine qT (.agg (En.cells y2)) (fun w' hw => exec_load 34 _ rfl ⟨vb2, 0, none⟩ (by kernel_rfl) (.agg (En.cells y2)) (ld54 (HV2.out.kept (qk hw) (fun e => e)))) ?_
              try simp only [pA, pB, p1, p2, p3]
              refine qT (.slice ma ns.length mc) (fun w' hw => exec_load 23 _ rfl ⟨gk19, 0, none⟩ (by kernel_rfl) (.slice ma ns.length mc) (load_one (((HF.out.box 5 _ _ _ rfl).kept (qk hw) (fun e => e)).cell 0 |>.trans (by kernel_rfl)) Try.und22 rfl)) ?_
              try simp only [pA, pB, p1, p2, p3]
              refine qT (.int .i64 ((jp2 : Nat) : Int)) (fun w' hw => exec_load 3 _ rfl ⟨gk32, 0, none⟩ (by kernel_rfl) (.int .i64 ((jp2 : Nat) : Int)) (load_one (((HF.out.box 8 _ _ _ rfl).kept (qk hw) (fun e => e)).cell 0 |>.trans (by kernel_rfl)) Try.und3 rfl)) ?_
              try simp only [pA, pB, p1, p2, p3]
              refine qT (.pointer (some ⟨pb2, po2 + jp2 * 4, none⟩)) (fun w' hw => exec_ixA 23 4 Try.und22e Try.size22e _ _ rfl pb2 po2 ns.length mc jp2 (Eq.trans (b := .slice ma ns.length mc) (by kernel_rfl) hsl2.out) (by kernel_rfl) hlen2) ?_
              try simp only [pA, pB, p1, p2, p3]
              refine qT (.agg (En.cells z2)) (fun w' hw => exec_load 34 _ rfl ⟨pb2, po2 + jp2 * 4, none⟩ (by kernel_rfl) (.agg (En.cells z2)) (load_E (fun j v hv => (qk hw).cell (HCC2.out j v hv) (fun e => e)))) ?_
              try simp only [pA, pB, p1, p2, p3]
              cases q5 : (eqE y2 z2)
              ·skip
               refine qT (.bool true) (fun w' hw => exec_bin .neq 34 _ _ _ rfl (.agg (En.cells y2)) (.agg (En.cells z2)) (.bool true) (by kernel_rfl) (by kernel_rfl) (by kernel_rfl) (by rw [eqE_neq, q5]; try rfl)) ?_
               try simp only [pA, pB, p1, p2, p3]
               refine qK (.bool true) ?_
               try simp only [pA, pB, p1, p2, p3]
               refine wpQuietIn_nil ?_
               intro w9 hw9
               obtain ⟨nq, rfl⟩ := hw9
               have HSQ : Hid (Sq w [(gk1, 26, Bv.cells ⟨up, ⟨ea, en, ec⟩, ⟨la, ln, lc⟩⟩), (gk3, 3, #[.int .i64 stop]), (gk5, 4, #[.bool false]), (gk11, 26, Bv.cells ⟨up, ⟨ma0, mn0, mc0⟩, ⟨la0, ln0, lc0⟩⟩), (gk15, 56, #[.func (.func 30) #[] #[.pointer (some ⟨lb, 0, none⟩)]]), (gk19, 23, #[.slice ma ns.length mc]), (gk23, 3, #[.int .i64 0]), (gk26, 3, #[.int .i64 ((p : Nat) : Int)]), (gk32, 3, #[.int .i64 ((jp2 : Nat) : Int)])] lb sa sc ma mc ns [] (W2.drewN nq)) := HSQ.out.no (Kept.no_drewN _ nq)
               have HKN : Hid (Kept (NB lb sa) W2 (W2.drewN nq)) := HKN.out.then (Kept.no_drewN _ nq).of_no
               have HKF : Hid (KeepsFrom B0 W2 (W2.drewN nq)) := HKF.out.trans ((keepsN _ nq).from _)
               have HF : Hid (Fr No w (W2.drewN nq) [(gk1, 26, Bv.cells ⟨up, ⟨ea, en, ec⟩, ⟨la, ln, lc⟩⟩), (gk3, 3, #[.int .i64 stop]), (gk5, 4, #[.bool false]), (gk11, 26, Bv.cells ⟨up, ⟨ma0, mn0, mc0⟩, ⟨la0, ln0, lc0⟩⟩), (gk15, 56, #[.func (.func 30) #[] #[.pointer (some ⟨lb, 0, none⟩)]]), (gk19, 23, #[.slice ma ns.length mc]), (gk23, 3, #[.int .i64 0]), (gk26, 3, #[.int .i64 ((p : Nat) : Int)]), (gk32, 3, #[.int .i64 ((jp2 : Nat) : Int)])]) := HSQ.out.fr
               generalize W2.drewN nq = wk37 at HF HSQ HKN HKF ⊢
               have hne : ¬ y2 = z2 := fun e => by rw [e, eqE_iff.2 rfl] at q5; cases q5
               gi_upto_region 24 with fail
               refine WI.start ?_
               refine wi_store 4 _ _ rfl ⟨gk5, 0, none⟩ (.bool false) (by kernel_rfl) (by kernel_rfl) (wk37.setRow gk5 (#[.bool false])) (run_store_to (cur := [.bool false]) (vs := [.bool false]) (new := [.bool false]) (HF.out.box 2 _ _ _ rfl) (by kernel_rfl) Try.size4 (Nat.le_of_ble_eq_true (by kernel_rfl)) (by simp [Value.oneCell', Sl.v]) (by kernel_rfl)) (by kernel_rfl) ?_
               try simp only [pA, pB, p1, p2, p3]
               have hset := HSQ.out.set 2 rfl (.inr rfl) (#[.bool false])
               have HKF : Hid (KeepsFrom B0 W2 (wk37.setRow gk5 (#[.bool false]))) := HKF.out.trans ((keepsRow (HF.out.box 2 _ _ _ rfl) _).from _)
               have HSQ : Hid (Sq w [(gk1, 26, Bv.cells ⟨up, ⟨ea, en, ec⟩, ⟨la, ln, lc⟩⟩), (gk3, 3, #[.int .i64 stop]), (gk5, 4, #[.bool false]), (gk11, 26, Bv.cells ⟨up, ⟨ma0, mn0, mc0⟩, ⟨la0, ln0, lc0⟩⟩), (gk15, 56, #[.func (.func 30) #[] #[.pointer (some ⟨lb, 0, none⟩)]]), (gk19, 23, #[.slice ma ns.length mc]), (gk23, 3, #[.int .i64 0]), (gk26, 3, #[.int .i64 ((p : Nat) : Int)]), (gk32, 3, #[.int .i64 ((jp2 : Nat) : Int)])] lb sa sc ma mc ns [] (wk37.setRow gk5 (#[.bool false]))) := hset.1
               have HKN : Hid (Kept (NB lb sa) W2 (wk37.setRow gk5 (#[.bool false]))) := HKN.out.then hset.2
               clear hset
               have HF : Hid (Fr No w (wk37.setRow gk5 (#[.bool false])) [(gk1, 26, Bv.cells ⟨up, ⟨ea, en, ec⟩, ⟨la, ln, lc⟩⟩), (gk3, 3, #[.int .i64 stop]), (gk5, 4, #[.bool false]), (gk11, 26, Bv.cells ⟨up, ⟨ma0, mn0, mc0⟩, ⟨la0, ln0, lc0⟩⟩), (gk15, 56, #[.func (.func 30) #[] #[.pointer (some ⟨lb, 0, none⟩)]]), (gk19, 23, #[.slice ma ns.length mc]), (gk23, 3, #[.int .i64 0]), (gk26, 3, #[.int .i64 ((p : Nat) : Int)]), (gk32, 3, #[.int .i64 ((jp2 : Nat) : Int)])]) := HSQ.out.fr
               generalize wk37.setRow gk5 (#[.bool false]) = wk38 at HF HSQ HKN HKF ⊢
               refine WI.nil ?_
               try simp only [pA, pB, p1, p2, p3]
               gi_wp2
               exact ⟨(kf_mono HKF.out hBi), .inl ⟨rfl, HPy.out hne⟩⟩
              ·skip
               refine qT (.bool false) (fun w' hw => exec_bin .neq 34 _ _ _ rfl (.agg (En.cells y2)) (.agg (En.cells z2)) (.bool false) (by kernel_rfl) (by kernel_rfl) (by kernel_rfl) (by rw [eqE_neq, q5]; try rfl)) ?_
               try simp only [pA, pB, p1, p2, p3]
               refine qK (.bool false) ?_
               try simp only [pA, pB, p1, p2, p3]
               refine wpQuietIn_nil ?_
               intro w9 hw9
               obtain ⟨nq, rfl⟩ := hw9
               have HSQ : Hid (Sq w [(gk1, 26, Bv.cells ⟨up, ⟨ea, en, ec⟩, ⟨la, ln, lc⟩⟩), (gk3, 3, #[.int .i64 stop]), (gk5, 4, #[.bool false]), (gk11, 26, Bv.cells ⟨up, ⟨ma0, mn0, mc0⟩, ⟨la0, ln0, lc0⟩⟩), (gk15, 56, #[.func (.func 30) #[] #[.pointer (some ⟨lb, 0, none⟩)]]), (gk19, 23, #[.slice ma ns.length mc]), (gk23, 3, #[.int .i64 0]), (gk26, 3, #[.int .i64 ((p : Nat) : Int)]), (gk32, 3, #[.int .i64 ((jp2 : Nat) : Int)])] lb sa sc ma mc ns [] (W2.drewN nq)) := HSQ.out.no (Kept.no_drewN _ nq)
               have HKN : Hid (Kept (NB lb sa) W2 (W2.drewN nq)) := HKN.out.then (Kept.no_drewN _ nq).of_no
               have HKF : Hid (KeepsFrom B0 W2 (W2.drewN nq)) := HKF.out.trans ((keepsN _ nq).from _)
               have HF : Hid (Fr No w (W2.drewN nq) [(gk1, 26, Bv.cells ⟨up, ⟨ea, en, ec⟩, ⟨la, ln, lc⟩⟩), (gk3, 3, #[.int .i64 stop]), (gk5, 4, #[.bool false]), (gk11, 26, Bv.cells ⟨up, ⟨ma0, mn0, mc0⟩, ⟨la0, ln0, lc0⟩⟩), (gk15, 56, #[.func (.func 30) #[] #[.pointer (some ⟨lb, 0, none⟩)]]), (gk19, 23, #[.slice ma ns.length mc]), (gk23, 3, #[.int .i64 0]), (gk26, 3, #[.int .i64 ((p : Nat) : Int)]), (gk32, 3, #[.int .i64 ((jp2 : Nat) : Int)])]) := HSQ.out.fr
               generalize W2.drewN nq = wk39 at HF HSQ HKN HKF ⊢
               gi_upto_region 25 with fail
               refine WI.start ?_
               refine iW (.int .i64 ((jp2 : Nat) : Int)) (exec_load 3 _ rfl ⟨gk32, 0, none⟩ (by kernel_rfl) (.int .i64 ((jp2 : Nat) : Int)) (load_one ((HF.out.box 8 _ _ _ rfl).cell 0 |>.trans (by kernel_rfl)) Try.und3 rfl)) ?_
               try simp only [pA, pB, p1, p2, p3]
               refine iW (.int .i64 (((jp2 + 1) : Nat) : Int)) (exec_bin .add 3 _ _ _ rfl (.int .i64 ((jp2 : Nat) : Int)) (.int .i64 1) (.int .i64 (((jp2 + 1) : Nat) : Int)) (by kernel_rfl) (by kernel_rfl) (by kernel_rfl) (b_addw _ _ _ (by rw [IntKind.wrap_i64]; omega) _)) ?_
               try simp only [pA, pB, p1, p2, p3]
               refine wi_store 3 _ _ rfl ⟨gk32, 0, none⟩ (.int .i64 (((jp2 + 1) : Nat) : Int)) (by kernel_rfl) (by kernel_rfl) (wk39.setRow gk32 (#[.int .i64 (((jp2 + 1) : Nat) : Int)])) (run_store_to (cur := [.int .i64 ((jp2 : Nat) : Int)]) (vs := [.int .i64 (((jp2 + 1) : Nat) : Int)]) (new := [.int .i64 (((jp2 + 1) : Nat) : Int)]) (HF.out.box 8 _ _ _ rfl) (by kernel_rfl) Try.size3 (Nat.le_of_ble_eq_true (by kernel_rfl)) (by simp [Value.oneCell', Sl.v]) (by kernel_rfl)) (by kernel_rfl) ?_
               try simp only [pA, pB, p1, p2, p3]
               have hset := HSQ.out.set 8 rfl (.inl rfl) (#[.int .i64 (((jp2 + 1) : Nat) : Int)])
               have HKF : Hid (KeepsFrom B0 W2 (wk39.setRow gk32 (#[.int .i64 (((jp2 + 1) : Nat) : Int)]))) := HKF.out.trans ((keepsRow (HF.out.box 8 _ _ _ rfl) _).from _)
               have HSQ : Hid (Sq w [(gk1, 26, Bv.cells ⟨up, ⟨ea, en, ec⟩, ⟨la, ln, lc⟩⟩), (gk3, 3, #[.int .i64 stop]), (gk5, 4, #[.bool false]), (gk11, 26, Bv.cells ⟨up, ⟨ma0, mn0, mc0⟩, ⟨la0, ln0, lc0⟩⟩), (gk15, 56, #[.func (.func 30) #[] #[.pointer (some ⟨lb, 0, none⟩)]]), (gk19, 23, #[.slice ma ns.length mc]), (gk23, 3, #[.int .i64 0]), (gk26, 3, #[.int .i64 ((p : Nat) : Int)]), (gk32, 3, #[.int .i64 (((jp2 + 1) : Nat) : Int)])] lb sa sc ma mc ns [] (wk39.setRow gk32 (#[.int .i64 (((jp2 + 1) : Nat) : Int)]))) := hset.1
               have HKN : Hid (Kept (NB lb sa) W2 (wk39.setRow gk32 (#[.int .i64 (((jp2 + 1) : Nat) : Int)]))) := HKN.out.then hset.2
               clear hset
               have HF : Hid (Fr No w (wk39.setRow gk32 (#[.int .i64 (((jp2 + 1) : Nat) : Int)])) [(gk1, 26, Bv.cells ⟨up, ⟨ea, en, ec⟩, ⟨la, ln, lc⟩⟩), (gk3, 3, #[.int .i64 stop]), (gk5, 4, #[.bool false]), (gk11, 26, Bv.cells ⟨up, ⟨ma0, mn0, mc0⟩, ⟨la0, ln0, lc0⟩⟩), (gk15, 56, #[.func (.func 30) #[] #[.pointer (some ⟨lb, 0, none⟩)]]), (gk19, 23, #[.slice ma ns.length mc]), (gk23, 3, #[.int .i64 0]), (gk26, 3, #[.int .i64 ((p : Nat) : Int)]), (gk32, 3, #[.int .i64 (((jp2 + 1) : Nat) : Int)])]) := HSQ.out.fr
               generalize wk39.setRow gk32 (#[.int .i64 (((jp2 + 1) : Nat) : Int)]) = wk40 at HF HSQ HKN HKF ⊢
               refine WI.nil ?_
               try simp only [pA, pB, p1, p2, p3]
               gi_upto_region 26 with fail
               refine WI.start ?_
               refine iW (.int .i64 (((jp2 + 1) : Nat) : Int)) (exec_load 3 _ rfl ⟨gk32, 0, none⟩ (by kernel_rfl) (.int .i64 (((jp2 + 1) : Nat) : Int)) (load_one ((HF.out.box 8 _ _ _ rfl).cell 0 |>.trans (by kernel_rfl)) Try.und3 rfl)) ?_
               try simp only [pA, pB, p1, p2, p3]
               cases q6 : (decide (2 < (((jp2 + 1) : Nat) : Int)))
               ·skip
                refine iW (.bool false) (exec_bin .gtr 3 _ _ _ rfl (.int .i64 (((jp2 + 1) : Nat) : Int)) (.int .i64 2) (.bool false) (by kernel_rfl) (by kernel_rfl) (by kernel_rfl) (by rw [b_gtr, q6]; try rfl)) ?_
                try simp only [pA, pB, p1, p2, p3]
                refine WI.nil ?_
                try simp only [pA, pB, p1, p2, p3]
                gi_wp2
                exact ⟨(kf_mono HKF.out hBi), HKN.out, (show Sq w [(gk1, 26, Bv.cells ⟨up, ⟨ea, en, ec⟩, ⟨la, ln, lc⟩⟩), (gk3, 3, #[.int .i64 stop]), (gk5, 4, #[.bool false]), (gk11, 26, Bv.cells ⟨up, ⟨ma0, mn0, mc0⟩, ⟨la0, ln0, lc0⟩⟩), (gk15, 56, #[.func (.func 30) #[] #[.pointer (some ⟨lb, 0, none⟩)]]), (gk19, 23, #[.slice ma ns.length mc]), (gk23, 3, #[.int .i64 0]), (gk26, 3, #[.int .i64 ((p : Nat) : Int)]), (gk32, 3, #[.int .i64 (((pre2 ++ [(⟨y2, hy2⟩ : { x : En // x ∈ ns })]).length : Nat) : Int)])] lb sa sc ma mc ns [] wk40 from by rw [HLn2.out]; exact HSQ.out), HKNo.out.then HKN.out, HKFo.out.trans HKF.out⟩
               ·skip
                refine iW (.bool true) (exec_bin .gtr 3 _ _ _ rfl (.int .i64 (((jp2 + 1) : Nat) : Int)) (.int .i64 2) (.bool true) (by kernel_rfl) (by kernel_rfl) (by kernel_rfl) (by rw [b_gtr, q6]; try rfl)) ?_
                try simp only [pA, pB, p1, p2, p3]
                refine WI.nil ?_
                try simp only [pA, pB, p1, p2, p3]
                gi_wp2
                exact ⟨(kf_mono HKF.out hBi), .inr ⟨rfl, (show Sq w [(gk1, 26, Bv.cells ⟨up, ⟨ea, en, ec⟩, ⟨la, ln, lc⟩⟩), (gk3, 3, #[.int .i64 stop]), (gk5, 4, #[.bool false]), (gk11, 26, Bv.cells ⟨up, ⟨ma0, mn0, mc0⟩, ⟨la0, ln0, lc0⟩⟩), (gk15, 56, #[.func (.func 30) #[] #[.pointer (some ⟨lb, 0, none⟩)]]), (gk19, 23, #[.slice ma ns.length mc]), (gk23, 3, #[.int .i64 0]), (gk26, 3, #[.int .i64 ((p : Nat) : Int)]), (gk32, 3, #[.int .i64 (((pre2 ++ [(⟨y2, hy2⟩ : { x : En // x ∈ ns })]).length : Nat) : Int)])] lb sa sc ma mc ns [] wk40 from by rw [HLn2.out]; exact HSQ.out), HKNo.out.then HKN.out, HKFo.out.trans HKF.out⟩⟩
       · clear HSQ HF hB0
         rintro D0 W0 ⟨hD0, hdf0, nv0, hnv0, hsq0⟩
         have hDw0 : w.heap.size ≤ D0 := Nat.le_trans hBw0 hD0
         have hDn0 : D0 ∉ ([] : List Nat) := fun h9 => by have h8 := hDs0 _ h9; omega
         have HSQ : Hid (Sq w [(gk1, 26, Bv.cells ⟨up, ⟨ea, en, ec⟩, ⟨la, ln, lc⟩⟩), (gk3, 3, #[.int .i64 stop]), (gk5, 4, #[.bool false]), (gk11, 26, Bv.cells ⟨up, ⟨ma0, mn0, mc0⟩, ⟨la0, ln0, lc0⟩⟩), (gk15, 56, #[.func (.func 30) #[] #[.pointer (some ⟨lb, 0, none⟩)]]), (gk19, 23, #[.slice ma ns.length mc]), (gk23, 3, #[.int .i64 0]), (gk26, 3, #[.int .i64 ((nv0 : Nat) : Int)])] lb sa sc ma mc ns [D0] W0) := ⟨hsq0.fr, hsq0.sq, hsq0.wt, fun D hD => by rcases List.mem_cons.1 hD with e | e; rw [e]; exact hdf0; exact hsq0.df D e⟩
         have HF : Hid (Fr No w W0 [(gk1, 26, Bv.cells ⟨up, ⟨ea, en, ec⟩, ⟨la, ln, lc⟩⟩), (gk3, 3, #[.int .i64 stop]), (gk5, 4, #[.bool false]), (gk11, 26, Bv.cells ⟨up, ⟨ma0, mn0, mc0⟩, ⟨la0, ln0, lc0⟩⟩), (gk15, 56, #[.func (.func 30) #[] #[.pointer (some ⟨lb, 0, none⟩)]]), (gk19, 23, #[.slice ma ns.length mc]), (gk23, 3, #[.int .i64 0]), (gk26, 3, #[.int .i64 ((nv0 : Nat) : Int)])]) := HSQ.out.fr
         clear hsq0 hdf0
         have HSQ0 : Hid (Sq w [(gk1, 26, Bv.cells ⟨up, ⟨ea, en, ec⟩, ⟨la, ln, lc⟩⟩), (gk3, 3, #[.int .i64 stop]), (gk5, 4, #[.bool false]), (gk11, 26, Bv.cells ⟨up, ⟨ma0, mn0, mc0⟩, ⟨la0, ln0, lc0⟩⟩), (gk15, 56, #[.func (.func 30) #[] #[.pointer (some ⟨lb, 0, none⟩)]]), (gk19, 23, #[.slice ma ns.length mc]), (gk23, 3, #[.int .i64 0]), (gk26, 3, #[.int .i64 ((nv0 : Nat) : Int)])] lb sa sc ma mc ns [D0] W0) := HSQ
         clear HSQ
         have HK0 : Hid (Kept No W0 W0) := Kept.refl _ _
         obtain ⟨s0, hs0⟩ : ∃ n, W0.heap.size = n := ⟨_, rfl⟩
         have HS0 : Hid (W0.heap.size = s0) := hs0
         clear hs0
         go_upto_region 29 with fail
         refine WL.start ?_
         refine tW (.int .i64 0) (exec_load 3 _ rfl ⟨gk23, 0, none⟩ (by kernel_rfl) (.int .i64 0) (load_one ((HF.out.box 6 _ _ _ rfl).cell 0 |>.trans (by kernel_rfl)) Try.und3 rfl)) ?_
         try simp only [pA, pB, p1, p2, p3]
         refine tW (.bool false) (exec_bin .gtr 3 _ _ _ rfl (.int .i64 0) (.int .i64 0) (.bool false) (by kernel_rfl) (by kernel_rfl) (by kernel_rfl) (by kernel_rfl)) ?_
         try simp only [pA, pB, p1, p2, p3]
         refine tK (.bool false) ?_
         try simp only [pA, pB, p1, p2, p3]
         refine sK ?_
         try simp only [pA, pB, p1, p2, p3]
         refine sK ?_
         try simp only [pA, pB, p1, p2, p3]
         refine sK ?_
         try simp only [pA, pB, p1, p2, p3]
         refine sK ?_
         try simp only [pA, pB, p1, p2, p3]
         refine tK (.bool false) ?_
         try simp only [pA, pB, p1, p2, p3]
         refine WL.nil ?_
         try simp only [pA, pB, p1, p2, p3]
         go_upto_region 31 with fail
         refine WL.start ?_
         refine tW (.int .i64 0) (exec_load 3 _ rfl ⟨gk23, 0, none⟩ (by kernel_rfl) (.int .i64 0) (load_one ((HF.out.box 6 _ _ _ rfl).cell 0 |>.trans (by kernel_rfl)) Try.und3 rfl)) ?_
         try simp only [pA, pB, p1, p2, p3]
         refine WL.nil ?_
         try simp only [pA, pB, p1, p2, p3]
         go_upto_region 32 with fail
         refine WL.start ?_
         refine wp_runW (.pointer (some ⟨W0.heap.size, 0, none⟩)) (W0.alloc (.cells (#[.int .i64 0]) 3)) (exec_alloc1 3 rfl (.int .i64 0) rfl zero3) (by kernel_rfl) ?_
         try simp only [pA, pB, p1, p2, p3]
         have hx0_gk41 : s0 ≤ W0.heap.size := by rw [← HS0.out]; exact HK0.out.size
         have HK0 : Hid (Kept No W0 (W0.alloc (.cells (#[.int .i64 0]) 3))) := HK0.out.no ((Kept.refl No _).alloc _)
         have HF : Hid (Fr No w (W0.alloc (.cells (#[.int .i64 0]) 3)) [(gk1, 26, Bv.cells ⟨up, ⟨ea, en, ec⟩, ⟨la, ln, lc⟩⟩), (gk3, 3, #[.int .i64 stop]), (gk5, 4, #[.bool false]), (gk11, 26, Bv.cells ⟨up, ⟨ma0, mn0, mc0⟩, ⟨la0, ln0, lc0⟩⟩), (gk15, 56, #[.func (.func 30) #[] #[.pointer (some ⟨lb, 0, none⟩)]]), (gk19, 23, #[.slice ma ns.length mc]), (gk23, 3, #[.int .i64 0]), (gk26, 3, #[.int .i64 ((nv0 : Nat) : Int)]), (W0.heap.size, 3, #[.int .i64 0])]) := HF.out.alloc _ _
         generalize W0.alloc (.cells (#[.int .i64 0]) 3) = wk42 at HF HK0 ⊢
         generalize W0.heap.size = gk41 at HF hx0_gk41 ⊢
         refine wp_storeW 3 _ _ rfl ⟨gk41, 0, none⟩ (.int .i64 0) (by kernel_rfl) (by kernel_rfl) (wk42.setRow gk41 (#[.int .i64 0])) (run_store_to (cur := [.int .i64 0]) (vs := [.int .i64 0]) (new := [.int .i64 0]) (HF.out.box 8 _ _ _ rfl) (by kernel_rfl) Try.size3 (Nat.le_of_ble_eq_true (by kernel_rfl)) (by simp [Value.oneCell', Sl.v]) (by kernel_rfl)) (by kernel_rfl) ?_
         try simp only [pA, pB, p1, p2, p3]
         have HK0 : Hid (Kept No W0 (wk42.setRow gk41 (#[.int .i64 0]))) := HK0.out.newRow (by rw [HS0.out]; exact hx0_gk41) _
         have HF : Hid (Fr No w (wk42.setRow gk41 (#[.int .i64 0])) [(gk1, 26, Bv.cells ⟨up, ⟨ea, en, ec⟩, ⟨la, ln, lc⟩⟩), (gk3, 3, #[.int .i64 stop]), (gk5, 4, #[.bool false]), (gk11, 26, Bv.cells ⟨up, ⟨ma0, mn0, mc0⟩, ⟨la0, ln0, lc0⟩⟩), (gk15, 56, #[.func (.func 30) #[] #[.pointer (some ⟨lb, 0, none⟩)]]), (gk19, 23, #[.slice ma ns.length mc]), (gk23, 3, #[.int .i64 0]), (gk26, 3, #[.int .i64 ((nv0 : Nat) : Int)]), (gk41, 3, #[.int .i64 0])]) := HF.out.set 8 rfl _
         generalize wk42.setRow gk41 (#[.int .i64 0]) = wk43 at HF HK0 ⊢
         refine WL.nil ?_
         try simp only [pA, pB, p1, p2, p3]
         go_upto_region 14 with fail
         refine WL.start ?_
         refine tW (.int .i64 0) (exec_load 3 _ rfl ⟨gk41, 0, none⟩ (by kernel_rfl) (.int .i64 0) (load_one ((HF.out.box 8 _ _ _ rfl).cell 0 |>.trans (by kernel_rfl)) Try.und3 rfl)) ?_
         try simp only [pA, pB, p1, p2, p3]
         refine tW (.int .i64 1) (exec_bin .add 3 _ _ _ rfl (.int .i64 0) (.int .i64 1) (.int .i64 1) (by kernel_rfl) (by kernel_rfl) (by kernel_rfl) (by kernel_rfl)) ?_
         try simp only [pA, pB, p1, p2, p3]
         refine wp_storeW 3 _ _ rfl ⟨gk41, 0, none⟩ (.int .i64 1) (by kernel_rfl) (by kernel_rfl) (wk43.setRow gk41 (#[.int .i64 1])) (run_store_to (cur := [.int .i64 0]) (vs := [.int .i64 1]) (new := [.int .i64 1]) (HF.out.box 8 _ _ _ rfl) (by kernel_rfl) Try.size3 (Nat.le_of_ble_eq_true (by kernel_rfl)) (by simp [Value.oneCell', Sl.v]) (by kernel_rfl)) (by kernel_rfl) ?_
         try simp only [pA, pB, p1, p2, p3]
         have HK0 : Hid (Kept No W0 (wk43.setRow gk41 (#[.int .i64 1]))) := HK0.out.newRow (by rw [HS0.out]; exact hx0_gk41) _
         have HF : Hid (Fr No w (wk43.setRow gk41 (#[.int .i64 1])) [(gk1, 26, Bv.cells ⟨up, ⟨ea, en, ec⟩, ⟨la, ln, lc⟩⟩), (gk3, 3, #[.int .i64 stop]), (gk5, 4, #[.bool false]), (gk11, 26, Bv.cells ⟨up, ⟨ma0, mn0, mc0⟩, ⟨la0, ln0, lc0⟩⟩), (gk15, 56, #[.func (.func 30) #[] #[.pointer (some ⟨lb, 0, none⟩)]]), (gk19, 23, #[.slice ma ns.length mc]), (gk23, 3, #[.int .i64 0]), (gk26, 3, #[.int .i64 ((nv0 : Nat) : Int)]), (gk41, 3, #[.int .i64 1])]) := HF.out.set 8 rfl _
         generalize wk43.setRow gk41 (#[.int .i64 1]) = wk44 at HF HK0 ⊢
         refine WL.nil ?_
         try simp only [pA, pB, p1, p2, p3]
         have HSQ : Hid (Sq w [(gk1, 26, Bv.cells ⟨up, ⟨ea, en, ec⟩, ⟨la, ln, lc⟩⟩), (gk3, 3, #[.int .i64 stop]), (gk5, 4, #[.bool false]), (gk11, 26, Bv.cells ⟨up, ⟨ma0, mn0, mc0⟩, ⟨la0, ln0, lc0⟩⟩), (gk15, 56, #[.func (.func 30) #[] #[.pointer (some ⟨lb, 0, none⟩)]]), (gk19, 23, #[.slice ma ns.length mc]), (gk23, 3, #[.int .i64 0]), (gk26, 3, #[.int .i64 ((nv0 : Nat) : Int)]), (gk41, 3, #[.int .i64 1])] lb sa sc ma mc ns [D0] wk44) := ⟨HF.out, (HSQ0.out.no HK0.out).sq, (HSQ0.out.no HK0.out).wt, (HSQ0.out.no HK0.out).df⟩
         clear HSQ0 HK0 HS0 hx0_gk41
         go_wp2
         show Code.rounds Try.prog _ _ (2 + 1) _ _
         rw [rounds_succ]
         have HSQ0 : Hid (Sq w [(gk1, 26, Bv.cells ⟨up, ⟨ea, en, ec⟩, ⟨la, ln, lc⟩⟩), (gk3, 3, #[.int .i64 stop]), (gk5, 4, #[.bool false]), (gk11, 26, Bv.cells ⟨up, ⟨ma0, mn0, mc0⟩, ⟨la0, ln0, lc0⟩⟩), (gk15, 56, #[.func (.func 30) #[] #[.pointer (some ⟨lb, 0, none⟩)]]), (gk19, 23, #[.slice ma ns.length mc]), (gk23, 3, #[.int .i64 0]), (gk26, 3, #[.int .i64 ((nv0 : Nat) : Int)]), (gk41, 3, #[.int .i64 1])] lb sa sc ma mc ns [D0] wk44) := HSQ
         clear HSQ
         have HK0 : Hid (Kept No wk44 wk44) := Kept.refl _ _
         obtain ⟨s0, hs0⟩ : ∃ n, wk44.heap.size = n := ⟨_, rfl⟩
         have HS0 : Hid (wk44.heap.size = s0) := hs0
         clear hs0
         skip
         go_upto_region 13 with fail
         refine WL.start ?_
         refine tW (.int .i64 1) (exec_load 3 _ rfl ⟨gk41, 0, none⟩ (by kernel_rfl) (.int .i64 1) (load_one ((HF.out.box 8 _ _ _ rfl).cell 0 |>.trans (by kernel_rfl)) Try.und3 rfl)) ?_
         try simp only [pA, pB, p1, p2, p3]
         refine tW (.bool true) (exec_bin .lss 3 _ _ _ rfl (.int .i64 1) (.int .i64 3) (.bool true) (by kernel_rfl) (by kernel_rfl) (by kernel_rfl) (by kernel_rfl)) ?_
         try simp only [pA, pB, p1, p2, p3]
         refine WL.nil ?_
         try simp only [pA, pB, p1, p2, p3]
         go_upto_region 15 with fail
         refine WL.start ?_
         refine wp_runW (.pointer (some ⟨wk44.heap.size, 0, none⟩)) (wk44.alloc (.cells (#[.int .i64 0]) 3)) (exec_alloc1 3 rfl (.int .i64 0) rfl zero3) (by kernel_rfl) ?_
         try simp only [pA, pB, p1, p2, p3]
         have hx0_gk45 : s0 ≤ wk44.heap.size := by rw [← HS0.out]; exact HK0.out.size
         have HK0 : Hid (Kept No wk44 (wk44.alloc (.cells (#[.int .i64 0]) 3))) := HK0.out.no ((Kept.refl No _).alloc _)
         have HF : Hid (Fr No w (wk44.alloc (.cells (#[.int .i64 0]) 3)) [(gk1, 26, Bv.cells ⟨up, ⟨ea, en, ec⟩, ⟨la, ln, lc⟩⟩), (gk3, 3, #[.int .i64 stop]), (gk5, 4, #[.bool false]), (gk11, 26, Bv.cells ⟨up, ⟨ma0, mn0, mc0⟩, ⟨la0, ln0, lc0⟩⟩), (gk15, 56, #[.func (.func 30) #[] #[.pointer (some ⟨lb, 0, none⟩)]]), (gk19, 23, #[.slice ma ns.length mc]), (gk23, 3, #[.int .i64 0]), (gk26, 3, #[.int .i64 ((nv0 : Nat) : Int)]), (gk41, 3, #[.int .i64 1]), (wk44.heap.size, 3, #[.int .i64 0])]) := HF.out.alloc _ _
         generalize wk44.alloc (.cells (#[.int .i64 0]) 3) = wk46 at HF HK0 ⊢
         generalize wk44.heap.size = gk45 at HF hx0_gk45 ⊢
         refine wp_storeW 3 _ _ rfl ⟨gk45, 0, none⟩ (.int .i64 0) (by kernel_rfl) (by kernel_rfl) (wk46.setRow gk45 (#[.int .i64 0])) (run_store_to (cur := [.int .i64 0]) (vs := [.int .i64 0]) (new := [.int .i64 0]) (HF.out.box 9 _ _ _ rfl) (by kernel_rfl) Try.size3 (Nat.le_of_ble_eq_true (by kernel_rfl)) (by simp [Value.oneCell', Sl.v]) (by kernel_rfl)) (by kernel_rfl) ?_
         try simp only [pA, pB, p1, p2, p3]
         have HK0 : Hid (Kept No wk44 (wk46.setRow gk45 (#[.int .i64 0]))) := HK0.out.newRow (by rw [HS0.out]; exact hx0_gk45) _
         have HF : Hid (Fr No w (wk46.setRow gk45 (#[.int .i64 0])) [(gk1, 26, Bv.cells ⟨up, ⟨ea, en, ec⟩, ⟨la, ln, lc⟩⟩), (gk3, 3, #[.int .i64 stop]), (gk5, 4, #[.bool false]), (gk11, 26, Bv.cells ⟨up, ⟨ma0, mn0, mc0⟩, ⟨la0, ln0, lc0⟩⟩), (gk15, 56, #[.func (.func 30) #[] #[.pointer (some ⟨lb, 0, none⟩)]]), (gk19, 23, #[.slice ma ns.length mc]), (gk23, 3, #[.int .i64 0]), (gk26, 3, #[.int .i64 ((nv0 : Nat) : Int)]), (gk41, 3, #[.int .i64 1]), (gk45, 3, #[.int .i64 0])]) := HF.out.set 9 rfl _
         generalize wk46.setRow gk45 (#[.int .i64 0]) = wk47 at HF HK0 ⊢
         refine WL.nil ?_
         try simp only [pA, pB, p1, p2, p3]
         go_upto_region 16 with fail
         refine WL.start ?_
         refine tW (.func (.func 30) #[] #[.pointer (some ⟨lb, 0, none⟩)]) (exec_load 56 _ rfl ⟨gk15, 0, none⟩ (by kernel_rfl) (.func (.func 30) #[] #[.pointer (some ⟨lb, 0, none⟩)]) (load_one ((HF.out.box 4 _ _ _ rfl).cell 0 |>.trans (by kernel_rfl)) Try.und56f rfl)) ?_
         try simp only [pA, pB, p1, p2, p3]
         refine WL.nil ?_
         try simp only [pA, pB, p1, p2, p3]
         have HSQ : Hid (Sq w [(gk1, 26, Bv.cells ⟨up, ⟨ea, en, ec⟩, ⟨la, ln, lc⟩⟩), (gk3, 3, #[.int .i64 stop]), (gk5, 4, #[.bool false]), (gk11, 26, Bv.cells ⟨up, ⟨ma0, mn0, mc0⟩, ⟨la0, ln0, lc0⟩⟩), (gk15, 56, #[.func (.func 30) #[] #[.pointer (some ⟨lb, 0, none⟩)]]), (gk19, 23, #[.slice ma ns.length mc]), (gk23, 3, #[.int .i64 0]), (gk26, 3, #[.int .i64 ((nv0 : Nat) : Int)]), (gk41, 3, #[.int .i64 1]), (gk45, 3, #[.int .i64 0])] lb sa sc ma mc ns [D0] wk47) := ⟨HF.out, (HSQ0.out.no HK0.out).sq, (HSQ0.out.no HK0.out).wt, (HSQ0.out.no HK0.out).df⟩
         clear HSQ0 HK0 HS0 hx0_gk45
         obtain ⟨B1, hB1⟩ : ∃ x, wk47.heap.size = x := ⟨_, rfl⟩
         have hBw1 : w.heap.size ≤ B1 := by rw [← hB1]; exact HF.out.kept.size
         have hDs1 : ∀ D ∈ ([D0] : List Nat), D < B1 := fun D hD => by rw [← hB1]; exact (HSQ.out.df D hD).lt
         go_upto_block 4 with fail
         refine cut_defer (fun D W' => B1 ≤ D ∧ DefAt W' D ∧ ∃ nv : Nat, nv = ns.length ∧ Sq w [(gk1, 26, Bv.cells ⟨up, ⟨ea, en, ec⟩, ⟨la, ln, lc⟩⟩), (gk3, 3, #[.int .i64 stop]), (gk5, 4, #[.bool false]), (gk11, 26, Bv.cells ⟨up, ⟨ma0, mn0, mc0⟩, ⟨la0, ln0, lc0⟩⟩), (gk15, 56, #[.func (.func 30) #[] #[.pointer (some ⟨lb, 0, none⟩)]]), (gk19, 23, #[.slice ma ns.length mc]), (gk23, 3, #[.int .i64 0]), (gk26, 3, #[.int .i64 ((nv0 : Nat) : Int)]), (gk41, 3, #[.int .i64 1]), (gk45, 3, #[.int .i64 ((nv : Nat) : Int)])] lb sa sc ma mc ns [D0] W') ?_ ?_
         · have HBB : Hid (wk47.heap.size = B1) := hB1
           clear hB1
           go_wp2
           refine (wpIn_wide (n := 8)).1 ?_
           refine' rf_B (F := Fence.wide) rfl (by omega) (gf := 30) (lb := #[.pointer (some ⟨lb, 0, none⟩)]) rfl trivial (enters_of Try.func30 (by kernel_rfl) rfl)
             (seq_mem Fence.wide (8 - 1) trivial rfl (by omega) lb sc ns.length sa ns hm3 rfl wk47 HSQ.out.sq) nb_t (nb_b HSQ.out.sq (Nat.le_refl _)) (Below.refl _ _) (fun _ => rfl)
             (fun pre W' => Sq w [(gk1, 26, Bv.cells ⟨up, ⟨ea, en, ec⟩, ⟨la, ln, lc⟩⟩), (gk3, 3, #[.int .i64 stop]), (gk5, 4, #[.bool false]), (gk11, 26, Bv.cells ⟨up, ⟨ma0, mn0, mc0⟩, ⟨la0, ln0, lc0⟩⟩), (gk15, 56, #[.func (.func 30) #[] #[.pointer (some ⟨lb, 0, none⟩)]]), (gk19, 23, #[.slice ma ns.length mc]), (gk23, 3, #[.int .i64 0]), (gk26, 3, #[.int .i64 ((nv0 : Nat) : Int)]), (gk41, 3, #[.int .i64 1]), (gk45, 3, #[.int .i64 ((pre.length : Nat) : Int)])] lb sa sc ma mc ns [D0] W')
             (fun c pre W' => (c = .ret ∧ ¬ vals pre <+: ns) ∨ (c = .exit 4 ∧ False ∧ Sq w [(gk1, 26, Bv.cells ⟨up, ⟨ea, en, ec⟩, ⟨la, ln, lc⟩⟩), (gk3, 3, #[.int .i64 stop]), (gk5, 4, #[.bool false]), (gk11, 26, Bv.cells ⟨up, ⟨ma0, mn0, mc0⟩, ⟨la0, ln0, lc0⟩⟩), (gk15, 56, #[.func (.func 30) #[] #[.pointer (some ⟨lb, 0, none⟩)]]), (gk19, 23, #[.slice ma ns.length mc]), (gk23, 3, #[.int .i64 0]), (gk26, 3, #[.int .i64 ((nv0 : Nat) : Int)]), (gk41, 3, #[.int .i64 1]), (gk45, 3, #[.int .i64 ((pre.length : Nat) : Int)])] lb sa sc ma mc ns [D0] W')) ?own ?ownx HSQ.out (fun W' o => (Kept.refl _ W').alloc o) 34 (fun x => x.1.cells) _ ?assign ?body ?done ?stop
           case own => exact fun pre A' B' row h hg hr => h.grown hg (by rw [← HBB.out]; exact hr) hBw1 hDs1
           case ownx => exact fun c pre A' B' row h hg hr => h.imp id (fun ⟨e1, e2, h⟩ => ⟨e1, e2, h.grown hg (by rw [← HBB.out]; exact hr) hBw1 hDs1⟩)
           case assign =>
             intro l x W' K vb hvb hK
             simp only [List.zip_toArray, List.zip_cons_cons, List.zip_nil_left, List.zip_nil_right, List.size_toArray, List.length_cons, List.length_nil, List.foldl_toArray, List.foldl_toArray', List.foldl_cons, List.foldl_nil, p1, p2, p3]
             gi_upto_region 17 with fail
             refine WI.start ?_
             refine wi_run (.pointer (some ⟨W'.heap.size, 0, none⟩)) (W'.alloc (.cells (En.cells enZ) 34)) (exec_alloc 34 rfl (En.cells enZ) zero54) (by kernel_rfl) ?_
             try simp only [pA, pB, p1, p2, p3]
             refine wi_store 34 _ _ rfl ⟨W'.heap.size, 0, none⟩ (.agg (En.cells x.1)) (by kernel_rfl) (by kernel_rfl) (W'.alloc (.cells (En.cells x.1) 34)) (by rw [← alloc_set W' (En.cells enZ) (En.cells x.1) 34]; exact st54 (Box.new _ _ _) rfl) (by kernel_rfl) ?_
             try simp only [pA, pB, p1, p2, p3]
             refine WI.nil ?_
             try simp only [pA, pB, p1, p2, p3]
             gi_wp2
             rw [← hvb]
             exact hK
           case done =>
             rintro D ys W' hD hys hI hK
             have eys : ys.length = ns.length := by have h9 := congrArg List.length hys; simpa using h9
             rw [eys] at hI
             gi_wp2
             exact ⟨rfl, D, rfl, by rw [← HBB.out]; exact hD, hK, ns.length, rfl, hI⟩
           case stop =>
             rintro D c pre W' hD hpre h hK
             rcases h with ⟨rfl, h⟩ | ⟨rfl, hc, h⟩
             · exact absurd hpre h
             · gi_wp2
               exact ⟨rfl, D, rfl, by rw [← HBB.out]; exact hD, hK, pre.length, hc.elim, h⟩
           case body =>
             clear HSQ HF
             rintro l pre ⟨x, hx⟩ vb W' hl hlo hI hbv hlen
             have hI : Sq w [(gk1, 26, Bv.cells ⟨up, ⟨ea, en, ec⟩, ⟨la, ln, lc⟩⟩), (gk3, 3, #[.int .i64 stop]), (gk5, 4, #[.bool false]), (gk11, 26, Bv.cells ⟨up, ⟨ma0, mn0, mc0⟩, ⟨la0, ln0, lc0⟩⟩), (gk15, 56, #[.func (.func 30) #[] #[.pointer (some ⟨lb, 0, none⟩)]]), (gk19, 23, #[.slice ma ns.length mc]), (gk23, 3, #[.int .i64 0]), (gk26, 3, #[.int .i64 ((nv0 : Nat) : Int)]), (gk41, 3, #[.int .i64 1]), (gk45, 3, #[.int .i64 ((pre.length : Nat) : Int)])] lb sa sc ma mc ns [D0] W' := hI
             have HSQ : Hid (Sq w [(gk1, 26, Bv.cells ⟨up, ⟨ea, en, ec⟩, ⟨la, ln, lc⟩⟩), (gk3, 3, #[.int .i64 stop]), (gk5, 4, #[.bool false]), (gk11, 26, Bv.cells ⟨up, ⟨ma0, mn0, mc0⟩, ⟨la0, ln0, lc0⟩⟩), (gk15, 56, #[.func (.func 30) #[] #[.pointer (some ⟨lb, 0, none⟩)]]), (gk19, 23, #[.slice ma ns.length mc]), (gk23, 3, #[.int .i64 0]), (gk26, 3, #[.int .i64 ((nv0 : Nat) : Int)]), (gk41, 3, #[.int .i64 1]), (gk45, 3, #[.int .i64 ((pre.length : Nat) : Int)])] lb sa sc ma mc ns [D0] W') := hI
             have HV : Hid (Box W' vb 34 (En.cells x)) := hbv
             have HKN : Hid (Kept (NB lb sa) W' W') := Kept.refl _ _
             have HKF : Hid (KeepsFrom B1 W' W') := KeepsFrom.refl _ _
             have HF : Hid (Fr No w W' [(gk1, 26, Bv.cells ⟨up, ⟨ea, en, ec⟩, ⟨la, ln, lc⟩⟩), (gk3, 3, #[.int .i64 stop]), (gk5, 4, #[.bool false]), (gk11, 26, Bv.cells ⟨up, ⟨ma0, mn0, mc0⟩, ⟨la0, ln0, lc0⟩⟩), (gk15, 56, #[.func (.func 30) #[] #[.pointer (some ⟨lb, 0, none⟩)]]), (gk19, 23, #[.slice ma ns.length mc]), (gk23, 3, #[.int .i64 0]), (gk26, 3, #[.int .i64 ((nv0 : Nat) : Int)]), (gk41, 3, #[.int .i64 1]), (gk45, 3, #[.int .i64 ((pre.length : Nat) : Int)])]) := hI.fr
             obtain ⟨r0, hr0⟩ := hlo
             have HR0 : Hid (W'.heap[l]? = some (.loop r0)) := hr0
             have HLl : Hid (B1 ≤ l) := by show _ ≤ _; rw [← HBB.out]; exact hl
             clear hr0
             have hlen : pre.length < ns.length := hlen
             have HPx : Hid (¬ x = eAt ns pre.length → ¬ vals (pre ++ [(⟨x, hx⟩ : { x : En // x ∈ ns })]) <+: ns) := fun h9 hp => h9 (by rw [vals_snoc] at hp; have h8 := pre_is hp; rw [vals_len, eAt_some hlen] at h8; exact (Option.some.inj h8).symm)
             have HLn : Hid ((pre ++ [(⟨x, hx⟩ : { x : En // x ∈ ns })]).length = pre.length + 1) := by show _ = _; simp
             obtain ⟨p, hp⟩ : ∃ p, p = pre.length := ⟨_, rfl⟩
             rw [← hp] at HSQ HF HPx HLn hlen
             clear hI hbv hp
             obtain ⟨pb, po, hca, hcc⟩ := (show Es W' ma ns from HSQ.out.wt.rd.row).at hlen
             have hsl : Hid (Value.slice ma ns.length mc = .slice (some ⟨pb, po, none⟩) ns.length mc) := congrArg (fun y => Value.slice y ns.length mc) hca
             obtain ⟨y, hy⟩ : ∃ y, y = eAt ns p := ⟨_, rfl⟩
             rw [← hy] at hcc HPx
             have HCC : Hid (∀ (j : Nat) v, (En.cs y)[j]? = some v → W'.cell? ⟨pb, po + p * 4 + j, none⟩ = some v) := show ∀ (j : Nat) v, (En.cs y)[j]? = some v → W'.cell? ⟨pb, po + p * 4 + j, none⟩ = some v from hcc
             clear hca hcc hy
             simp only
             gi_upto_region 18 with fail
             refine region_round (F := Fence.wide) rfl hmix (by kernel_rfl) (by kernel_rfl) ?_
             refine qT (.int .i64 ((p : Nat) : Int)) (fun w' hw => exec_load 3 _ rfl ⟨gk45, 0, none⟩ (by kernel_rfl) (.int .i64 ((p : Nat) : Int)) (load_one (((HF.out.box 9 _ _ _ rfl).kept (qk hw) (fun e => e)).cell 0 |>.trans (by kernel_rfl)) Try.und3 rfl)) ?_
             try simp only [pA, pB, p1, p2, p3]
             refine qT (.slice ma ns.length mc) (fun w' hw => exec_load 23 _ rfl ⟨gk19, 0, none⟩ (by kernel_rfl) (.slice ma ns.length mc) (load_one (((HF.out.box 5 _ _ _ rfl).kept (qk hw) (fun e => e)).cell 0 |>.trans (by kernel_rfl)) Try.und22 rfl)) ?_
             try simp only [pA, pB, p1, p2, p3]
             refine qK (.int .i64 ((ns.length : Nat) : Int)) ?_
             try simp only [pA, pB, p1, p2, p3]
             refine qT (.bool false) (fun w' hw => exec_bin .geq 3 _ _ _ rfl (.int .i64 ((p : Nat) : Int)) (.int .i64 ((ns.length : Nat) : Int)) (.bool false) (by kernel_rfl) (by kernel_rfl) (by kernel_rfl) (by rw [b_geq, decide_eq_false (by omega)])) ?_
             try simp only [pA, pB, p1, p2, p3]
             refine qK (.bool false) ?_
             try simp only [pA, pB, p1, p2, p3]
             refine qT (.agg (En.cells x)) (fun w' hw => exec_load 34 _ rfl ⟨vb, 0, none⟩ (by kernel_rfl) (.agg (En.cells x)) (ld54 (HV.out.kept (qk hw) (fun e => e)))) ?_
             try simp only [pA, pB, p1, p2, p3]
             refine qT (.slice ma ns.length mc) (fun w' hw => exec_load 23 _ rfl ⟨gk19, 0, none⟩ (by kernel_rfl) (.slice ma ns.length mc) (load_one (((HF.out.box 5 _ _ _ rfl).kept (qk hw) (fun e => e)).cell 0 |>.trans (by kernel_rfl)) Try.und22 rfl)) ?_
             try simp only [pA, pB, p1, p2, p3]
             refine qT (.int .i64 ((p : Nat) : Int)) (fun w' hw => exec_load 3 _ rfl ⟨gk45, 0, none⟩ (by kernel_rfl) (.int .i64 ((p : Nat) : Int)) (load_one (((HF.out.box 9 _ _ _ rfl).kept (qk hw) (fun e => e)).cell 0 |>.trans (by kernel_rfl)) Try.und3 rfl)) ?_
             try simp only [pA, pB, p1, p2, p3]
             refine qT (.pointer (some ⟨pb, po + p * 4, none⟩)) (fun w' hw => exec_ixA 23 4 Try.und22e Try.size22e _ _ rfl pb po ns.length mc p (Eq.trans (b := .slice ma ns.length mc) (by kernel_rfl) hsl.out) (by kernel_rfl) hlen) ?_
             try simp only [pA, pB, p1, p2, p3]
             refine qT (.agg (En.cells y)) (fun w' hw => exec_load 34 _ rfl ⟨pb, po + p * 4, none⟩ (by kernel_rfl) (.agg (En.cells y)) (load_E (fun j v hv => (qk hw).cell (HCC.out j v hv) (fun e => e)))) ?_
             try simp only [pA, pB, p1, p2, p3]
             cases q7 : (eqE x y)
             ·skip
              refine qT (.bool true) (fun w' hw => exec_bin .neq 34 _ _ _ rfl (.agg (En.cells x)) (.agg (En.cells y)) (.bool true) (by kernel_rfl) (by kernel_rfl) (by kernel_rfl) (by rw [eqE_neq, q7]; try rfl)) ?_
              try simp only [pA, pB, p1, p2, p3]
              refine qK (.bool true) ?_
              try simp only [pA, pB, p1, p2, p3]
              refine wpQuietIn_nil ?_
              intro w9 hw9
              obtain ⟨nq, rfl⟩ := hw9
              have HSQ : Hid (Sq w [(gk1, 26, Bv.cells ⟨up, ⟨ea, en, ec⟩, ⟨la, ln, lc⟩⟩), (gk3, 3, #[.int .i64 stop]), (gk5, 4, #[.bool false]), (gk11, 26, Bv.cells ⟨up, ⟨ma0, mn0, mc0⟩, ⟨la0, ln0, lc0⟩⟩), (gk15, 56, #[.func (.func 30) #[] #[.pointer (some ⟨lb, 0, none⟩)]]), (gk19, 23, #[.slice ma ns.length mc]), (gk23, 3, #[.int .i64 0]), (gk26, 3, #[.int .i64 ((nv0 : Nat) : Int)]), (gk41, 3, #[.int .i64 1]), (gk45, 3, #[.int .i64 ((p : Nat) : Int)])] lb sa sc ma mc ns [D0] (W'.drewN nq)) := HSQ.out.no (Kept.no_drewN _ nq)
              have HKN : Hid (Kept (NB lb sa) W' (W'.drewN nq)) := HKN.out.then (Kept.no_drewN _ nq).of_no
              have HKF : Hid (KeepsFrom B1 W' (W'.drewN nq)) := HKF.out.trans ((keepsN _ nq).from _)
              have HF : Hid (Fr No w (W'.drewN nq) [(gk1, 26, Bv.cells ⟨up, ⟨ea, en, ec⟩, ⟨la, ln, lc⟩⟩), (gk3, 3, #[.int .i64 stop]), (gk5, 4, #[.bool false]), (gk11, 26, Bv.cells ⟨up, ⟨ma0, mn0, mc0⟩, ⟨la0, ln0, lc0⟩⟩), (gk15, 56, #[.func (.func 30) #[] #[.pointer (some ⟨lb, 0, none⟩)]]), (gk19, 23, #[.slice ma ns.length mc]), (gk23, 3, #[.int .i64 0]), (gk26, 3, #[.int .i64 ((nv0 : Nat) : Int)]), (gk41, 3, #[.int .i64 1]), (gk45, 3, #[.int .i64 ((p : Nat) : Int)])]) := HSQ.out.fr
              generalize W'.drewN nq = wk48 at HF HSQ HKN HKF ⊢
              have hne : ¬ x = y := fun e => by rw [e, eqE_iff.2 rfl] at q7; cases q7
              gi_upto_region 19 with fail
              refine WI.start ?_
              refine wi_store 4 _ _ rfl ⟨gk5, 0, none⟩ (.bool false) (by kernel_rfl) (by kernel_rfl) (wk48.setRow gk5 (#[.bool false])) (run_store_to (cur := [.bool false]) (vs := [.bool false]) (new := [.bool false]) (HF.out.box 2 _ _ _ rfl) (by kernel_rfl) Try.size4 (Nat.le_of_ble_eq_true (by kernel_rfl)) (by simp [Value.oneCell', Sl.v]) (by kernel_rfl)) (by kernel_rfl) ?_
              try simp only [pA, pB, p1, p2, p3]
              have hset := HSQ.out.set 2 rfl (.inr rfl) (#[.bool false])
              have HKF : Hid (KeepsFrom B1 W' (wk48.setRow gk5 (#[.bool false]))) := HKF.out.trans ((keepsRow (HF.out.box 2 _ _ _ rfl) _).from _)
              have HSQ : Hid (Sq w [(gk1, 26, Bv.cells ⟨up, ⟨ea, en, ec⟩, ⟨la, ln, lc⟩⟩), (gk3, 3, #[.int .i64 stop]), (gk5, 4, #[.bool false]), (gk11, 26, Bv.cells ⟨up, ⟨ma0, mn0, mc0⟩, ⟨la0, ln0, lc0⟩⟩), (gk15, 56, #[.func (.func 30) #[] #[.pointer (some ⟨lb, 0, none⟩)]]), (gk19, 23, #[.slice ma ns.length mc]), (gk23, 3, #[.int .i64 0]), (gk26, 3, #[.int .i64 ((nv0 : Nat) : Int)]), (gk41, 3, #[.int .i64 1]), (gk45, 3, #[.int .i64 ((p : Nat) : Int)])] lb sa sc ma mc ns [D0] (wk48.setRow gk5 (#[.bool false]))) := hset.1
              have HKN : Hid (Kept (NB lb sa) W' (wk48.setRow gk5 (#[.bool false]))) := HKN.out.then hset.2
              clear hset
              have HF : Hid (Fr No w (wk48.setRow gk5 (#[.bool false])) [(gk1, 26, Bv.cells ⟨up, ⟨ea, en, ec⟩, ⟨la, ln, lc⟩⟩), (gk3, 3, #[.int .i64 stop]), (gk5, 4, #[.bool false]), (gk11, 26, Bv.cells ⟨up, ⟨ma0, mn0, mc0⟩, ⟨la0, ln0, lc0⟩⟩), (gk15, 56, #[.func (.func 30) #[] #[.pointer (some ⟨lb, 0, none⟩)]]), (gk19, 23, #[.slice ma ns.length mc]), (gk23, 3, #[.int .i64 0]), (gk26, 3, #[.int .i64 ((nv0 : Nat) : Int)]), (gk41, 3, #[.int .i64 1]), (gk45, 3, #[.int .i64 ((p : Nat) : Int)])]) := HSQ.out.fr
              generalize wk48.setRow gk5 (#[.bool false]) = wk49 at HF HSQ HKN HKF ⊢
              refine WI.nil ?_
              try simp only [pA, pB, p1, p2, p3]
              gi_wp2
              exact ⟨by rw [HBB.out]; exact HKF.out, .inl ⟨rfl, HPx.out hne⟩⟩
             ·skip
              refine qT (.bool false) (fun w' hw => exec_bin .neq 34 _ _ _ rfl (.agg (En.cells x)) (.agg (En.cells y)) (.bool false) (by kernel_rfl) (by kernel_rfl) (by kernel_rfl) (by rw [eqE_neq, q7]; try rfl)) ?_
              try simp only [pA, pB, p1, p2, p3]
              refine qK (.bool false) ?_
              try simp only [pA, pB, p1, p2, p3]
              refine wpQuietIn_nil ?_
              intro w9 hw9
              obtain ⟨nq, rfl⟩ := hw9
              have HSQ : Hid (Sq w [(gk1, 26, Bv.cells ⟨up, ⟨ea, en, ec⟩, ⟨la, ln, lc⟩⟩), (gk3, 3, #[.int .i64 stop]), (gk5, 4, #[.bool false]), (gk11, 26, Bv.cells ⟨up, ⟨ma0, mn0, mc0⟩, ⟨la0, ln0, lc0⟩⟩), (gk15, 56, #[.func (.func 30) #[] #[.pointer (some ⟨lb, 0, none⟩)]]), (gk19, 23, #[.slice ma ns.length mc]), (gk23, 3, #[.int .i64 0]), (gk26, 3, #[.int .i64 ((nv0 : Nat) : Int)]), (gk41, 3, #[.int .i64 1]), (gk45, 3, #[.int .i64 ((p : Nat) : Int)])] lb sa sc ma mc ns [D0] (W'.drewN nq)) := HSQ.out.no (Kept.no_drewN _ nq)
              have HKN : Hid (Kept (NB lb sa) W' (W'.drewN nq)) := HKN.out.then (Kept.no_drewN _ nq).of_no
              have HKF : Hid (KeepsFrom B1 W' (W'.drewN nq)) := HKF.out.trans ((keepsN _ nq).from _)
              have HF : Hid (Fr No w (W'.drewN nq) [(gk1, 26, Bv.cells ⟨up, ⟨ea, en, ec⟩, ⟨la, ln, lc⟩⟩), (gk3, 3, #[.int .i64 stop]), (gk5, 4, #[.bool false]), (gk11, 26, Bv.cells ⟨up, ⟨ma0, mn0, mc0⟩, ⟨la0, ln0, lc0⟩⟩), (gk15, 56, #[.func (.func 30) #[] #[.pointer (some ⟨lb, 0, none⟩)]]), (gk19, 23, #[.slice ma ns.length mc]), (gk23, 3, #[.int .i64 0]), (gk26, 3, #[.int .i64 ((nv0 : Nat) : Int)]), (gk41, 3, #[.int .i64 1]), (gk45, 3, #[.int .i64 ((p : Nat) : Int)])]) := HSQ.out.fr
              generalize W'.drewN nq = wk50 at HF HSQ HKN HKF ⊢
              gi_upto_region 20 with fail
              refine WI.start ?_
              refine wi_run (.pointer (some ⟨wk50.heap.size, 0, none⟩)) (wk50.alloc (.cells (#[.int .i64 0]) 3)) (exec_alloc1 3 rfl (.int .i64 0) rfl zero3) (by kernel_rfl) ?_
              try simp only [pA, pB, p1, p2, p3]
              have HSQ : Hid (Sq w [(gk1, 26, Bv.cells ⟨up, ⟨ea, en, ec⟩, ⟨la, ln, lc⟩⟩), (gk3, 3, #[.int .i64 stop]), (gk5, 4, #[.bool false]), (gk11, 26, Bv.cells ⟨up, ⟨ma0, mn0, mc0⟩, ⟨la0, ln0, lc0⟩⟩), (gk15, 56, #[.func (.func 30) #[] #[.pointer (some ⟨lb, 0, none⟩)]]), (gk19, 23, #[.slice ma ns.length mc]), (gk23, 3, #[.int .i64 0]), (gk26, 3, #[.int .i64 ((nv0 : Nat) : Int)]), (gk41, 3, #[.int .i64 1]), (gk45, 3, #[.int .i64 ((p : Nat) : Int)]), (wk50.heap.size, 3, #[.int .i64 0])] lb sa sc ma mc ns [D0] (wk50.alloc (.cells (#[.int .i64 0]) 3))) := HSQ.out.alloc _ _
              have HKN : Hid (Kept (NB lb sa) W' (wk50.alloc (.cells (#[.int .i64 0]) 3))) := HKN.out.then ((Kept.refl No _).alloc _).of_no
              have HKF : Hid (KeepsFrom B1 W' (wk50.alloc (.cells (#[.int .i64 0]) 3))) := HKF.out.trans ((KeepsOthers.alloc _ _).from _)
              have HF : Hid (Fr No w (wk50.alloc (.cells (#[.int .i64 0]) 3)) [(gk1, 26, Bv.cells ⟨up, ⟨ea, en, ec⟩, ⟨la, ln, lc⟩⟩), (gk3, 3, #[.int .i64 stop]), (gk5, 4, #[.bool false]), (gk11, 26, Bv.cells ⟨up, ⟨ma0, mn0, mc0⟩, ⟨la0, ln0, lc0⟩⟩), (gk15, 56, #[.func (.func 30) #[] #[.pointer (some ⟨lb, 0, none⟩)]]), (gk19, 23, #[.slice ma ns.length mc]), (gk23, 3, #[.int .i64 0]), (gk26, 3, #[.int .i64 ((nv0 : Nat) : Int)]), (gk41, 3, #[.int .i64 1]), (gk45, 3, #[.int .i64 ((p : Nat) : Int)]), (wk50.heap.size, 3, #[.int .i64 0])]) := HSQ.out.fr
              generalize wk50.alloc (.cells (#[.int .i64 0]) 3) = wk52 at HF HSQ HKN HKF ⊢
              generalize wk50.heap.size = gk51 at HF HSQ ⊢
              refine wi_store 3 _ _ rfl ⟨gk51, 0, none⟩ (.int .i64 0) (by kernel_rfl) (by kernel_rfl) (wk52.setRow gk51 (#[.int .i64 0])) (run_store_to (cur := [.int .i64 0]) (vs := [.int .i64 0]) (new := [.int .i64 0]) (HF.out.box 10 _ _ _ rfl) (by kernel_rfl) Try.size3 (Nat.le_of_ble_eq_true (by kernel_rfl)) (by simp [Value.oneCell', Sl.v]) (by kernel_rfl)) (by kernel_rfl) ?_
              try simp only [pA, pB, p1, p2, p3]
              have hset := HSQ.out.set 10 rfl (.inl rfl) (#[.int .i64 0])
              have HKF : Hid (KeepsFrom B1 W' (wk52.setRow gk51 (#[.int .i64 0]))) := HKF.out.trans ((keepsRow (HF.out.box 10 _ _ _ rfl) _).from _)
              have HSQ : Hid (Sq w [(gk1, 26, Bv.cells ⟨up, ⟨ea, en, ec⟩, ⟨la, ln, lc⟩⟩), (gk3, 3, #[.int .i64 stop]), (gk5, 4, #[.bool false]), (gk11, 26, Bv.cells ⟨up, ⟨ma0, mn0, mc0⟩, ⟨la0, ln0, lc0⟩⟩), (gk15, 56, #[.func (.func 30) #[] #[.pointer (some ⟨lb, 0, none⟩)]]), (gk19, 23, #[.slice ma ns.length mc]), (gk23, 3, #[.int .i64 0]), (gk26, 3, #[.int .i64 ((nv0 : Nat) : Int)]), (gk41, 3, #[.int .i64 1]), (gk45, 3, #[.int .i64 ((p : Nat) : Int)]), (gk51, 3, #[.int .i64 0])] lb sa sc ma mc ns [D0] (wk52.setRow gk51 (#[.int .i64 0]))) := hset.1
              have HKN : Hid (Kept (NB lb sa) W' (wk52.setRow gk51 (#[.int .i64 0]))) := HKN.out.then hset.2
              clear hset
              have HF : Hid (Fr No w (wk52.setRow gk51 (#[.int .i64 0])) [(gk1, 26, Bv.cells ⟨up, ⟨ea, en, ec⟩, ⟨la, ln, lc⟩⟩), (gk3, 3, #[.int .i64 stop]), (gk5, 4, #[.bool false]), (gk11, 26, Bv.cells ⟨up, ⟨ma0, mn0, mc0⟩, ⟨la0, ln0, lc0⟩⟩), (gk15, 56, #[.func (.func 30) #[] #[.pointer (some ⟨lb, 0, none⟩)]]), (gk19, 23, #[.slice ma ns.length mc]), (gk23, 3, #[.int .i64 0]), (gk26, 3, #[.int .i64 ((nv0 : Nat) : Int)]), (gk41, 3, #[.int .i64 1]), (gk45, 3, #[.int .i64 ((p : Nat) : Int)]), (gk51, 3, #[.int .i64 0])]) := HSQ.out.fr
              generalize wk52.setRow gk51 (#[.int .i64 0]) = wk53 at HF HSQ HKN HKF ⊢
              refine WI.nil ?_
              try simp only [pA, pB, p1, p2, p3]
              gi_upto_region 21 with fail
              refine WI.start ?_
              refine iW (.func (.func 30) #[] #[.pointer (some ⟨lb, 0, none⟩)]) (exec_load 56 _ rfl ⟨gk15, 0, none⟩ (by kernel_rfl) (.func (.func 30) #[] #[.pointer (some ⟨lb, 0, none⟩)]) (load_one ((HF.out.box 4 _ _ _ rfl).cell 0 |>.trans (by kernel_rfl)) Try.und56f rfl)) ?_
              try simp only [pA, pB, p1, p2, p3]
              refine WI.nil ?_
              try simp only [pA, pB, p1, p2, p3]
              have hrc : wk53.heap[l]? = some (.loop r0) := HKF.out.same l _ HLl.out HR0.out rfl
              have hBi : B1 ≤ wk53.heap.size := Nat.le_trans HLl.out (Nat.le_of_lt (Array.getElem?_eq_some_iff.1 hrc).1)
              have hWs : W'.heap.size ≤ wk53.heap.size := HKN.out.size
              have hBw2 : w.heap.size ≤ wk53.heap.size := HF.out.kept.size
              have hDs2 : ∀ D ∈ ([D0] : List Nat), D < wk53.heap.size := fun D hD => (HSQ.out.df D hD).lt
              gi_wp2
              refine' rf_BN (F := Fence.wide.inRound l) (l₀ := l) (r₀ := r0) rfl hrc (by omega) (gf := 30) (lb := #[.pointer (some ⟨lb, 0, none⟩)]) rfl trivial (enters_of Try.func30 (by kernel_rfl) rfl)
                ((seq_mem Fence.wide (6 - 1) trivial rfl (by omega) lb sc ns.length sa ns hm3 rfl wk53 HSQ.out.sq).inRound l) nb_t (nb_b HSQ.out.sq (Nat.le_refl _)) (Below.refl _ _) (fun _ => rfl)
                (fun pre2 W2 => Sq w [(gk1, 26, Bv.cells ⟨up, ⟨ea, en, ec⟩, ⟨la, ln, lc⟩⟩), (gk3, 3, #[.int .i64 stop]), (gk5, 4, #[.bool false]), (gk11, 26, Bv.cells ⟨up, ⟨ma0, mn0, mc0⟩, ⟨la0, ln0, lc0⟩⟩), (gk15, 56, #[.func (.func 30) #[] #[.pointer (some ⟨lb, 0, none⟩)]]), (gk19, 23, #[.slice ma ns.length mc]), (gk23, 3, #[.int .i64 0]), (gk26, 3, #[.int .i64 ((nv0 : Nat) : Int)]), (gk41, 3, #[.int .i64 1]), (gk45, 3, #[.int .i64 ((p : Nat) : Int)]), (gk51, 3, #[.int .i64 ((pre2.length : Nat) : Int)])] lb sa sc ma mc ns [D0] W2 ∧ Kept (NB lb sa) W' W2 ∧ KeepsFrom B1 W' W2)
                (fun c pre2 W2 => (c = .ret ∧ ¬ vals pre2 <+: ns) ∨ (c = .exit 6 ∧ Sq w [(gk1, 26, Bv.cells ⟨up, ⟨ea, en, ec⟩, ⟨la, ln, lc⟩⟩), (gk3, 3, #[.int .i64 stop]), (gk5, 4, #[.bool false]), (gk11, 26, Bv.cells ⟨up, ⟨ma0, mn0, mc0⟩, ⟨la0, ln0, lc0⟩⟩), (gk15, 56, #[.func (.func 30) #[] #[.pointer (some ⟨lb, 0, none⟩)]]), (gk19, 23, #[.slice ma ns.length mc]), (gk23, 3, #[.int .i64 0]), (gk26, 3, #[.int .i64 ((nv0 : Nat) : Int)]), (gk41, 3, #[.int .i64 1]), (gk45, 3, #[.int .i64 ((p : Nat) : Int)]), (gk51, 3, #[.int .i64 ((pre2.length : Nat) : Int)])] lb sa sc ma mc ns [D0] W2 ∧ Kept (NB lb sa) W' W2 ∧ KeepsFrom B1 W' W2)) ?own2 ?ownx2 ⟨HSQ.out, HKN.out, HKF.out⟩ (fun W2 o => (Kept.refl _ W2).alloc o) 34 (fun x => x.1.cells) _ ?assign2 ?body2 ?done2 ?stop2
              case own2 => exact fun pre2 A' B' row h hg hr => ⟨h.1.grown hg hr hBw2 hDs2, h.2.1.grown hg (fun k e hk => by have h9 := (hr k e).1; omega), (ownFrom_keepsFrom (β := Unit) (B := B1) hWs) () A' B' row h.2.2 hg hr⟩
              case ownx2 => exact fun c pre2 A' B' row h hg hr => h.imp id (fun ⟨e, h⟩ => ⟨e, h.1.grown hg hr hBw2 hDs2, h.2.1.grown hg (fun k e hk => by have h9 := (hr k e).1; omega), (ownFrom_keepsFrom (β := Unit) (B := B1) hWs) () A' B' row h.2.2 hg hr⟩)
              case assign2 =>
                intro l2 y2 W2 K vb2 hvb hK
                simp only [List.zip_toArray, List.zip_cons_cons, List.zip_nil_left, List.zip_nil_right, List.size_toArray, List.length_cons, List.length_nil, List.foldl_toArray, List.foldl_toArray', List.foldl_cons, List.foldl_nil, p1, p2, p3]
                gi_upto_region 22 with fail
                refine WI.start ?_
                refine wi_run (.pointer (some ⟨W2.heap.size, 0, none⟩)) (W2.alloc (.cells (En.cells enZ) 34)) (exec_alloc 34 rfl (En.cells enZ) zero54) (by kernel_rfl) ?_
                try simp only [pA, pB, p1, p2, p3]
                refine wi_store 34 _ _ rfl ⟨W2.heap.size, 0, none⟩ (.agg (En.cells y2.1)) (by kernel_rfl) (by kernel_rfl) (W2.alloc (.cells (En.cells y2.1) 34)) (by rw [← alloc_set W2 (En.cells enZ) (En.cells y2.1) 34]; exact st54 (Box.new _ _ _) rfl) (by kernel_rfl) ?_
                try simp only [pA, pB, p1, p2, p3]
                refine WI.nil ?_
                try simp only [pA, pB, p1, p2, p3]
                gi_wp2
                rw [← hvb]
                exact hK
              case stop2 =>
                rintro c pre2 W2 hpre (⟨_, hn⟩ | ⟨rfl, hI2, hKK, hKF⟩)
                · exact absurd hpre hn
                · have HSQ : Hid (Sq w [(gk1, 26, Bv.cells ⟨up, ⟨ea, en, ec⟩, ⟨la, ln, lc⟩⟩), (gk3, 3, #[.int .i64 stop]), (gk5, 4, #[.bool false]), (gk11, 26, Bv.cells ⟨up, ⟨ma0, mn0, mc0⟩, ⟨la0, ln0, lc0⟩⟩), (gk15, 56, #[.func (.func 30) #[] #[.pointer (some ⟨lb, 0, none⟩)]]), (gk19, 23, #[.slice ma ns.length mc]), (gk23, 3, #[.int .i64 0]), (gk26, 3, #[.int .i64 ((nv0 : Nat) : Int)]), (gk41, 3, #[.int .i64 1]), (gk45, 3, #[.int .i64 ((p : Nat) : Int)]), (gk51, 3, #[.int .i64 ((pre2.length : Nat) : Int)])] lb sa sc ma mc ns [D0] W2) := hI2
                  have HKN : Hid (Kept (NB lb sa) W' W2) := hKK
                  have HKF : Hid (KeepsFrom B1 W' W2) := hKF
                  have HF : Hid (Fr No w W2 [(gk1, 26, Bv.cells ⟨up, ⟨ea, en, ec⟩, ⟨la, ln, lc⟩⟩), (gk3, 3, #[.int .i64 stop]), (gk5, 4, #[.bool false]), (gk11, 26, Bv.cells ⟨up, ⟨ma0, mn0, mc0⟩, ⟨la0, ln0, lc0⟩⟩), (gk15, 56, #[.func (.func 30) #[] #[.pointer (some ⟨lb, 0, none⟩)]]), (gk19, 23, #[.slice ma ns.length mc]), (gk23, 3, #[.int .i64 0]), (gk26, 3, #[.int .i64 ((nv0 : Nat) : Int)]), (gk41, 3, #[.int .i64 1]), (gk45, 3, #[.int .i64 ((p : Nat) : Int)]), (gk51, 3, #[.int .i64 ((pre2.length : Nat) : Int)])]) := hI2.fr
                  clear hI2 hKK hKF hpre hrc hWs hBw2 hDs2
                  generalize pre2.length = jp3 at HSQ HF
                  gi_upto_region 27 with fail
                  refine WI.start ?_
                  refine iW (.int .i64 ((p : Nat) : Int)) (exec_load 3 _ rfl ⟨gk45, 0, none⟩ (by kernel_rfl) (.int .i64 ((p : Nat) : Int)) (load_one ((HF.out.box 9 _ _ _ rfl).cell 0 |>.trans (by kernel_rfl)) Try.und3 rfl)) ?_
                  try simp only [pA, pB, p1, p2, p3]
                  refine iW (.int .i64 (((p + 1) : Nat) : Int)) (exec_bin .add 3 _ _ _ rfl (.int .i64 ((p : Nat) : Int)) (.int .i64 1) (.int .i64 (((p + 1) : Nat) : Int)) (by kernel_rfl) (by kernel_rfl) (by kernel_rfl) (b_addw _ _ _ (by rw [IntKind.wrap_i64]; omega) _)) ?_
                  try simp only [pA, pB, p1, p2, p3]
                  refine wi_store 3 _ _ rfl ⟨gk45, 0, none⟩ (.int .i64 (((p + 1) : Nat) : Int)) (by kernel_rfl) (by kernel_rfl) (W2.setRow gk45 (#[.int .i64 (((p + 1) : Nat) : Int)])) (run_store_to (cur := [.int .i64 ((p : Nat) : Int)]) (vs := [.int .i64 (((p + 1) : Nat) : Int)]) (new := [.int .i64 (((p + 1) : Nat) : Int)]) (HF.out.box 9 _ _ _ rfl) (by kernel_rfl) Try.size3 (Nat.le_of_ble_eq_true (by kernel_rfl)) (by simp [Value.oneCell', Sl.v]) (by kernel_rfl)) (by kernel_rfl) ?_
                  try simp only [pA, pB, p1, p2, p3]
                  have hset := HSQ.out.set 9 rfl (.inl rfl) (#[.int .i64 (((p + 1) : Nat) : Int)])
                  have HKF : Hid (KeepsFrom B1 W' (W2.setRow gk45 (#[.int .i64 (((p + 1) : Nat) : Int)]))) := HKF.out.trans ((keepsRow (HF.out.box 9 _ _ _ rfl) _).from _)
                  have HSQ : Hid (Sq w [(gk1, 26, Bv.cells ⟨up, ⟨ea, en, ec⟩, ⟨la, ln, lc⟩⟩), (gk3, 3, #[.int .i64 stop]), (gk5, 4, #[.bool false]), (gk11, 26, Bv.cells ⟨up, ⟨ma0, mn0, mc0⟩, ⟨la0, ln0, lc0⟩⟩), (gk15, 56, #[.func (.func 30) #[] #[.pointer (some ⟨lb, 0, none⟩)]]), (gk19, 23, #[.slice ma ns.length mc]), (gk23, 3, #[.int .i64 0]), (gk26, 3, #[.int .i64 ((nv0 : Nat) : Int)]), (gk41, 3, #[.int .i64 1]), (gk45, 3, #[.int .i64 (((p + 1) : Nat) : Int)]), (gk51, 3, #[.int .i64 ((jp3 : Nat) : Int)])] lb sa sc ma mc ns [D0] (W2.setRow gk45 (#[.int .i64 (((p + 1) : Nat) : Int)]))) := hset.1
                  have HKN : Hid (Kept (NB lb sa) W' (W2.setRow gk45 (#[.int .i64 (((p + 1) : Nat) : Int)]))) := HKN.out.then hset.2
                  clear hset
                  have HF : Hid (Fr No w (W2.setRow gk45 (#[.int .i64 (((p + 1) : Nat) : Int)])) [(gk1, 26, Bv.cells ⟨up, ⟨ea, en, ec⟩, ⟨la, ln, lc⟩⟩), (gk3, 3, #[.int .i64 stop]), (gk5, 4, #[.bool false]), (gk11, 26, Bv.cells ⟨up, ⟨ma0, mn0, mc0⟩, ⟨la0, ln0, lc0⟩⟩), (gk15, 56, #[.func (.func 30) #[] #[.pointer (some ⟨lb, 0, none⟩)]]), (gk19, 23, #[.slice ma ns.length mc]), (gk23, 3, #[.int .i64 0]), (gk26, 3, #[.int .i64 ((nv0 : Nat) : Int)]), (gk41, 3, #[.int .i64 1]), (gk45, 3, #[.int .i64 (((p + 1) : Nat) : Int)]), (gk51, 3, #[.int .i64 ((jp3 : Nat) : Int)])]) := HSQ.out.fr
                  generalize W2.setRow gk45 (#[.int .i64 (((p + 1) : Nat) : Int)]) = wk54 at HF HSQ HKN HKF ⊢
                  refine WI.nil ?_
                  try simp only [pA, pB, p1, p2, p3]
                  gi_upto_region 28 with fail
                  refine WI.start ?_
                  refine iW (.int .i64 1) (exec_load 3 _ rfl ⟨gk41, 0, none⟩ (by kernel_rfl) (.int .i64 1) (load_one ((HF.out.box 8 _ _ _ rfl).cell 0 |>.trans (by kernel_rfl)) Try.und3 rfl)) ?_
                  try simp only [pA, pB, p1, p2, p3]
                  refine iW (.bool false) (exec_bin .eql 3 _ _ _ rfl (.int .i64 1) (.int .i64 0) (.bool false) (by kernel_rfl) (by kernel_rfl) (by kernel_rfl) (by kernel_rfl)) ?_
                  try simp only [pA, pB, p1, p2, p3]
                  refine iK (.bool false) ?_
                  try simp only [pA, pB, p1, p2, p3]
                  refine iZ ?_
                  try simp only [pA, pB, p1, p2, p3]
                  refine iZ ?_
                  try simp only [pA, pB, p1, p2, p3]
                  refine iZ ?_
                  try simp only [pA, pB, p1, p2, p3]
                  refine iK (.bool false) ?_
                  try simp only [pA, pB, p1, p2, p3]
                  refine WI.nil ?_
                  try simp only [pA, pB, p1, p2, p3]
                  gi_wp2
                  exact ⟨by rw [HBB.out]; exact HKF.out, HKN.out, (show Sq w [(gk1, 26, Bv.cells ⟨up, ⟨ea, en, ec⟩, ⟨la, ln, lc⟩⟩), (gk3, 3, #[.int .i64 stop]), (gk5, 4, #[.bool false]), (gk11, 26, Bv.cells ⟨up, ⟨ma0, mn0, mc0⟩, ⟨la0, ln0, lc0⟩⟩), (gk15, 56, #[.func (.func 30) #[] #[.pointer (some ⟨lb, 0, none⟩)]]), (gk19, 23, #[.slice ma ns.length mc]), (gk23, 3, #[.int .i64 0]), (gk26, 3, #[.int .i64 ((nv0 : Nat) : Int)]), (gk41, 3, #[.int .i64 1]), (gk45, 3, #[.int .i64 (((pre ++ [(⟨x, hx⟩ : { x : En // x ∈ ns })]).length : Nat) : Int)])] lb sa sc ma mc ns [D0] wk54 from by rw [HLn.out]; exact Sq.front (l := [(gk1, 26, Bv.cells ⟨up, ⟨ea, en, ec⟩, ⟨la, ln, lc⟩⟩), (gk3, 3, #[.int .i64 stop]), (gk5, 4, #[.bool false]), (gk11, 26, Bv.cells ⟨up, ⟨ma0, mn0, mc0⟩, ⟨la0, ln0, lc0⟩⟩), (gk15, 56, #[.func (.func 30) #[] #[.pointer (some ⟨lb, 0, none⟩)]]), (gk19, 23, #[.slice ma ns.length mc]), (gk23, 3, #[.int .i64 0]), (gk26, 3, #[.int .i64 ((nv0 : Nat) : Int)]), (gk41, 3, #[.int .i64 1]), (gk45, 3, #[.int .i64 (((p + 1) : Nat) : Int)])]) (m := [(gk51, 3, #[.int .i64 ((jp3 : Nat) : Int)])]) HSQ.out)⟩
              case done2 =>
                rintro ys2 W2 _ ⟨hI2, hKK, hKF⟩
                have HSQ : Hid (Sq w [(gk1, 26, Bv.cells ⟨up, ⟨ea, en, ec⟩, ⟨la, ln, lc⟩⟩), (gk3, 3, #[.int .i64 stop]), (gk5, 4, #[.bool false]), (gk11, 26, Bv.cells ⟨up, ⟨ma0, mn0, mc0⟩, ⟨la0, ln0, lc0⟩⟩), (gk15, 56, #[.func (.func 30) #[] #[.pointer (some ⟨lb, 0, none⟩)]]), (gk19, 23, #[.slice ma ns.length mc]), (gk23, 3, #[.int .i64 0]), (gk26, 3, #[.int .i64 ((nv0 : Nat) : Int)]), (gk41, 3, #[.int .i64 1]), (gk45, 3, #[.int .i64 ((p : Nat) : Int)]), (gk51, 3, #[.int .i64 ((ys2.length : Nat) : Int)])] lb sa sc ma mc ns [D0] W2) := hI2
                have HKN : Hid (Kept (NB lb sa) W' W2) := hKK
                have HKF : Hid (KeepsFrom B1 W' W2) := hKF
                have HF : Hid (Fr No w W2 [(gk1, 26, Bv.cells ⟨up, ⟨ea, en, ec⟩, ⟨la, ln, lc⟩⟩), (gk3, 3, #[.int .i64 stop]), (gk5, 4, #[.bool false]), (gk11, 26, Bv.cells ⟨up, ⟨ma0, mn0, mc0⟩, ⟨la0, ln0, lc0⟩⟩), (gk15, 56, #[.func (.func 30) #[] #[.pointer (some ⟨lb, 0, none⟩)]]), (gk19, 23, #[.slice ma ns.length mc]), (gk23, 3, #[.int .i64 0]), (gk26, 3, #[.int .i64 ((nv0 : Nat) : Int)]), (gk41, 3, #[.int .i64 1]), (gk45, 3, #[.int .i64 ((p : Nat) : Int)]), (gk51, 3, #[.int .i64 ((ys2.length : Nat) : Int)])]) := hI2.fr
                clear hI2 hKK hKF hrc hWs hBw2 hDs2
                generalize ys2.length = jp3 at HSQ HF
                gi_upto_region 27 with fail
                refine WI.start ?_
                refine iW (.int .i64 ((p : Nat) : Int)) (exec_load 3 _ rfl ⟨gk45, 0, none⟩ (by kernel_rfl) (.int .i64 ((p : Nat) : Int)) (load_one ((HF.out.box 9 _ _ _ rfl).cell 0 |>.trans (by kernel_rfl)) Try.und3 rfl)) ?_
                try simp only [pA, pB, p1, p2, p3]
                refine iW (.int .i64 (((p + 1) : Nat) : Int)) (exec_bin .add 3 _ _ _ rfl (.int .i64 ((p : Nat) : Int)) (.int .i64 1) (.int .i64 (((p + 1) : Nat) : Int)) (by kernel_rfl) (by kernel_rfl) (by kernel_rfl) (b_addw _ _ _ (by rw [IntKind.wrap_i64]; omega) _)) ?_
                try simp only [pA, pB, p1, p2, p3]
                refine wi_store 3 _ _ rfl ⟨gk45, 0, none⟩ (.int .i64 (((p + 1) : Nat) : Int)) (by kernel_rfl) (by kernel_rfl) (W2.setRow gk45 (#[.int .i64 (((p + 1) : Nat) : Int)])) (run_store_to (cur := [.int .i64 ((p : Nat) : Int)]) (vs := [.int .i64 (((p + 1) : Nat) : Int)]) (new := [.int .i64 (((p + 1) : Nat) : Int)]) (HF.out.box 9 _ _ _ rfl) (by kernel_rfl) Try.size3 (Nat.le_of_ble_eq_true (by kernel_rfl)) (by simp [Value.oneCell', Sl.v]) (by kernel_rfl)) (by kernel_rfl) ?_
                try simp only [pA, pB, p1, p2, p3]
                have hset := HSQ.out.set 9 rfl (.inl rfl) (#[.int .i64 (((p + 1) : Nat) : Int)])
                have HKF : Hid (KeepsFrom B1 W' (W2.setRow gk45 (#[.int .i64 (((p + 1) : Nat) : Int)]))) := HKF.out.trans ((keepsRow (HF.out.box 9 _ _ _ rfl) _).from _)
                have HSQ : Hid (Sq w [(gk1, 26, Bv.cells ⟨up, ⟨ea, en, ec⟩, ⟨la, ln, lc⟩⟩), (gk3, 3, #[.int .i64 stop]), (gk5, 4, #[.bool false]), (gk11, 26, Bv.cells ⟨up, ⟨ma0, mn0, mc0⟩, ⟨la0, ln0, lc0⟩⟩), (gk15, 56, #[.func (.func 30) #[] #[.pointer (some ⟨lb, 0, none⟩)]]), (gk19, 23, #[.slice ma ns.length mc]), (gk23, 3, #[.int .i64 0]), (gk26, 3, #[.int .i64 ((nv0 : Nat) : Int)]), (gk41, 3, #[.int .i64 1]), (gk45, 3, #[.int .i64 (((p + 1) : Nat) : Int)]), (gk51, 3, #[.int .i64 ((jp3 : Nat) : Int)])] lb sa sc ma mc ns [D0] (W2.setRow gk45 (#[.int .i64 (((p + 1) : Nat) : Int)]))) := hset.1
                have HKN : Hid (Kept (NB lb sa) W' (W2.setRow gk45 (#[.int .i64 (((p + 1) : Nat) : Int)]))) := HKN.out.then hset.2
                clear hset
                have HF : Hid (Fr No w (W2.setRow gk45 (#[.int .i64 (((p + 1) : Nat) : Int)])) [(gk1, 26, Bv.cells ⟨up, ⟨ea, en, ec⟩, ⟨la, ln, lc⟩⟩), (gk3, 3, #[.int .i64 stop]), (gk5, 4, #[.bool false]), (gk11, 26, Bv.cells ⟨up, ⟨ma0, mn0, mc0⟩, ⟨la0, ln0, lc0⟩⟩), (gk15, 56, #[.func (.func 30) #[] #[.pointer (some ⟨lb, 0, none⟩)]]), (gk19, 23, #[.slice ma ns.length mc]), (gk23, 3, #[.int .i64 0]), (gk26, 3, #[.int .i64 ((nv0 : Nat) : Int)]), (gk41, 3, #[.int .i64 1]), (gk45, 3, #[.int .i64 (((p + 1) : Nat) : Int)]), (gk51, 3, #[.int .i64 ((jp3 : Nat) : Int)])]) := HSQ.out.fr
                generalize W2.setRow gk45 (#[.int .i64 (((p + 1) : Nat) : Int)]) = wk55 at HF HSQ HKN HKF ⊢
                refine WI.nil ?_
                try simp only [pA, pB, p1, p2, p3]
                gi_upto_region 28 with fail
                refine WI.start ?_
                refine iW (.int .i64 1) (exec_load 3 _ rfl ⟨gk41, 0, none⟩ (by kernel_rfl) (.int .i64 1) (load_one ((HF.out.box 8 _ _ _ rfl).cell 0 |>.trans (by kernel_rfl)) Try.und3 rfl)) ?_
                try simp only [pA, pB, p1, p2, p3]
                refine iW (.bool false) (exec_bin .eql 3 _ _ _ rfl (.int .i64 1) (.int .i64 0) (.bool false) (by kernel_rfl) (by kernel_rfl) (by kernel_rfl) (by kernel_rfl)) ?_
                try simp only [pA, pB, p1, p2, p3]
                refine iK (.bool false) ?_
                try simp only [pA, pB, p1, p2, p3]
                refine iZ ?_
                try simp only [pA, pB, p1, p2, p3]
                refine iZ ?_
                try simp only [pA, pB, p1, p2, p3]
                refine iZ ?_
                try simp only [pA, pB, p1, p2, p3]
                refine iK (.bool false) ?_
                try simp only [pA, pB, p1, p2, p3]
                refine WI.nil ?_
                try simp only [pA, pB, p1, p2, p3]
                gi_wp2
                exact ⟨by rw [HBB.out]; exact HKF.out, HKN.out, (show Sq w [(gk1, 26, Bv.cells ⟨up, ⟨ea, en, ec⟩, ⟨la, ln, lc⟩⟩), (gk3, 3, #[.int .i64 stop]), (gk5, 4, #[.bool false]), (gk11, 26, Bv.cells ⟨up, ⟨ma0, mn0, mc0⟩, ⟨la0, ln0, lc0⟩⟩), (gk15, 56, #[.func (.func 30) #[] #[.pointer (some ⟨lb, 0, none⟩)]]), (gk19, 23, #[.slice ma ns.length mc]), (gk23, 3, #[.int .i64 0]), (gk26, 3, #[.int .i64 ((nv0 : Nat) : Int)]), (gk41, 3, #[.int .i64 1]), (gk45, 3, #[.int .i64 (((pre ++ [(⟨x, hx⟩ : { x : En // x ∈ ns })]).length : Nat) : Int)])] lb sa sc ma mc ns [D0] wk55 from by rw [HLn.out]; exact Sq.front (l := [(gk1, 26, Bv.cells ⟨up, ⟨ea, en, ec⟩, ⟨la, ln, lc⟩⟩), (gk3, 3, #[.int .i64 stop]), (gk5, 4, #[.bool false]), (gk11, 26, Bv.cells ⟨up, ⟨ma0, mn0, mc0⟩, ⟨la0, ln0, lc0⟩⟩), (gk15, 56, #[.func (.func 30) #[] #[.pointer (some ⟨lb, 0, none⟩)]]), (gk19, 23, #[.slice ma ns.length mc]), (gk23, 3, #[.int .i64 0]), (gk26, 3, #[.int .i64 ((nv0 : Nat) : Int)]), (gk41, 3, #[.int .i64 1]), (gk45, 3, #[.int .i64 (((p + 1) : Nat) : Int)])]) (m := [(gk51, 3, #[.int .i64 ((jp3 : Nat) : Int)])]) HSQ.out)⟩
              case body2 =>
                rintro l2 pre2 ⟨y2, hy2⟩ vb2 W2 hl2 hlo2 ⟨hI2, hKK, hKFo⟩ hbv2 hlen2
                have HKNo : Hid (Kept (NB lb sa) W' W2) := hKK
                have HKFo : Hid (KeepsFrom B1 W' W2) := hKFo
                have HSQ : Hid (Sq w [(gk1, 26, Bv.cells ⟨up, ⟨ea, en, ec⟩, ⟨la, ln, lc⟩⟩), (gk3, 3, #[.int .i64 stop]), (gk5, 4, #[.bool false]), (gk11, 26, Bv.cells ⟨up, ⟨ma0, mn0, mc0⟩, ⟨la0, ln0, lc0⟩⟩), (gk15, 56, #[.func (.func 30) #[] #[.pointer (some ⟨lb, 0, none⟩)]]), (gk19, 23, #[.slice ma ns.length mc]), (gk23, 3, #[.int .i64 0]), (gk26, 3, #[.int .i64 ((nv0 : Nat) : Int)]), (gk41, 3, #[.int .i64 1]), (gk45, 3, #[.int .i64 ((p : Nat) : Int)]), (gk51, 3, #[.int .i64 ((pre2.length : Nat) : Int)])] lb sa sc ma mc ns [D0] W2) := hI2
                have HV2 : Hid (Box W2 vb2 34 (En.cells y2)) := hbv2
                have HKN : Hid (Kept (NB lb sa) W2 W2) := Kept.refl _ _
                have HKF : Hid (KeepsFrom B1 W2 W2) := KeepsFrom.refl _ _
                have HF : Hid (Fr No w W2 [(gk1, 26, Bv.cells ⟨up, ⟨ea, en, ec⟩, ⟨la, ln, lc⟩⟩), (gk3, 3, #[.int .i64 stop]), (gk5, 4, #[.bool false]), (gk11, 26, Bv.cells ⟨up, ⟨ma0, mn0, mc0⟩, ⟨la0, ln0, lc0⟩⟩), (gk15, 56, #[.func (.func 30) #[] #[.pointer (some ⟨lb, 0, none⟩)]]), (gk19, 23, #[.slice ma ns.length mc]), (gk23, 3, #[.int .i64 0]), (gk26, 3, #[.int .i64 ((nv0 : Nat) : Int)]), (gk41, 3, #[.int .i64 1]), (gk45, 3, #[.int .i64 ((p : Nat) : Int)]), (gk51, 3, #[.int .i64 ((pre2.length : Nat) : Int)])]) := hI2.fr
                have hlen2 : pre2.length < ns.length := hlen2
                have HPy : Hid (¬ y2 = eAt ns pre2.length → ¬ vals (pre2 ++ [(⟨y2, hy2⟩ : { x : En // x ∈ ns })]) <+: ns) := fun h9 hp => h9 (by rw [vals_snoc] at hp; have h8 := pre_is hp; rw [vals_len, eAt_some hlen2] at h8; exact (Option.some.inj h8).symm)
                have HLn2 : Hid ((pre2 ++ [(⟨y2, hy2⟩ : { x : En // x ∈ ns })]).length = pre2.length + 1) := by show _ = _; simp
                obtain ⟨jp2, hp2⟩ : ∃ jp2, jp2 = pre2.length := ⟨_, rfl⟩
                rw [← hp2] at HSQ HF HPy HLn2 hlen2
                clear hI2 hbv2 hp2 hKK hKFo hlo2 hrc
                obtain ⟨pb2, po2, hca, hcc⟩ := (show Es W2 ma ns from HSQ.out.wt.rd.row).at hlen2
                have hsl2 : Hid (Value.slice ma ns.length mc = .slice (some ⟨pb2, po2, none⟩) ns.length mc) := congrArg (fun y => Value.slice y ns.length mc) hca
                obtain ⟨z2, hz2⟩ : ∃ z2, z2 = eAt ns jp2 := ⟨_, rfl⟩
                rw [← hz2] at hcc HPy
                have HCC2 : Hid (∀ (j : Nat) v, (En.cs z2)[j]? = some v → W2.cell? ⟨pb2, po2 + jp2 * 4 + j, none⟩ = some v) := show ∀ (j : Nat) v, (En.cs z2)[j]? = some v → W2.cell? ⟨pb2, po2 + jp2 * 4 + j, none⟩ = some v from hcc
                clear hca hcc hz2
                simp only
                gi_upto_region 23 with fail
                refine region_round (F := Fence.wide) rfl hmix (by kernel_rfl) (by kernel_rfl) ?_
                refine qT (.int .i64 ((jp2 : Nat) : Int)) (fun w' hw => exec_load 3 _ rfl ⟨gk51, 0, none⟩ (by kernel_rfl) (.int .i64 ((jp2 : Nat) : Int)) (load_one (((HF.out.box 10 _ _ _ rfl).kept (qk hw) (fun e => e)).cell 0 |>.trans (by kernel_rfl)) Try.und3 rfl)) ?_
                try simp only [pA, pB, p1, p2, p3]
                refine qT (.slice ma ns.length mc) (fun w' hw => exec_load 23 _ rfl ⟨gk19, 0, none⟩ (by kernel_rfl) (.slice ma ns.length mc) (load_one (((HF.out.box 5 _ _ _ rfl).kept (qk hw) (fun e => e)).cell 0 |>.trans (by kernel_rfl)) Try.und22 rfl)) ?_
                try simp only [pA, pB, p1, p2, p3]
                refine qK (.int .i64 ((ns.length : Nat) : Int)) ?_
                try simp only [pA, pB, p1, p2, p3]
                refine qT (.bool false) (fun w' hw => exec_bin .geq 3 _ _ _ rfl (.int .i64 ((jp2 : Nat) : Int)) (.int .i64 ((ns.length : Nat) : Int)) (.bool false) (by kernel_rfl) (by kernel_rfl) (by kernel_rfl) (by rw [b_geq, decide_eq_false (by omega)])) ?_
                try simp only [pA, pB, p1, p2, p3]
                refine qK (.bool false) ?_
                try simp only [pA, pB, p1, p2, p3]
                refine qT (.agg (En.cells y2)) (fun w' hw => exec_load 34 _ rfl ⟨vb2, 0, none⟩ (by kernel_rfl) (.agg (En.cells y2)) (ld54 (HV2.out.kept (qk hw) (fun e => e)))) ?_
                try simp only [pA, pB, p1, p2, p3]
                refine qT (.slice ma ns.length mc) (fun w' hw => exec_load 23 _ rfl ⟨gk19, 0, none⟩ (by kernel_rfl) (.slice ma ns.length mc) (load_one (((HF.out.box 5 _ _ _ rfl).kept (qk hw) (fun e => e)).cell 0 |>.trans (by kernel_rfl)) Try.und22 rfl)) ?_
                try simp only [pA, pB, p1, p2, p3]
                refine qT (.int .i64 ((jp2 : Nat) : Int)) (fun w' hw => exec_load 3 _ rfl ⟨gk51, 0, none⟩ (by kernel_rfl) (.int .i64 ((jp2 : Nat) : Int)) (load_one (((HF.out.box 10 _ _ _ rfl).kept (qk hw) (fun e => e)).cell 0 |>.trans (by kernel_rfl)) Try.und3 rfl)) ?_
                try simp only [pA, pB, p1, p2, p3]
                refine qT (.pointer (some ⟨pb2, po2 + jp2 * 4, none⟩)) (fun w' hw => exec_ixA 23 4 Try.und22e Try.size22e _ _ rfl pb2 po2 ns.length mc jp2 (Eq.trans (b := .slice ma ns.length mc) (by kernel_rfl) hsl2.out) (by kernel_rfl) hlen2) ?_
                try simp only [pA, pB, p1, p2, p3]
                refine qT (.agg (En.cells z2)) (fun w' hw => exec_load 34 _ rfl ⟨pb2, po2 + jp2 * 4, none⟩ (by kernel_rfl) (.agg (En.cells z2)) (load_E (fun j v hv => (qk hw).cell (HCC2.out j v hv) (fun e => e)))) ?_
                try simp only [pA, pB, p1, p2, p3]
                cases q8 : (eqE y2 z2)
                ·skip
                 refine qT (.bool true) (fun w' hw => exec_bin .neq 34 _ _ _ rfl (.agg (En.cells y2)) (.agg (En.cells z2)) (.bool true) (by kernel_rfl) (by kernel_rfl) (by kernel_rfl) (by rw [eqE_neq, q8]; try rfl)) ?_
                 try simp only [pA, pB, p1, p2, p3]
                 refine qK (.bool true) ?_
                 try simp only [pA, pB, p1, p2, p3]
                 refine wpQuietIn_nil ?_
                 intro w9 hw9
                 obtain ⟨nq, rfl⟩ := hw9
                 have HSQ : Hid (Sq w [(gk1, 26, Bv.cells ⟨up, ⟨ea, en, ec⟩, ⟨la, ln, lc⟩⟩), (gk3, 3, #[.int .i64 stop]), (gk5, 4, #[.bool false]), (gk11, 26, Bv.cells ⟨up, ⟨ma0, mn0, mc0⟩, ⟨la0, ln0, lc0⟩⟩), (gk15, 56, #[.func (.func 30) #[] #[.pointer (some ⟨lb, 0, none⟩)]]), (gk19, 23, #[.slice ma ns.length mc]), (gk23, 3, #[.int .i64 0]), (gk26, 3, #[.int .i64 ((nv0 : Nat) : Int)]), (gk41, 3, #[.int .i64 1]), (gk45, 3, #[.int .i64 ((p : Nat) : Int)]), (gk51, 3, #[.int .i64 ((jp2 : Nat) : Int)])] lb sa sc ma mc ns [D0] (W2.drewN nq)) := HSQ.out.no (Kept.no_drewN _ nq)
                 have HKN : Hid (Kept (NB lb sa) W2 (W2.drewN nq)) := HKN.out.then (Kept.no_drewN _ nq).of_no
                 have HKF : Hid (KeepsFrom B1 W2 (W2.drewN nq)) := HKF.out.trans ((keepsN _ nq).from _)
                 have HF : Hid (Fr No w (W2.drewN nq) [(gk1, 26, Bv.cells ⟨up, ⟨ea, en, ec⟩, ⟨la, ln, lc⟩⟩), (gk3, 3, #[.int .i64 stop]), (gk5, 4, #[.bool false]), (gk11, 26, Bv.cells ⟨up, ⟨ma0, mn0, mc0⟩, ⟨la0, ln0, lc0⟩⟩), (gk15, 56, #[.func (.func 30) #[] #[.pointer (some ⟨lb, 0, none⟩)]]), (gk19, 23, #[.slice ma ns.length mc]), (gk23, 3, #[.int .i64 0]), (gk26, 3, #[.int .i64 ((nv0 : Nat) : Int)]), (gk41, 3, #[.int .i64 1]), (gk45, 3, #[.int .i64 ((p : Nat) : Int)]), (gk51, 3, #[.int .i64 ((jp2 : Nat) : Int)])]) := HSQ.out.fr
                 generalize W2.drewN nq = wk56 at HF HSQ HKN HKF ⊢
                 have hne : ¬ y2 = z2 := fun e => by rw [e, eqE_iff.2 rfl] at q8; cases q8
                 gi_upto_region 24 with fail
                 refine WI.start ?_
                 refine wi_store 4 _ _ rfl ⟨gk5, 0, none⟩ (.bool false) (by kernel_rfl) (by kernel_rfl) (wk56.setRow gk5 (#[.bool false])) (run_store_to (cur := [.bool false]) (vs := [.bool false]) (new := [.bool false]) (HF.out.box 2 _ _ _ rfl) (by kernel_rfl) Try.size4 (Nat.le_of_ble_eq_true (by kernel_rfl)) (by simp [Value.oneCell', Sl.v]) (by kernel_rfl)) (by kernel_rfl) ?_
                 try simp only [pA, pB, p1, p2, p3]
                 have hset := HSQ.out.set 2 rfl (.inr rfl) (#[.bool false])
                 have HKF : Hid (KeepsFrom B1 W2 (wk56.setRow gk5 (#[.bool false]))) := HKF.out.trans ((keepsRow (HF.out.box 2 _ _ _ rfl) _).from _)
                 have HSQ : Hid (Sq w [(gk1, 26, Bv.cells ⟨up, ⟨ea, en, ec⟩, ⟨la, ln, lc⟩⟩), (gk3, 3, #[.int .i64 stop]), (gk5, 4, #[.bool false]), (gk11, 26, Bv.cells ⟨up, ⟨ma0, mn0, mc0⟩, ⟨la0, ln0, lc0⟩⟩), (gk15, 56, #[.func (.func 30) #[] #[.pointer (some ⟨lb, 0, none⟩)]]), (gk19, 23, #[.slice ma ns.length mc]), (gk23, 3, #[.int .i64 0]), (gk26, 3, #[.int .i64 ((nv0 : Nat) : Int)]), (gk41, 3, #[.int .i64 1]), (gk45, 3, #[.int .i64 ((p : Nat) : Int)]), (gk51, 3, #[.int .i64 ((jp2 : Nat) : Int)])] lb sa sc ma mc ns [D0] (wk56.setRow gk5 (#[.bool false]))) := hset.1
                 have HKN : Hid (Kept (NB lb sa) W2 (wk56.setRow gk5 (#[.bool false]))) := HKN.out.then hset.2
                 clear hset
                 have HF : Hid (Fr No w (wk56.setRow gk5 (#[.bool false])) [(gk1, 26, Bv.cells ⟨up, ⟨ea, en, ec⟩, ⟨la, ln, lc⟩⟩), (gk3, 3, #[.int .i64 stop]), (gk5, 4, #[.bool false]), (gk11, 26, Bv.cells ⟨up, ⟨ma0, mn0, mc0⟩, ⟨la0, ln0, lc0⟩⟩), (gk15, 56, #[.func (.func 30) #[] #[.pointer (some ⟨lb, 0, none⟩)]]), (gk19, 23, #[.slice ma ns.length mc]), (gk23, 3, #[.int .i64 0]), (gk26, 3, #[.int .i64 ((nv0 : Nat) : Int)]), (gk41, 3, #[.int .i64 1]), (gk45, 3, #[.int .i64 ((p : Nat) : Int)]), (gk51, 3, #[.int .i64 ((jp2 : Nat) : Int)])]) := HSQ.out.fr
                 generalize wk56.setRow gk5 (#[.bool false]) = wk57 at HF HSQ HKN HKF ⊢
                 refine WI.nil ?_
                 try simp only [pA, pB, p1, p2, p3]
                 gi_wp2
                 exact ⟨(kf_mono HKF.out hBi), .inl ⟨rfl, HPy.out hne⟩⟩
                ·skip
                 refine qT (.bool false) (fun w' hw => exec_bin .neq 34 _ _ _ rfl (.agg (En.cells y2)) (.agg (En.cells z2)) (.bool false) (by kernel_rfl) (by kernel_rfl) (by kernel_rfl) (by rw [eqE_neq, q8]; try rfl)) ?_
                 try simp only [pA, pB, p1, p2, p3]
                 refine qK (.bool false) ?_
                 try simp only [pA, pB, p1, p2, p3]
                 refine wpQuietIn_nil ?_
                 intro w9 hw9
                 obtain ⟨nq, rfl⟩ := hw9
                 have HSQ : Hid (Sq w [(gk1, 26, Bv.cells ⟨up, ⟨ea, en, ec⟩, ⟨la, ln, lc⟩⟩), (gk3, 3, #[.int .i64 stop]), (gk5, 4, #[.bool false]), (gk11, 26, Bv.cells ⟨up, ⟨ma0, mn0, mc0⟩, ⟨la0, ln0, lc0⟩⟩), (gk15, 56, #[.func (.func 30) #[] #[.pointer (some ⟨lb, 0, none⟩)]]), (gk19, 23, #[.slice ma ns.length mc]), (gk23, 3, #[.int .i64 0]), (gk26, 3, #[.int .i64 ((nv0 : Nat) : Int)]), (gk41, 3, #[.int .i64 1]), (gk45, 3, #[.int .i64 ((p : Nat) : Int)]), (gk51, 3, #[.int .i64 ((jp2 : Nat) : Int)])] lb sa sc ma mc ns [D0] (W2.drewN nq)) := HSQ.out.no (Kept.no_drewN _ nq)
                 have HKN : Hid (Kept (NB lb sa) W2 (W2.drewN nq)) := HKN.out.then (Kept.no_drewN _ nq).of_no
                 have HKF : Hid (KeepsFrom B1 W2 (W2.drewN nq)) := HKF.out.trans ((keepsN _ nq).from _)
                 have HF : Hid (Fr No w (W2.drewN nq) [(gk1, 26, Bv.cells ⟨up, ⟨ea, en, ec⟩, ⟨la, ln, lc⟩⟩), (gk3, 3, #[.int .i64 stop]), (gk5, 4, #[.bool false]), (gk11, 26, Bv.cells ⟨up, ⟨ma0, mn0, mc0⟩, ⟨la0, ln0, lc0⟩⟩), (gk15, 56, #[.func (.func 30) #[] #[.pointer (some ⟨lb, 0, none⟩)]]), (gk19, 23, #[.slice ma ns.length mc]), (gk23, 3, #[.int .i64 0]), (gk26, 3, #[.int .i64 ((nv0 : Nat) : Int)]), (gk41, 3, #[.int .i64 1]), (gk45, 3, #[.int .i64 ((p : Nat) : Int)]), (gk51, 3, #[.int .i64 ((jp2 : Nat) : Int)])]) := HSQ.out.fr
                 generalize W2.drewN nq = wk58 at HF HSQ HKN HKF ⊢
                 gi_upto_region 25 with fail
                 refine WI.start ?_
                 refine iW (.int .i64 ((jp2 : Nat) : Int)) (exec_load 3 _ rfl ⟨gk51, 0, none⟩ (by kernel_rfl) (.int .i64 ((jp2 : Nat) : Int)) (load_one ((HF.out.box 10 _ _ _ rfl).cell 0 |>.trans (by kernel_rfl)) Try.und3 rfl)) ?_
                 try simp only [pA, pB, p1, p2, p3]
                 refine iW (.int .i64 (((jp2 + 1) : Nat) : Int)) (exec_bin .add 3 _ _ _ rfl (.int .i64 ((jp2 : Nat) : Int)) (.int .i64 1) (.int .i64 (((jp2 + 1) : Nat) : Int)) (by kernel_rfl) (by kernel_rfl) (by kernel_rfl) (b_addw _ _ _ (by rw [IntKind.wrap_i64]; omega) _)) ?_
                 try simp only [pA, pB, p1, p2, p3]
                 refine wi_store 3 _ _ rfl ⟨gk51, 0, none⟩ (.int .i64 (((jp2 + 1) : Nat) : Int)) (by kernel_rfl) (by kernel_rfl) (wk58.setRow gk51 (#[.int .i64 (((jp2 + 1) : Nat) : Int)])) (run_store_to (cur := [.int .i64 ((jp2 : Nat) : Int)]) (vs := [.int .i64 (((jp2 + 1) : Nat) : Int)]) (new := [.int .i64 (((jp2 + 1) : Nat) : Int)]) (HF.out.box 10 _ _ _ rfl) (by kernel_rfl) Try.size3 (Nat.le_of_ble_eq_true (by kernel_rfl)) (by simp [Value.oneCell', Sl.v]) (by kernel_rfl)) (by kernel_rfl) ?_
                 try simp only [pA, pB, p1, p2, p3]
                 have hset := HSQ.out.set 10 rfl (.inl rfl) (#[.int .i64 (((jp2 + 1) : Nat) : Int)])
                 have HKF : Hid (KeepsFrom B1 W2 (wk58.setRow gk51 (#[.int .i64 (((jp2 + 1) : Nat) : Int)]))) := HKF.out.trans ((keepsRow (HF.out.box 10 _ _ _ rfl) _).from _)
                 have HSQ : Hid (Sq w [(gk1, 26, Bv.cells ⟨up, ⟨ea, en, ec⟩, ⟨la, ln, lc⟩⟩), (gk3, 3, #[.int .i64 stop]), (gk5, 4, #[.bool false]), (gk11, 26, Bv.cells ⟨up, ⟨ma0, mn0, mc0⟩, ⟨la0, ln0, lc0⟩⟩), (gk15, 56, #[.func (.func 30) #[] #[.pointer (some ⟨lb, 0, none⟩)]]), (gk19, 23, #[.slice ma ns.length mc]), (gk23, 3, #[.int .i64 0]), (gk26, 3, #[.int .i64 ((nv0 : Nat) : Int)]), (gk41, 3, #[.int .i64 1]), (gk45, 3, #[.int .i64 ((p : Nat) : Int)]), (gk51, 3, #[.int .i64 (((jp2 + 1) : Nat) : Int)])] lb sa sc ma mc ns [D0] (wk58.setRow gk51 (#[.int .i64 (((jp2 + 1) : Nat) : Int)]))) := hset.1
                 have HKN : Hid (Kept (NB lb sa) W2 (wk58.setRow gk51 (#[.int .i64 (((jp2 + 1) : Nat) : Int)]))) := HKN.out.then hset.2
                 clear hset
                 have HF : Hid (Fr No w (wk58.setRow gk51 (#[.int .i64 (((jp2 + 1) : Nat) : Int)])) [(gk1, 26, Bv.cells ⟨up, ⟨ea, en, ec⟩, ⟨la, ln, lc⟩⟩), (gk3, 3, #[.int .i64 stop]), (gk5, 4, #[.bool false]), (gk11, 26, Bv.cells ⟨up, ⟨ma0, mn0, mc0⟩, ⟨la0, ln0, lc0⟩⟩), (gk15, 56, #[.func (.func 30) #[] #[.pointer (some ⟨lb, 0, none⟩)]]), (gk19, 23, #[.slice ma ns.length mc]), (gk23, 3, #[.int .i64 0]), (gk26, 3, #[.int .i64 ((nv0 : Nat) : Int)]), (gk41, 3, #[.int .i64 1]), (gk45, 3, #[.int .i64 ((p : Nat) : Int)]), (gk51, 3, #[.int .i64 (((jp2 + 1) : Nat) : Int)])]) := HSQ.out.fr
                 generalize wk58.setRow gk51 (#[.int .i64 (((jp2 + 1) : Nat) : Int)]) = wk59 at HF HSQ HKN HKF ⊢
                 refine WI.nil ?_
                 try simp only [pA, pB, p1, p2, p3]
                 gi_upto_region 26 with fail
                 refine WI.start ?_
                 refine iW (.int .i64 (((jp2 + 1) : Nat) : Int)) (exec_load 3 _ rfl ⟨gk51, 0, none⟩ (by kernel_rfl) (.int .i64 (((jp2 + 1) : Nat) : Int)) (load_one ((HF.out.box 10 _ _ _ rfl).cell 0 |>.trans (by kernel_rfl)) Try.und3 rfl)) ?_
                 try simp only [pA, pB, p1, p2, p3]
                 cases q9 : (decide (2 < (((jp2 + 1) : Nat) : Int)))
                 ·skip
                  refine iW (.bool false) (exec_bin .gtr 3 _ _ _ rfl (.int .i64 (((jp2 + 1) : Nat) : Int)) (.int .i64 2) (.bool false) (by kernel_rfl) (by kernel_rfl) (by kernel_rfl) (by rw [b_gtr, q9]; try rfl)) ?_
                  try simp only [pA, pB, p1, p2, p3]
                  refine WI.nil ?_
                  try simp only [pA, pB, p1, p2, p3]
                  gi_wp2
                  exact ⟨(kf_mono HKF.out hBi), HKN.out, (show Sq w [(gk1, 26, Bv.cells ⟨up, ⟨ea, en, ec⟩, ⟨la, ln, lc⟩⟩), (gk3, 3, #[.int .i64 stop]), (gk5, 4, #[.bool false]), (gk11, 26, Bv.cells ⟨up, ⟨ma0, mn0, mc0⟩, ⟨la0, ln0, lc0⟩⟩), (gk15, 56, #[.func (.func 30) #[] #[.pointer (some ⟨lb, 0, none⟩)]]), (gk19, 23, #[.slice ma ns.length mc]), (gk23, 3, #[.int .i64 0]), (gk26, 3, #[.int .i64 ((nv0 : Nat) : Int)]), (gk41, 3, #[.int .i64 1]), (gk45, 3, #[.int .i64 ((p : Nat) : Int)]), (gk51, 3, #[.int .i64 (((pre2 ++ [(⟨y2, hy2⟩ : { x : En // x ∈ ns })]).length : Nat) : Int)])] lb sa sc ma mc ns [D0] wk59 from by rw [HLn2.out]; exact HSQ.out), HKNo.out.then HKN.out, HKFo.out.trans HKF.out⟩
                 ·skip
                  refine iW (.bool true) (exec_bin .gtr 3 _ _ _ rfl (.int .i64 (((jp2 + 1) : Nat) : Int)) (.int .i64 2) (.bool true) (by kernel_rfl) (by kernel_rfl) (by kernel_rfl) (by rw [b_gtr, q9]; try rfl)) ?_
                  try simp only [pA, pB, p1, p2, p3]
                  refine WI.nil ?_
                  try simp only [pA, pB, p1, p2, p3]
                  gi_wp2
                  exact ⟨(kf_mono HKF.out hBi), .inr ⟨rfl, (show Sq w [(gk1, 26, Bv.cells ⟨up, ⟨ea, en, ec⟩, ⟨la, ln, lc⟩⟩), (gk3, 3, #[.int .i64 stop]), (gk5, 4, #[.bool false]), (gk11, 26, Bv.cells ⟨up, ⟨ma0, mn0, mc0⟩, ⟨la0, ln0, lc0⟩⟩), (gk15, 56, #[.func (.func 30) #[] #[.pointer (some ⟨lb, 0, none⟩)]]), (gk19, 23, #[.slice ma ns.length mc]), (gk23, 3, #[.int .i64 0]), (gk26, 3, #[.int .i64 ((nv0 : Nat) : Int)]), (gk41, 3, #[.int .i64 1]), (gk45, 3, #[.int .i64 ((p : Nat) : Int)]), (gk51, 3, #[.int .i64 (((pre2 ++ [(⟨y2, hy2⟩ : { x : En // x ∈ ns })]).length : Nat) : Int)])] lb sa sc ma mc ns [D0] wk59 from by rw [HLn2.out]; exact HSQ.out), HKNo.out.then HKN.out, HKFo.out.trans HKF.out⟩⟩
         · clear HSQ HF hB1
           rintro D1 W1 ⟨hD1, hdf1, nv1, hnv1, hsq1⟩
           have hDw1 : w.heap.size ≤ D1 := Nat.le_trans hBw1 hD1
           have hDn1 : D1 ∉ ([D0] : List Nat) := fun h9 => by have h8 := hDs1 _ h9; omega
           have HSQ : Hid (Sq w [(gk1, 26, Bv.cells ⟨up, ⟨ea, en, ec⟩, ⟨la, ln, lc⟩⟩), (gk3, 3, #[.int .i64 stop]), (gk5, 4, #[.bool false]), (gk11, 26, Bv.cells ⟨up, ⟨ma0, mn0, mc0⟩, ⟨la0, ln0, lc0⟩⟩), (gk15, 56, #[.func (.func 30) #[] #[.pointer (some ⟨lb, 0, none⟩)]]), (gk19, 23, #[.slice ma ns.length mc]), (gk23, 3, #[.int .i64 0]), (gk26, 3, #[.int .i64 ((nv0 : Nat) : Int)]), (gk41, 3, #[.int .i64 1]), (gk45, 3, #[.int .i64 ((nv1 : Nat) : Int)])] lb sa sc ma mc ns [D1, D0] W1) := ⟨hsq1.fr, hsq1.sq, hsq1.wt, fun D hD => by rcases List.mem_cons.1 hD with e | e; rw [e]; exact hdf1; exact hsq1.df D e⟩
           have HF : Hid (Fr No w W1 [(gk1, 26, Bv.cells ⟨up, ⟨ea, en, ec⟩, ⟨la, ln, lc⟩⟩), (gk3, 3, #[.int .i64 stop]), (gk5, 4, #[.bool false]), (gk11, 26, Bv.cells ⟨up, ⟨ma0, mn0, mc0⟩, ⟨la0, ln0, lc0⟩⟩), (gk15, 56, #[.func (.func 30) #[] #[.pointer (some ⟨lb, 0, none⟩)]]), (gk19, 23, #[.slice ma ns.length mc]), (gk23, 3, #[.int .i64 0]), (gk26, 3, #[.int .i64 ((nv0 : Nat) : Int)]), (gk41, 3, #[.int .i64 1]), (gk45, 3, #[.int .i64 ((nv1 : Nat) : Int)])]) := HSQ.out.fr
           clear hsq1 hdf1
           have HSQ0 : Hid (Sq w [(gk1, 26, Bv.cells ⟨up, ⟨ea, en, ec⟩, ⟨la, ln, lc⟩⟩), (gk3, 3, #[.int .i64 stop]), (gk5, 4, #[.bool false]), (gk11, 26, Bv.cells ⟨up, ⟨ma0, mn0, mc0⟩, ⟨la0, ln0, lc0⟩⟩), (gk15, 56, #[.func (.func 30) #[] #[.pointer (some ⟨lb, 0, none⟩)]]), (gk19, 23, #[.slice ma ns.length mc]), (gk23, 3, #[.int .i64 0]), (gk26, 3, #[.int .i64 ((nv0 : Nat) : Int)]), (gk41, 3, #[.int .i64 1]), (gk45, 3, #[.int .i64 ((nv1 : Nat) : Int)])] lb sa sc ma mc ns [D1, D0] W1) := HSQ
           clear HSQ
           have HK0 : Hid (Kept No W1 W1) := Kept.refl _ _
           obtain ⟨s0, hs0⟩ : ∃ n, W1.heap.size = n := ⟨_, rfl⟩
           have HS0 : Hid (W1.heap.size = s0) := hs0
           clear hs0
           go_upto_region 29 with fail
           refine WL.start ?_
           refine tW (.int .i64 1) (exec_load 3 _ rfl ⟨gk41, 0, none⟩ (by kernel_rfl) (.int .i64 1) (load_one ((HF.out.box 8 _ _ _ rfl).cell 0 |>.trans (by kernel_rfl)) Try.und3 rfl)) ?_
           try simp only [pA, pB, p1, p2, p3]
           refine tW (.bool true) (exec_bin .gtr 3 _ _ _ rfl (.int .i64 1) (.int .i64 0) (.bool true) (by kernel_rfl) (by kernel_rfl) (by kernel_rfl) (by kernel_rfl)) ?_
           try simp only [pA, pB, p1, p2, p3]
           refine tK (.bool true) ?_
           try simp only [pA, pB, p1, p2, p3]
           refine tW (.int .i64 ((nv1 : Nat) : Int)) (exec_load 3 _ rfl ⟨gk45, 0, none⟩ (by kernel_rfl) (.int .i64 ((nv1 : Nat) : Int)) (load_one ((HF.out.box 9 _ _ _ rfl).cell 0 |>.trans (by kernel_rfl)) Try.und3 rfl)) ?_
           try simp only [pA, pB, p1, p2, p3]
           refine tW (.slice ma ns.length mc) (exec_load 23 _ rfl ⟨gk19, 0, none⟩ (by kernel_rfl) (.slice ma ns.length mc) (load_one ((HF.out.box 5 _ _ _ rfl).cell 0 |>.trans (by kernel_rfl)) Try.und22 rfl)) ?_
           try simp only [pA, pB, p1, p2, p3]
           refine tK (.int .i64 ((ns.length : Nat) : Int)) ?_
           try simp only [pA, pB, p1, p2, p3]
           refine tW (.bool false) (exec_bin .neq 3 _ _ _ rfl (.int .i64 ((nv1 : Nat) : Int)) (.int .i64 ((ns.length : Nat) : Int)) (.bool false) (by kernel_rfl) (by kernel_rfl) (by kernel_rfl) (by rw [b_neq, hnv1, beq_self_eq_true]; rfl)) ?_
           try simp only [pA, pB, p1, p2, p3]
           refine tK (.bool false) ?_
           try simp only [pA, pB, p1, p2, p3]
           refine WL.nil ?_
           try simp only [pA, pB, p1, p2, p3]
           go_upto_region 31 with fail
           refine WL.start ?_
           refine tW (.int .i64 1) (exec_load 3 _ rfl ⟨gk41, 0, none⟩ (by kernel_rfl) (.int .i64 1) (load_one ((HF.out.box 8 _ _ _ rfl).cell 0 |>.trans (by kernel_rfl)) Try.und3 rfl)) ?_
           try simp only [pA, pB, p1, p2, p3]
           refine WL.nil ?_
           try simp only [pA, pB, p1, p2, p3]
           go_upto_region 32 with fail
           refine WL.start ?_
           refine wp_runW (.pointer (some ⟨W1.heap.size, 0, none⟩)) (W1.alloc (.cells (#[.int .i64 0]) 3)) (exec_alloc1 3 rfl (.int .i64 0) rfl zero3) (by kernel_rfl) ?_
           try simp only [pA, pB, p1, p2, p3]
           have hx0_gk60 : s0 ≤ W1.heap.size := by rw [← HS0.out]; exact HK0.out.size
           have HK0 : Hid (Kept No W1 (W1.alloc (.cells (#[.int .i64 0]) 3))) := HK0.out.no ((Kept.refl No _).alloc _)
           have HF : Hid (Fr No w (W1.alloc (.cells (#[.int .i64 0]) 3)) [(gk1, 26, Bv.cells ⟨up, ⟨ea, en, ec⟩, ⟨la, ln, lc⟩⟩), (gk3, 3, #[.int .i64 stop]), (gk5, 4, #[.bool false]), (gk11, 26, Bv.cells ⟨up, ⟨ma0, mn0, mc0⟩, ⟨la0, ln0, lc0⟩⟩), (gk15, 56, #[.func (.func 30) #[] #[.pointer (some ⟨lb, 0, none⟩)]]), (gk19, 23, #[.slice ma ns.length mc]), (gk23, 3, #[.int .i64 0]), (gk26, 3, #[.int .i64 ((nv0 : Nat) : Int)]), (gk41, 3, #[.int .i64 1]), (gk45, 3, #[.int .i64 ((nv1 : Nat) : Int)]), (W1.heap.size, 3, #[.int .i64 0])]) := HF.out.alloc _ _
           generalize W1.alloc (.cells (#[.int .i64 0]) 3) = wk61 at HF HK0 ⊢
           generalize W1.heap.size = gk60 at HF hx0_gk60 ⊢
           refine wp_storeW 3 _ _ rfl ⟨gk60, 0, none⟩ (.int .i64 1) (by kernel_rfl) (by kernel_rfl) (wk61.setRow gk60 (#[.int .i64 1])) (run_store_to (cur := [.int .i64 0]) (vs := [.int .i64 1]) (new := [.int .i64 1]) (HF.out.box 10 _ _ _ rfl) (by kernel_rfl) Try.size3 (Nat.le_of_ble_eq_true (by kernel_rfl)) (by simp [Value.oneCell', Sl.v]) (by kernel_rfl)) (by kernel_rfl) ?_
           try simp only [pA, pB, p1, p2, p3]
           have HK0 : Hid (Kept No W1 (wk61.setRow gk60 (#[.int .i64 1]))) := HK0.out.newRow (by rw [HS0.out]; exact hx0_gk60) _
           have HF : Hid (Fr No w (wk61.setRow gk60 (#[.int .i64 1])) [(gk1, 26, Bv.cells ⟨up, ⟨ea, en, ec⟩, ⟨la, ln, lc⟩⟩), (gk3, 3, #[.int .i64 stop]), (gk5, 4, #[.bool false]), (gk11, 26, Bv.cells ⟨up, ⟨ma0, mn0, mc0⟩, ⟨la0, ln0, lc0⟩⟩), (gk15, 56, #[.func (.func 30) #[] #[.pointer (some ⟨lb, 0, none⟩)]]), (gk19, 23, #[.slice ma ns.length mc]), (gk23, 3, #[.int .i64 0]), (gk26, 3, #[.int .i64 ((nv0 : Nat) : Int)]), (gk41, 3, #[.int .i64 1]), (gk45, 3, #[.int .i64 ((nv1 : Nat) : Int)]), (gk60, 3, #[.int .i64 1])]) := HF.out.set 10 rfl _
           generalize wk61.setRow gk60 (#[.int .i64 1]) = wk62 at HF HK0 ⊢
           refine WL.nil ?_
           try simp only [pA, pB, p1, p2, p3]
           go_upto_region 14 with fail
           refine WL.start ?_
           refine tW (.int .i64 1) (exec_load 3 _ rfl ⟨gk60, 0, none⟩ (by kernel_rfl) (.int .i64 1) (load_one ((HF.out.box 10 _ _ _ rfl).cell 0 |>.trans (by kernel_rfl)) Try.und3 rfl)) ?_
           try simp only [pA, pB, p1, p2, p3]
           refine tW (.int .i64 2) (exec_bin .add 3 _ _ _ rfl (.int .i64 1) (.int .i64 1) (.int .i64 2) (by kernel_rfl) (by kernel_rfl) (by kernel_rfl) (by kernel_rfl)) ?_
           try simp only [pA, pB, p1, p2, p3]
           refine wp_storeW 3 _ _ rfl ⟨gk60, 0, none⟩ (.int .i64 2) (by kernel_rfl) (by kernel_rfl) (wk62.setRow gk60 (#[.int .i64 2])) (run_store_to (cur := [.int .i64 1]) (vs := [.int .i64 2]) (new := [.int .i64 2]) (HF.out.box 10 _ _ _ rfl) (by kernel_rfl) Try.size3 (Nat.le_of_ble_eq_true (by kernel_rfl)) (by simp [Value.oneCell', Sl.v]) (by kernel_rfl)) (by kernel_rfl) ?_
           try simp only [pA, pB, p1, p2, p3]
           have HK0 : Hid (Kept No W1 (wk62.setRow gk60 (#[.int .i64 2]))) := HK0.out.newRow (by rw [HS0.out]; exact hx0_gk60) _
           have HF : Hid (Fr No w (wk62.setRow gk60 (#[.int .i64 2])) [(gk1, 26, Bv.cells ⟨up, ⟨ea, en, ec⟩, ⟨la, ln, lc⟩⟩), (gk3, 3, #[.int .i64 stop]), (gk5, 4, #[.bool false]), (gk11, 26, Bv.cells ⟨up, ⟨ma0, mn0, mc0⟩, ⟨la0, ln0, lc0⟩⟩), (gk15, 56, #[.func (.func 30) #[] #[.pointer (some ⟨lb, 0, none⟩)]]), (gk19, 23, #[.slice ma ns.length mc]), (gk23, 3, #[.int .i64 0]), (gk26, 3, #[.int .i64 ((nv0 : Nat) : Int)]), (gk41, 3, #[.int .i64 1]), (gk45, 3, #[.int .i64 ((nv1 : Nat) : Int)]), (gk60, 3, #[.int .i64 2])]) := HF.out.set 10 rfl _
           generalize wk62.setRow gk60 (#[.int .i64 2]) = wk63 at HF HK0 ⊢
           refine WL.nil ?_
           try simp only [pA, pB, p1, p2, p3]
           have HSQ : Hid (Sq w [(gk1, 26, Bv.cells ⟨up, ⟨ea, en, ec⟩, ⟨la, ln, lc⟩⟩), (gk3, 3, #[.int .i64 stop]), (gk5, 4, #[.bool false]), (gk11, 26, Bv.cells ⟨up, ⟨ma0, mn0, mc0⟩, ⟨la0, ln0, lc0⟩⟩), (gk15, 56, #[.func (.func 30) #[] #[.pointer (some ⟨lb, 0, none⟩)]]), (gk19, 23, #[.slice ma ns.length mc]), (gk23, 3, #[.int .i64 0]), (gk26, 3, #[.int .i64 ((nv0 : Nat) : Int)]), (gk41, 3, #[.int .i64 1]), (gk45, 3, #[.int .i64 ((nv1 : Nat) : Int)]), (gk60, 3, #[.int .i64 2])] lb sa sc ma mc ns [D1, D0] wk63) := ⟨HF.out, (HSQ0.out.no HK0.out).sq, (HSQ0.out.no HK0.out).wt, (HSQ0.out.no HK0.out).df⟩
           clear HSQ0 HK0 HS0 hx0_gk60
           go_wp2
           show Code.rounds Try.prog _ _ (1 + 1) _ _
           rw [rounds_succ]
           have HSQ0 : Hid (Sq w [(gk1, 26, Bv.cells ⟨up, ⟨ea, en, ec⟩, ⟨la, ln, lc⟩⟩), (gk3, 3, #[.int .i64 stop]), (gk5, 4, #[.bool false]), (gk11, 26, Bv.cells ⟨up, ⟨ma0, mn0, mc0⟩, ⟨la0, ln0, lc0⟩⟩), (gk15, 56, #[.func (.func 30) #[] #[.pointer (some ⟨lb, 0, none⟩)]]), (gk19, 23, #[.slice ma ns.length mc]), (gk23, 3, #[.int .i64 0]), (gk26, 3, #[.int .i64 ((nv0 : Nat) : Int)]), (gk41, 3, #[.int .i64 1]), (gk45, 3, #[.int .i64 ((nv1 : Nat) : Int)]), (gk60, 3, #[.int .i64 2])] lb sa sc ma mc ns [D1, D0] wk63) := HSQ
           clear HSQ
           have HK0 : Hid (Kept No wk63 wk63) := Kept.refl _ _
           obtain ⟨s0, hs0⟩ : ∃ n, wk63.heap.size = n := ⟨_, rfl⟩
           have HS0 : Hid (wk63.heap.size = s0) := hs0
           clear hs0
           skip
           go_upto_region 13 with fail
           refine WL.start ?_
           refine tW (.int .i64 2) (exec_load 3 _ rfl ⟨gk60, 0, none⟩ (by kernel_rfl) (.int .i64 2) (load_one ((HF.out.box 10 _ _ _ rfl).cell 0 |>.trans (by kernel_rfl)) Try.und3 rfl)) ?_
           try simp only [pA, pB, p1, p2, p3]
           refine tW (.bool true) (exec_bin .lss 3 _ _ _ rfl (.int .i64 2) (.int .i64 3) (.bool true) (by kernel_rfl) (by kernel_rfl) (by kernel_rfl) (by kernel_rfl)) ?_
           try simp only [pA, pB, p1, p2, p3]
           refine WL.nil ?_
           try simp only [pA, pB, p1, p2, p3]
           go_upto_region 15 with fail
           refine WL.start ?_
           refine wp_runW (.pointer (some ⟨wk63.heap.size, 0, none⟩)) (wk63.alloc (.cells (#[.int .i64 0]) 3)) (exec_alloc1 3 rfl (.int .i64 0) rfl zero3) (by kernel_rfl) ?_
           try simp only [pA, pB, p1, p2, p3]
           have hx0_gk64 : s0 ≤ wk63.heap.size := by rw [← HS0.out]; exact HK0.out.size
           have HK0 : Hid (Kept No wk63 (wk63.alloc (.cells (#[.int .i64 0]) 3))) := HK0.out.no ((Kept.refl No _).alloc _)
           have HF : Hid (Fr No w (wk63.alloc (.cells (#[.int .i64 0]) 3)) [(gk1, 26, Bv.cells ⟨up, ⟨ea, en, ec⟩, ⟨la, ln, lc⟩⟩), (gk3, 3, #[.int .i64 stop]), (gk5, 4, #[.bool false]), (gk11, 26, Bv.cells ⟨up, ⟨ma0, mn0, mc0⟩, ⟨la0, ln0, lc0⟩⟩), (gk15, 56, #[.func (.func 30) #[] #[.pointer (some ⟨lb, 0, none⟩)]]), (gk19, 23, #[.slice ma ns.length mc]), (gk23, 3, #[.int .i64 0]), (gk26, 3, #[.int .i64 ((nv0 : Nat) : Int)]), (gk41, 3, #[.int .i64 1]), (gk45, 3, #[.int .i64 ((nv1 : Nat) : Int)]), (gk60, 3, #[.int .i64 2]), (wk63.heap.size, 3, #[.int .i64 0])]) := HF.out.alloc _ _
           generalize wk63.alloc (.cells (#[.int .i64 0]) 3) = wk65 at HF HK0 ⊢
           generalize wk63.heap.size = gk64 at HF hx0_gk64 ⊢
           refine wp_storeW 3 _ _ rfl ⟨gk64, 0, none⟩ (.int .i64 0) (by kernel_rfl) (by kernel_rfl) (wk65.setRow gk64 (#[.int .i64 0])) (run_store_to (cur := [.int .i64 0]) (vs := [.int .i64 0]) (new := [.int .i64 0]) (HF.out.box 11 _ _ _ rfl) (by kernel_rfl) Try.size3 (Nat.le_of_ble_eq_true (by kernel_rfl)) (by simp [Value.oneCell', Sl.v]) (by kernel_rfl)) (by kernel_rfl) ?_
           try simp only [pA, pB, p1, p2, p3]
           have HK0 : Hid (Kept No wk63 (wk65.setRow gk64 (#[.int .i64 0]))) := HK0.out.newRow (by rw [HS0.out]; exact hx0_gk64) _
           have HF : Hid (Fr No w (wk65.setRow gk64 (#[.int .i64 0])) [(gk1, 26, Bv.cells ⟨up, ⟨ea, en, ec⟩, ⟨la, ln, lc⟩⟩), (gk3, 3, #[.int .i64 stop]), (gk5, 4, #[.bool false]), (gk11, 26, Bv.cells ⟨up, ⟨ma0, mn0, mc0⟩, ⟨la0, ln0, lc0⟩⟩), (gk15, 56, #[.func (.func 30) #[] #[.pointer (some ⟨lb, 0, none⟩)]]), (gk19, 23, #[.slice ma ns.length mc]), (gk23, 3, #[.int .i64 0]), (gk26, 3, #[.int .i64 ((nv0 : Nat) : Int)]), (gk41, 3, #[.int .i64 1]), (gk45, 3, #[.int .i64 ((nv1 : Nat) : Int)]), (gk60, 3, #[.int .i64 2]), (gk64, 3, #[.int .i64 0])]) := HF.out.set 11 rfl _
           generalize wk65.setRow gk64 (#[.int .i64 0]) = wk66 at HF HK0 ⊢
           refine WL.nil ?_
           try simp only [pA, pB, p1, p2, p3]
           go_upto_region 16 with fail
           refine WL.start ?_
           refine tW (.func (.func 30) #[] #[.pointer (some ⟨lb, 0, none⟩)]) (exec_load 56 _ rfl ⟨gk15, 0, none⟩ (by kernel_rfl) (.func (.func 30) #[] #[.pointer (some ⟨lb, 0, none⟩)]) (load_one ((HF.out.box 4 _ _ _ rfl).cell 0 |>.trans (by kernel_rfl)) Try.und56f rfl)) ?_
           try simp only [pA, pB, p1, p2, p3]
           refine WL.nil ?_
           try simp only [pA, pB, p1, p2, p3]
           have HSQ : Hid (Sq w [(gk1, 26, Bv.cells ⟨up, ⟨ea, en, ec⟩, ⟨la, ln, lc⟩⟩), (gk3, 3, #[.int .i64 stop]), (gk5, 4, #[.bool false]), (gk11, 26, Bv.cells ⟨up, ⟨ma0, mn0, mc0⟩, ⟨la0, ln0, lc0⟩⟩), (gk15, 56, #[.func (.func 30) #[] #[.pointer (some ⟨lb, 0, none⟩)]]), (gk19, 23, #[.slice ma ns.length mc]), (gk23, 3, #[.int .i64 0]), (gk26, 3, #[.int .i64 ((nv0 : Nat) : Int)]), (gk41, 3, #[.int .i64 1]), (gk45, 3, #[.int .i64 ((nv1 : Nat) : Int)]), (gk60, 3, #[.int .i64 2]), (gk64, 3, #[.int .i64 0])] lb sa sc ma mc ns [D1, D0] wk66) := ⟨HF.out, (HSQ0.out.no HK0.out).sq, (HSQ0.out.no HK0.out).wt, (HSQ0.out.no HK0.out).df⟩
           clear HSQ0 HK0 HS0 hx0_gk64
           obtain ⟨B2, hB2⟩ : ∃ x, wk66.heap.size = x := ⟨_, rfl⟩
           have hBw2 : w.heap.size ≤ B2 := by rw [← hB2]; exact HF.out.kept.size
           have hDs2 : ∀ D ∈ ([D1, D0] : List Nat), D < B2 := fun D hD => by rw [← hB2]; exact (HSQ.out.df D hD).lt
           go_upto_block 4 with fail
           refine cut_defer (fun D W' => B2 ≤ D ∧ DefAt W' D ∧ ∃ nv : Nat, nv = ns.length ∧ Sq w [(gk1, 26, Bv.cells ⟨up, ⟨ea, en, ec⟩, ⟨la, ln, lc⟩⟩), (gk3, 3, #[.int .i64 stop]), (gk5, 4, #[.bool false]), (gk11, 26, Bv.cells ⟨up, ⟨ma0, mn0, mc0⟩, ⟨la0, ln0, lc0⟩⟩), (gk15, 56, #[.func (.func 30) #[] #[.pointer (some ⟨lb, 0, none⟩)]]), (gk19, 23, #[.slice ma ns.length mc]), (gk23, 3, #[.int .i64 0]), (gk26, 3, #[.int .i64 ((nv0 : Nat) : Int)]), (gk41, 3, #[.int .i64 1]), (gk45, 3, #[.int .i64 ((nv1 : Nat) : Int)]), (gk60, 3, #[.int .i64 2]), (gk64, 3, #[.int .i64 ((nv : Nat) : Int)])] lb sa sc ma mc ns [D1, D0] W') ?_ ?_
           · have HBB : Hid (wk66.heap.size = B2) := hB2
             clear hB2
             go_wp2
             refine (wpIn_wide (n := 8)).1 ?_
             refine' rf_B (F := Fence.wide) rfl (by omega) (gf := 30) (lb := #[.pointer (some ⟨lb, 0, none⟩)]) rfl trivial (enters_of Try.func30 (by kernel_rfl) rfl)
               (seq_mem Fence.wide (8 - 1) trivial rfl (by omega) lb sc ns.length sa ns hm3 rfl wk66 HSQ.out.sq) nb_t (nb_b HSQ.out.sq (Nat.le_refl _)) (Below.refl _ _) (fun _ => rfl)
               (fun pre W' => Sq w [(gk1, 26, Bv.cells ⟨up, ⟨ea, en, ec⟩, ⟨la, ln, lc⟩⟩), (gk3, 3, #[.int .i64 stop]), (gk5, 4, #[.bool false]), (gk11, 26, Bv.cells ⟨up, ⟨ma0, mn0, mc0⟩, ⟨la0, ln0, lc0⟩⟩), (gk15, 56, #[.func (.func 30) #[] #[.pointer (some ⟨lb, 0, none⟩)]]), (gk19, 23, #[.slice ma ns.length mc]), (gk23, 3, #[.int .i64 0]), (gk26, 3, #[.int .i64 ((nv0 : Nat) : Int)]), (gk41, 3, #[.int .i64 1]), (gk45, 3, #[.int .i64 ((nv1 : Nat) : Int)]), (gk60, 3, #[.int .i64 2]), (gk64, 3, #[.int .i64 ((pre.length : Nat) : Int)])] lb sa sc ma mc ns [D1, D0] W')
               (fun c pre W' => (c = .ret ∧ ¬ vals pre <+: ns) ∨ (c = .exit 4 ∧ False ∧ Sq w [(gk1, 26, Bv.cells ⟨up, ⟨ea, en, ec⟩, ⟨la, ln, lc⟩⟩), (gk3, 3, #[.int .i64 stop]), (gk5, 4, #[.bool false]), (gk11, 26, Bv.cells ⟨up, ⟨ma0, mn0, mc0⟩, ⟨la0, ln0, lc0⟩⟩), (gk15, 56, #[.func (.func 30) #[] #[.pointer (some ⟨lb, 0, none⟩)]]), (gk19, 23, #[.slice ma ns.length mc]), (gk23, 3, #[.int .i64 0]), (gk26, 3, #[.int .i64 ((nv0 : Nat) : Int)]), (gk41, 3, #[.int .i64 1]), (gk45, 3, #[.int .i64 ((nv1 : Nat) : Int)]), (gk60, 3, #[.int .i64 2]), (gk64, 3, #[.int .i64 ((pre.length : Nat) : Int)])] lb sa sc ma mc ns [D1, D0] W')) ?own ?ownx HSQ.out (fun W' o => (Kept.refl _ W').alloc o) 34 (fun x => x.1.cells) _ ?assign ?body ?done ?stop
             case own => exact fun pre A' B' row h hg hr => h.grown hg (by rw [← HBB.out]; exact hr) hBw2 hDs2
             case ownx => exact fun c pre A' B' row h hg hr => h.imp id (fun ⟨e1, e2, h⟩ => ⟨e1, e2, h.grown hg (by rw [← HBB.out]; exact hr) hBw2 hDs2⟩)
             case assign =>
               intro l x W' K vb hvb hK
               simp only [List.zip_toArray, List.zip_cons_cons, List.zip_nil_left, List.zip_nil_right, List.size_toArray, List.length_cons, List.length_nil, List.foldl_toArray, List.foldl_toArray', List.foldl_cons, List.foldl_nil, p1, p2, p3]
               gi_upto_region 17 with fail
               refine WI.start ?_
               refine wi_run (.pointer (some ⟨W'.heap.size, 0, none⟩)) (W'.alloc (.cells (En.cells enZ) 34)) (exec_alloc 34 rfl (En.cells enZ) zero54) (by kernel_rfl) ?_
               try simp only [pA, pB, p1, p2, p3]
               refine wi_store 34 _ _ rfl ⟨W'.heap.size, 0, none⟩ (.agg (En.cells x.1)) (by kernel_rfl) (by kernel_rfl) (W'.alloc (.cells (En.cells x.1) 34)) (by rw [← alloc_set W' (En.cells enZ) (En.cells x.1) 34]; exact st54 (Box.new _ _ _) rfl) (by kernel_rfl) ?_
               try simp only [pA, pB, p1, p2, p3]
               refine WI.nil ?_
               try simp only [pA, pB, p1, p2, p3]
               gi_wp2
               rw [← hvb]
               exact hK
             case done =>
               rintro D ys W' hD hys hI hK
               have eys : ys.length = ns.length := by have h9 := congrArg List.length hys; simpa using h9
               rw [eys] at hI
               gi_wp2
               exact ⟨rfl, D, rfl, by rw [← HBB.out]; exact hD, hK, ns.length, rfl, hI⟩
             case stop =>
               rintro D c pre W' hD hpre h hK
               rcases h with ⟨rfl, h⟩ | ⟨rfl, hc, h⟩
               · exact absurd hpre h
               · gi_wp2
                 exact ⟨rfl, D, rfl, by rw [← HBB.out]; exact hD, hK, pre.length, hc.elim, h⟩
             case body =>
               clear HSQ HF
               rintro l pre ⟨x, hx⟩ vb W' hl hlo hI hbv hlen
               have hI : Sq w [(gk1, 26, Bv.cells ⟨up, ⟨ea, en, ec⟩, ⟨la, ln, lc⟩⟩), (gk3, 3, #[.int .i64 stop]), (gk5, 4, #[.bool false]), (gk11, 26, Bv.cells ⟨up, ⟨ma0, mn0, mc0⟩, ⟨la0, ln0, lc0⟩⟩), (gk15, 56, #[.func (.func 30) #[] #[.pointer (some ⟨lb, 0, none⟩)]]), (gk19, 23, #[.slice ma ns.length mc]), (gk23, 3, #[.int .i64 0]), (gk26, 3, #[.int .i64 ((nv0 : Nat) : Int)]), (gk41, 3, #[.int .i64 1]), (gk45, 3, #[.int .i64 ((nv1 : Nat) : Int)]), (gk60, 3, #[.int .i64 2]), (gk64, 3, #[.int .i64 ((pre.length : Nat) : Int)])] lb sa sc ma mc ns [D1, D0] W' := hI
               have HSQ : Hid (Sq w [(gk1, 26, Bv.cells ⟨up, ⟨ea, en, ec⟩, ⟨la, ln, lc⟩⟩), (gk3, 3, #[.int .i64 stop]), (gk5, 4, #[.bool false]), (gk11, 26, Bv.cells ⟨up, ⟨ma0, mn0, mc0⟩, ⟨la0, ln0, lc0⟩⟩), (gk15, 56, #[.func (.func 30) #[] #[.pointer (some ⟨lb, 0, none⟩)]]), (gk19, 23, #[.slice ma ns.length mc]), (gk23, 3, #[.int .i64 0]), (gk26, 3, #[.int .i64 ((nv0 : Nat) : Int)]), (gk41, 3, #[.int .i64 1]), (gk45, 3, #[.int .i64 ((nv1 : Nat) : Int)]), (gk60, 3, #[.int .i64 2]), (gk64, 3, #[.int .i64 ((pre.length : Nat) : Int)])] lb sa sc ma mc ns [D1, D0] W') := hI
               have HV : Hid (Box W' vb 34 (En.cells x)) := hbv
               have HKN : Hid (Kept (NB lb sa) W' W') := Kept.refl _ _
               have HKF : Hid (KeepsFrom B2 W' W') := KeepsFrom.refl _ _
               have HF : Hid (Fr No w W' [(gk1, 26, Bv.cells ⟨up, ⟨ea, en, ec⟩, ⟨la, ln, lc⟩⟩), (gk3, 3, #[.int .i64 stop]), (gk5, 4, #[.bool false]), (gk11, 26, Bv.cells ⟨up, ⟨ma0, mn0, mc0⟩, ⟨la0, ln0, lc0⟩⟩), (gk15, 56, #[.func (.func 30) #[] #[.pointer (some ⟨lb, 0, none⟩)]]), (gk19, 23, #[.slice ma ns.length mc]), (gk23, 3, #[.int .i64 0]), (gk26, 3, #[.int .i64 ((nv0 : Nat) : Int)]), (gk41, 3, #[.int .i64 1]), (gk45, 3, #[.int .i64 ((nv1 : Nat) : Int)]), (gk60, 3, #[.int .i64 2]), (gk64, 3, #[.int .i64 ((pre.length : Nat) : Int)])]) := hI.fr
               obtain ⟨r0, hr0⟩ := hlo
               have HR0 : Hid (W'.heap[l]? = some (.loop r0)) := hr0
               have HLl : Hid (B2 ≤ l) := by show _ ≤ _; rw [← HBB.out]; exact hl
               clear hr0
               have hlen : pre.length < ns.length := hlen
               have HPx : Hid (¬ x = eAt ns pre.length → ¬ vals (pre ++ [(⟨x, hx⟩ : { x : En // x ∈ ns })]) <+: ns) := fun h9 hp => h9 (by rw [vals_snoc] at hp; have h8 := pre_is hp; rw [vals_len, eAt_some hlen] at h8; exact (Option.some.inj h8).symm)
               have HLn : Hid ((pre ++ [(⟨x, hx⟩ : { x : En // x ∈ ns })]).length = pre.length + 1) := by show _ = _; simp
               obtain ⟨p, hp⟩ : ∃ p, p = pre.length := ⟨_, rfl⟩
               rw [← hp] at HSQ HF HPx HLn hlen
               clear hI hbv hp
               obtain ⟨pb, po, hca, hcc⟩ := (show Es W' ma ns from HSQ.out.wt.rd.row).at hlen
               have hsl : Hid (Value.slice ma ns.length mc = .slice (some ⟨pb, po, none⟩) ns.length mc) := congrArg (fun y => Value.slice y ns.length mc) hca
               obtain ⟨y, hy⟩ : ∃ y, y = eAt ns p := ⟨_, rfl⟩
               rw [← hy] at hcc HPx
               have HCC : Hid (∀ (j : Nat) v, (En.cs y)[j]? = some v → W'.cell? ⟨pb, po + p * 4 + j, none⟩ = some v) := show ∀ (j : Nat) v, (En.cs y)[j]? = some v → W'.cell? ⟨pb, po + p * 4 + j, none⟩ = some v from hcc
               clear hca hcc hy
               simp only
               gi_upto_region 18 with fail
               refine region_round (F := Fence.wide) rfl hmix (by kernel_rfl) (by kernel_rfl) ?_
               refine qT (.int .i64 ((p : Nat) : Int)) (fun w' hw => exec_load 3 _ rfl ⟨gk64, 0, none⟩ (by kernel_rfl) (.int .i64 ((p : Nat) : Int)) (load_one (((HF.out.box 11 _ _ _ rfl).kept (qk hw) (fun e => e)).cell 0 |>.trans (by kernel_rfl)) Try.und3 rfl)) ?_
               try simp only [pA, pB, p1, p2, p3]
               refine qT (.slice ma ns.length mc) (fun w' hw => exec_load 23 _ rfl ⟨gk19, 0, none⟩ (by kernel_rfl) (.slice ma ns.length mc) (load_one (((HF.out.box 5 _ _ _ rfl).kept (qk hw) (fun e => e)).cell 0 |>.trans (by kernel_rfl)) Try.und22 rfl)) ?_
               try simp only [pA, pB, p1, p2, p3]
               refine qK (.int .i64 ((ns.length : Nat) : Int)) ?_
               try simp only [pA, pB, p1, p2, p3]
               refine qT (.bool false) (fun w' hw => exec_bin .geq 3 _ _ _ rfl (.int .i64 ((p : Nat) : Int)) (.int .i64 ((ns.length : Nat) : Int)) (.bool false) (by kernel_rfl) (by kernel_rfl) (by kernel_rfl) (by rw [b_geq, decide_eq_false (by omega)])) ?_
               try simp only [pA, pB, p1, p2, p3]
               refine qK (.bool false) ?_
               try simp only [pA, pB, p1, p2, p3]
               refine qT (.agg (En.cells x)) (fun w' hw => exec_load 34 _ rfl ⟨vb, 0, none⟩ (by kernel_rfl) (.agg (En.cells x)) (ld54 (HV.out.kept (qk hw) (fun e => e)))) ?_
               try simp only [pA, pB, p1, p2, p3]
               refine qT (.slice ma ns.length mc) (fun w' hw => exec_load 23 _ rfl ⟨gk19, 0, none⟩ (by kernel_rfl) (.slice ma ns.length mc) (load_one (((HF.out.box 5 _ _ _ rfl).kept (qk hw) (fun e => e)).cell 0 |>.trans (by kernel_rfl)) Try.und22 rfl)) ?_
               try simp only [pA, pB, p1, p2, p3]
               refine qT (.int .i64 ((p : Nat) : Int)) (fun w' hw => exec_load 3 _ rfl ⟨gk64, 0, none⟩ (by kernel_rfl) (.int .i64 ((p : Nat) : Int)) (load_one (((HF.out.box 11 _ _ _ rfl).kept (qk hw) (fun e => e)).cell 0 |>.trans (by kernel_rfl)) Try.und3 rfl)) ?_
               try simp only [pA, pB, p1, p2, p3]
               refine qT (.pointer (some ⟨pb, po + p * 4, none⟩)) (fun w' hw => exec_ixA 23 4 Try.und22e Try.size22e _ _ rfl pb po ns.length mc p (Eq.trans (b := .slice ma ns.length mc) (by kernel_rfl) hsl.out) (by kernel_rfl) hlen) ?_
               try simp only [pA, pB, p1, p2, p3]
               refine qT (.agg (En.cells y)) (fun w' hw => exec_load 34 _ rfl ⟨pb, po + p * 4, none⟩ (by kernel_rfl) (.agg (En.cells y)) (load_E (fun j v hv => (qk hw).cell (HCC.out j v hv) (fun e => e)))) ?_
               try simp only [pA, pB, p1, p2, p3]
               cases q10 : (eqE x y)
               ·skip
                refine qT (.bool true) (fun w' hw => exec_bin .neq 34 _ _ _ rfl (.agg (En.cells x)) (.agg (En.cells y)) (.bool true) (by kernel_rfl) (by kernel_rfl) (by kernel_rfl) (by rw [eqE_neq, q10]; try rfl)) ?_
                try simp only [pA, pB, p1, p2, p3]
                refine qK (.bool true) ?_
                try simp only [pA, pB, p1, p2, p3]
                refine wpQuietIn_nil ?_
                intro w9 hw9
                obtain ⟨nq, rfl⟩ := hw9
                have HSQ : Hid (Sq w [(gk1, 26, Bv.cells ⟨up, ⟨ea, en, ec⟩, ⟨la, ln, lc⟩⟩), (gk3, 3, #[.int .i64 stop]), (gk5, 4, #[.bool false]), (gk11, 26, Bv.cells ⟨up, ⟨ma0, mn0, mc0⟩, ⟨la0, ln0, lc0⟩⟩), (gk15, 56, #[.func (.func 30) #[] #[.pointer (some ⟨lb, 0, none⟩)]]), (gk19, 23, #[.slice ma ns.length mc]), (gk23, 3, #[.int .i64 0]), (gk26, 3, #[.int .i64 ((nv0 : Nat) : Int)]), (gk41, 3, #[.int .i64 1]), (gk45, 3, #[.int .i64 ((nv1 : Nat) : Int)]), (gk60, 3, #[.int .i64 2]), (gk64, 3, #[.int .i64 ((p : Nat) : Int)])] lb sa sc ma mc ns [D1, D0] (W'.drewN nq)) := HSQ.out.no (Kept.no_drewN _ nq)
                have HKN : Hid (Kept (NB lb sa) W' (W'.drewN nq)) := HKN.out.then (Kept.no_drewN _ nq).of_no
                have HKF : Hid (KeepsFrom B2 W' (W'.drewN nq)) := HKF.out.trans ((keepsN _ nq).from _)
                have HF : Hid (Fr No w (W'.drewN nq) [(gk1, 26, Bv.cells ⟨up, ⟨ea, en, ec⟩, ⟨la, ln, lc⟩⟩), (gk3, 3, #[.int .i64 stop]), (gk5, 4, #[.bool false]), (gk11, 26, Bv.cells ⟨up, ⟨ma0, mn0, mc0⟩, ⟨la0, ln0, lc0⟩⟩), (gk15, 56, #[.func (.func 30) #[] #[.pointer (some ⟨lb, 0, none⟩)]]), (gk19, 23, #[.slice ma ns.length mc]), (gk23, 3, #[.int .i64 0]), (gk26, 3, #[.int .i64 ((nv0 : Nat) : Int)]), (gk41, 3, #[.int .i64 1]), (gk45, 3, #[.int .i64 ((nv1 : Nat) : Int)]), (gk60, 3, #[.int .i64 2]), (gk64, 3, #[.int .i64 ((p : Nat) : Int)])]) := HSQ.out.fr
                generalize W'.drewN nq = wk67 at HF HSQ HKN HKF ⊢
                have hne : ¬ x = y := fun e => by rw [e, eqE_iff.2 rfl] at q10; cases q10
                gi_upto_region 19 with fail
                refine WI.start ?_
                refine wi_store 4 _ _ rfl ⟨gk5, 0, none⟩ (.bool false) (by kernel_rfl) (by kernel_rfl) (wk67.setRow gk5 (#[.bool false])) (run_store_to (cur := [.bool false]) (vs := [.bool false]) (new := [.bool false]) (HF.out.box 2 _ _ _ rfl) (by kernel_rfl) Try.size4 (Nat.le_of_ble_eq_true (by kernel_rfl)) (by simp [Value.oneCell', Sl.v]) (by kernel_rfl)) (by kernel_rfl) ?_
                try simp only [pA, pB, p1, p2, p3]
                have hset := HSQ.out.set 2 rfl (.inr rfl) (#[.bool false])
                have HKF : Hid (KeepsFrom B2 W' (wk67.setRow gk5 (#[.bool false]))) := HKF.out.trans ((keepsRow (HF.out.box 2 _ _ _ rfl) _).from _)
                have HSQ : Hid (Sq w [(gk1, 26, Bv.cells ⟨up, ⟨ea, en, ec⟩, ⟨la, ln, lc⟩⟩), (gk3, 3, #[.int .i64 stop]), (gk5, 4, #[.bool false]), (gk11, 26, Bv.cells ⟨up, ⟨ma0, mn0, mc0⟩, ⟨la0, ln0, lc0⟩⟩), (gk15, 56, #[.func (.func 30) #[] #[.pointer (some ⟨lb, 0, none⟩)]]), (gk19, 23, #[.slice ma ns.length mc]), (gk23, 3, #[.int .i64 0]), (gk26, 3, #[.int .i64 ((nv0 : Nat) : Int)]), (gk41, 3, #[.int .i64 1]), (gk45, 3, #[.int .i64 ((nv1 : Nat) : Int)]), (gk60, 3, #[.int .i64 2]), (gk64, 3, #[.int .i64 ((p : Nat) : Int)])] lb sa sc ma mc ns [D1, D0] (wk67.setRow gk5 (#[.bool false]))) := hset.1
                have HKN : Hid (Kept (NB lb sa) W' (wk67.setRow gk5 (#[.bool false]))) := HKN.out.then hset.2
                clear hset
                have HF : Hid (Fr No w (wk67.setRow gk5 (#[.bool false])) [(gk1, 26, Bv.cells ⟨up, ⟨ea, en, ec⟩, ⟨la, ln, lc⟩⟩), (gk3, 3, #[.int .i64 stop]), (gk5, 4, #[.bool false]), (gk11, 26, Bv.cells ⟨up, ⟨ma0, mn0, mc0⟩, ⟨la0, ln0, lc0⟩⟩), (gk15, 56, #[.func (.func 30) #[] #[.pointer (some ⟨lb, 0, none⟩)]]), (gk19, 23, #[.slice ma ns.length mc]), (gk23, 3, #[.int .i64 0]), (gk26, 3, #[.int .i64 ((nv0 : Nat) : Int)]), (gk41, 3, #[.int .i64 1]), (gk45, 3, #[.int .i64 ((nv1 : Nat) : Int)]), (gk60, 3, #[.int .i64 2]), (gk64, 3, #[.int .i64 ((p : Nat) : Int)])]) := HSQ.out.fr
                generalize wk67.setRow gk5 (#[.bool false]) = wk68 at HF HSQ HKN HKF ⊢
                refine WI.nil ?_
                try simp only [pA, pB, p1, p2, p3]
                gi_wp2
                exact ⟨by rw [HBB.out]; exact HKF.out, .inl ⟨rfl, HPx.out hne⟩⟩
               ·skip
                refine qT (.bool false) (fun w' hw => exec_bin .neq 34 _ _ _ rfl (.agg (En.cells x)) (.agg (En.cells y)) (.bool false) (by kernel_rfl) (by kernel_rfl) (by kernel_rfl) (by rw [eqE_neq, q10]; try rfl)) ?_
                try simp only [pA, pB, p1, p2, p3]
                refine qK (.bool false) ?_
                try simp only [pA, pB, p1, p2, p3]
                refine wpQuietIn_nil ?_
                intro w9 hw9
                obtain ⟨nq, rfl⟩ := hw9
                have HSQ : Hid (Sq w [(gk1, 26, Bv.cells ⟨up, ⟨ea, en, ec⟩, ⟨la, ln, lc⟩⟩), (gk3, 3, #[.int .i64 stop]), (gk5, 4, #[.bool false]), (gk11, 26, Bv.cells ⟨up, ⟨ma0, mn0, mc0⟩, ⟨la0, ln0, lc0⟩⟩), (gk15, 56, #[.func (.func 30) #[] #[.pointer (some ⟨lb, 0, none⟩)]]), (gk19, 23, #[.slice ma ns.length mc]), (gk23, 3, #[.int .i64 0]), (gk26, 3, #[.int .i64 ((nv0 : Nat) : Int)]), (gk41, 3, #[.int .i64 1]), (gk45, 3, #[.int .i64 ((nv1 : Nat) : Int)]), (gk60, 3, #[.int .i64 2]), (gk64, 3, #[.int .i64 ((p : Nat) : Int)])] lb sa sc ma mc ns [D1, D0] (W'.drewN nq)) := HSQ.out.no (Kept.no_drewN _ nq)
                have HKN : Hid (Kept (NB lb sa) W' (W'.drewN nq)) := HKN.out.then (Kept.no_drewN _ nq).of_no
                have HKF : Hid (KeepsFrom B2 W' (W'.drewN nq)) := HKF.out.trans ((keepsN _ nq).from _)
                have HF : Hid (Fr No w (W'.drewN nq) [(gk1, 26, Bv.cells ⟨up, ⟨ea, en, ec⟩, ⟨la, ln, lc⟩⟩), (gk3, 3, #[.int .i64 stop]), (gk5, 4, #[.bool false]), (gk11, 26, Bv.cells ⟨up, ⟨ma0, mn0, mc0⟩, ⟨la0, ln0, lc0⟩⟩), (gk15, 56, #[.func (.func 30) #[] #[.pointer (some ⟨lb, 0, none⟩)]]), (gk19, 23, #[.slice ma ns.length mc]), (gk23, 3, #[.int .i64 0]), (gk26, 3, #[.int .i64 ((nv0 : Nat) : Int)]), (gk41, 3, #[.int .i64 1]), (gk45, 3, #[.int .i64 ((nv1 : Nat) : Int)]), (gk60, 3, #[.int .i64 2]), (gk64, 3, #[.int .i64 ((p : Nat) : Int)])]) := HSQ.out.fr
                generalize W'.drewN nq = wk69 at HF HSQ HKN HKF ⊢
                gi_upto_region 20 with fail
                refine WI.start ?_
                refine wi_run (.pointer (some ⟨wk69.heap.size, 0, none⟩)) (wk69.alloc (.cells (#[.int .i64 0]) 3)) (exec_alloc1 3 rfl (.int .i64 0) rfl zero3) (by kernel_rfl) ?_
                try simp only [pA, pB, p1, p2, p3]
                have HSQ : Hid (Sq w [(gk1, 26, Bv.cells ⟨up, ⟨ea, en, ec⟩, ⟨la, ln, lc⟩⟩), (gk3, 3, #[.int .i64 stop]), (gk5, 4, #[.bool false]), (gk11, 26, Bv.cells ⟨up, ⟨ma0, mn0, mc0⟩, ⟨la0, ln0, lc0⟩⟩), (gk15, 56, #[.func (.func 30) #[] #[.pointer (some ⟨lb, 0, none⟩)]]), (gk19, 23, #[.slice ma ns.length mc]), (gk23, 3, #[.int .i64 0]), (gk26, 3, #[.int .i64 ((nv0 : Nat) : Int)]), (gk41, 3, #[.int .i64 1]), (gk45, 3, #[.int .i64 ((nv1 : Nat) : Int)]), (gk60, 3, #[.int .i64 2]), (gk64, 3, #[.int .i64 ((p : Nat) : Int)]), (wk69.heap.size, 3, #[.int .i64 0])] lb sa sc ma mc ns [D1, D0] (wk69.alloc (.cells (#[.int .i64 0]) 3))) := HSQ.out.alloc _ _
                have HKN : Hid (Kept (NB lb sa) W' (wk69.alloc (.cells (#[.int .i64 0]) 3))) := HKN.out.then ((Kept.refl No _).alloc _).of_no
                have HKF : Hid (KeepsFrom B2 W' (wk69.alloc (.cells (#[.int .i64 0]) 3))) := HKF.out.trans ((KeepsOthers.alloc _ _).from _)
                have HF : Hid (Fr No w (wk69.alloc (.cells (#[.int .i64 0]) 3)) [(gk1, 26, Bv.cells ⟨up, ⟨ea, en, ec⟩, ⟨la, ln, lc⟩⟩), (gk3, 3, #[.int .i64 stop]), (gk5, 4, #[.bool false]), (gk11, 26, Bv.cells ⟨up, ⟨ma0, mn0, mc0⟩, ⟨la0, ln0, lc0⟩⟩), (gk15, 56, #[.func (.func 30) #[] #[.pointer (some ⟨lb, 0, none⟩)]]), (gk19, 23, #[.slice ma ns.length mc]), (gk23, 3, #[.int .i64 0]), (gk26, 3, #[.int .i64 ((nv0 : Nat) : Int)]), (gk41, 3, #[.int .i64 1]), (gk45, 3, #[.int .i64 ((nv1 : Nat) : Int)]), (gk60, 3, #[.int .i64 2]), (gk64, 3, #[.int .i64 ((p : Nat) : Int)]), (wk69.heap.size, 3, #[.int .i64 0])]) := HSQ.out.fr
                generalize wk69.alloc (.cells (#[.int .i64 0]) 3) = wk71 at HF HSQ HKN HKF ⊢
                generalize wk69.heap.size = gk70 at HF HSQ ⊢
                refine wi_store 3 _ _ rfl ⟨gk70, 0, none⟩ (.int .i64 0) (by kernel_rfl) (by kernel_rfl) (wk71.setRow gk70 (#[.int .i64 0])) (run_store_to (cur := [.int .i64 0]) (vs := [.int .i64 0]) (new := [.int .i64 0]) (HF.out.box 12 _ _ _ rfl) (by kernel_rfl) Try.size3 (Nat.le_of_ble_eq_true (by kernel_rfl)) (by simp [Value.oneCell', Sl.v]) (by kernel_rfl)) (by kernel_rfl) ?_
                try simp only [pA, pB, p1, p2, p3]
                have hset := HSQ.out.set 12 rfl (.inl rfl) (#[.int .i64 0])
                have HKF : Hid (KeepsFrom B2 W' (wk71.setRow gk70 (#[.int .i64 0]))) := HKF.out.trans ((keepsRow (HF.out.box 12 _ _ _ rfl) _).from _)
                have HSQ : Hid (Sq w [(gk1, 26, Bv.cells ⟨up, ⟨ea, en, ec⟩, ⟨la, ln, lc⟩⟩), (gk3, 3, #[.int .i64 stop]), (gk5, 4, #[.bool false]), (gk11, 26, Bv.cells ⟨up, ⟨ma0, mn0, mc0⟩, ⟨la0, ln0, lc0⟩⟩), (gk15, 56, #[.func (.func 30) #[] #[.pointer (some ⟨lb, 0, none⟩)]]), (gk19, 23, #[.slice ma ns.length mc]), (gk23, 3, #[.int .i64 0]), (gk26, 3, #[.int .i64 ((nv0 : Nat) : Int)]), (gk41, 3, #[.int .i64 1]), (gk45, 3, #[.int .i64 ((nv1 : Nat) : Int)]), (gk60, 3, #[.int .i64 2]), (gk64, 3, #[.int .i64 ((p : Nat) : Int)]), (gk70, 3, #[.int .i64 0])] lb sa sc ma mc ns [D1, D0] (wk71.setRow gk70 (#[.int .i64 0]))) := hset.1
                have HKN : Hid (Kept (NB lb sa) W' (wk71.setRow gk70 (#[.int .i64 0]))) := HKN.out.then hset.2
                clear hset
                have HF : Hid (Fr No w (wk71.setRow gk70 (#[.int .i64 0])) [(gk1, 26, Bv.cells ⟨up, ⟨ea, en, ec⟩, ⟨la, ln, lc⟩⟩), (gk3, 3, #[.int .i64 stop]), (gk5, 4, #[.bool false]), (gk11, 26, Bv.cells ⟨up, ⟨ma0, mn0, mc0⟩, ⟨la0, ln0, lc0⟩⟩), (gk15, 56, #[.func (.func 30) #[] #[.pointer (some ⟨lb, 0, none⟩)]]), (gk19, 23, #[.slice ma ns.length mc]), (gk23, 3, #[.int .i64 0]), (gk26, 3, #[.int .i64 ((nv0 : Nat) : Int)]), (gk41, 3, #[.int .i64 1]), (gk45, 3, #[.int .i64 ((nv1 : Nat) : Int)]), (gk60, 3, #[.int .i64 2]), (gk64, 3, #[.int .i64 ((p : Nat) : Int)]), (gk70, 3, #[.int .i64 0])]) := HSQ.out.fr
                generalize wk71.setRow gk70 (#[.int .i64 0]) = wk72 at HF HSQ HKN HKF ⊢
                refine WI.nil ?_
                try simp only [pA, pB, p1, p2, p3]
                gi_upto_region 21 with fail
                refine WI.start ?_
                refine iW (.func (.func 30) #[] #[.pointer (some ⟨lb, 0, none⟩)]) (exec_load 56 _ rfl ⟨gk15, 0, none⟩ (by kernel_rfl) (.func (.func 30) #[] #[.pointer (some ⟨lb, 0, none⟩)]) (load_one ((HF.out.box 4 _ _ _ rfl).cell 0 |>.trans (by kernel_rfl)) Try.und56f rfl)) ?_
                try simp only [pA, pB, p1, p2, p3]
                refine WI.nil ?_
                try simp only [pA, pB, p1, p2, p3]
                have hrc : wk72.heap[l]? = some (.loop r0) := HKF.out.same l _ HLl.out HR0.out rfl
                have hBi : B2 ≤ wk72.heap.size := Nat.le_trans HLl.out (Nat.le_of_lt (Array.getElem?_eq_some_iff.1 hrc).1)
                have hWs : W'.heap.size ≤ wk72.heap.size := HKN.out.size
                have hBw2 : w.heap.size ≤ wk72.heap.size := HF.out.kept.size
                have hDs2 : ∀ D ∈ ([D1, D0] : List Nat), D < wk72.heap.size := fun D hD => (HSQ.out.df D hD).lt
                gi_wp2
                refine' rf_BN (F := Fence.wide.inRound l) (l₀ := l) (r₀ := r0) rfl hrc (by omega) (gf := 30) (lb := #[.pointer (some ⟨lb, 0, none⟩)]) rfl trivial (enters_of Try.func30 (by kernel_rfl) rfl)
                  ((seq_mem Fence.wide (6 - 1) trivial rfl (by omega) lb sc ns.length sa ns hm3 rfl wk72 HSQ.out.sq).inRound l) nb_t (nb_b HSQ.out.sq (Nat.le_refl _)) (Below.refl _ _) (fun _ => rfl)
                  (fun pre2 W2 => Sq w [(gk1, 26, Bv.cells ⟨up, ⟨ea, en, ec⟩, ⟨la, ln, lc⟩⟩), (gk3, 3, #[.int .i64 stop]), (gk5, 4, #[.bool false]), (gk11, 26, Bv.cells ⟨up, ⟨ma0, mn0, mc0⟩, ⟨la0, ln0, lc0⟩⟩), (gk15, 56, #[.func (.func 30) #[] #[.pointer (some ⟨lb, 0, none⟩)]]), (gk19, 23, #[.slice ma ns.length mc]), (gk23, 3, #[.int .i64 0]), (gk26, 3, #[.int .i64 ((nv0 : Nat) : Int)]), (gk41, 3, #[.int .i64 1]), (gk45, 3, #[.int .i64 ((nv1 : Nat) : Int)]), (gk60, 3, #[.int .i64 2]), (gk64, 3, #[.int .i64 ((p : Nat) : Int)]), (gk70, 3, #[.int .i64 ((pre2.length : Nat) : Int)])] lb sa sc ma mc ns [D1, D0] W2 ∧ Kept (NB lb sa) W' W2 ∧ KeepsFrom B2 W' W2)
                  (fun c pre2 W2 => (c = .ret ∧ ¬ vals pre2 <+: ns) ∨ (c = .exit 6 ∧ Sq w [(gk1, 26, Bv.cells ⟨up, ⟨ea, en, ec⟩, ⟨la, ln, lc⟩⟩), (gk3, 3, #[.int .i64 stop]), (gk5, 4, #[.bool false]), (gk11, 26, Bv.cells ⟨up, ⟨ma0, mn0, mc0⟩, ⟨la0, ln0, lc0⟩⟩), (gk15, 56, #[.func (.func 30) #[] #[.pointer (some ⟨lb, 0, none⟩)]]), (gk19, 23, #[.slice ma ns.length mc]), (gk23, 3, #[.int .i64 0]), (gk26, 3, #[.int .i64 ((nv0 : Nat) : Int)]), (gk41, 3, #[.int .i64 1]), (gk45, 3, #[.int .i64 ((nv1 : Nat) : Int)]), (gk60, 3, #[.int .i64 2]), (gk64, 3, #[.int .i64 ((p : Nat) : Int)]), (gk70, 3, #[.int .i64 ((pre2.length : Nat) : Int)])] lb sa sc ma mc ns [D1, D0] W2 ∧ Kept (NB lb sa) W' W2 ∧ KeepsFrom B2 W' W2)) ?own2 ?ownx2 ⟨HSQ.out, HKN.out, HKF.out⟩ (fun W2 o => (Kept.refl _ W2).alloc o) 34 (fun x => x.1.cells) _ ?assign2 ?body2 ?done2 ?stop2
                case own2 => exact fun pre2 A' B' row h hg hr => ⟨h.1.grown hg hr hBw2 hDs2, h.2.1.grown hg (fun k e hk => by have h9 := (hr k e).1; omega), (ownFrom_keepsFrom (β := Unit) (B := B2) hWs) () A' B' row h.2.2 hg hr⟩
                case ownx2 => exact fun c pre2 A' B' row h hg hr => h.imp id (fun ⟨e, h⟩ => ⟨e, h.1.grown hg hr hBw2 hDs2, h.2.1.grown hg (fun k e hk => by have h9 := (hr k e).1; omega), (ownFrom_keepsFrom (β := Unit) (B := B2) hWs) () A' B' row h.2.2 hg hr⟩)
                case assign2 =>
                  intro l2 y2 W2 K vb2 hvb hK
                  simp only [List.zip_toArray, List.zip_cons_cons, List.zip_nil_left, List.zip_nil_right, List.size_toArray, List.length_cons, List.length_nil, List.foldl_toArray, List.foldl_toArray', List.foldl_cons, List.foldl_nil, p1, p2, p3]
                  gi_upto_region 22 with fail
                  refine WI.start ?_
                  refine wi_run (.pointer (some ⟨W2.heap.size, 0, none⟩)) (W2.alloc (.cells (En.cells enZ) 34)) (exec_alloc 34 rfl (En.cells enZ) zero54) (by kernel_rfl) ?_
                  try simp only [pA, pB, p1, p2, p3]
                  refine wi_store 34 _ _ rfl ⟨W2.heap.size, 0, none⟩ (.agg (En.cells y2.1)) (by kernel_rfl) (by kernel_rfl) (W2.alloc (.cells (En.cells y2.1) 34)) (by rw [← alloc_set W2 (En.cells enZ) (En.cells y2.1) 34]; exact st54 (Box.new _ _ _) rfl) (by kernel_rfl) ?_
                  try simp only [pA, pB, p1, p2, p3]
                  refine WI.nil ?_
                  try simp only [pA, pB, p1, p2, p3]
                  gi_wp2
                  rw [← hvb]
                  exact hK
                case stop2 =>
                  rintro c pre2 W2 hpre (⟨_, hn⟩ | ⟨rfl, hI2, hKK, hKF⟩)
                  · exact absurd hpre hn
                  · have HSQ : Hid (Sq w [(gk1, 26, Bv.cells ⟨up, ⟨ea, en, ec⟩, ⟨la, ln, lc⟩⟩), (gk3, 3, #[.int .i64 stop]), (gk5, 4, #[.bool false]), (gk11, 26, Bv.cells ⟨up, ⟨ma0, mn0, mc0⟩, ⟨la0, ln0, lc0⟩⟩), (gk15, 56, #[.func (.func 30) #[] #[.pointer (some ⟨lb, 0, none⟩)]]), (gk19, 23, #[.slice ma ns.length mc]), (gk23, 3, #[.int .i64 0]), (gk26, 3, #[.int .i64 ((nv0 : Nat) : Int)]), (gk41, 3, #[.int .i64 1]), (gk45, 3, #[.int .i64 ((nv1 : Nat) : Int)]), (gk60, 3, #[.int .i64 2]), (gk64, 3, #[.int .i64 ((p : Nat) : Int)]), (gk70, 3, #[.int .i64 ((pre2.length : Nat) : Int)])] lb sa sc ma mc ns [D1, D0] W2) := hI2
                    have HKN : Hid (Kept (NB lb sa) W' W2) := hKK
                    have HKF : Hid (KeepsFrom B2 W' W2) := hKF
                    have HF : Hid (Fr No w W2 [(gk1, 26, Bv.cells ⟨up, ⟨ea, en, ec⟩, ⟨la, ln, lc⟩⟩), (gk3, 3, #[.int .i64 stop]), (gk5, 4, #[.bool false]), (gk11, 26, Bv.cells ⟨up, ⟨ma0, mn0, mc0⟩, ⟨la0, ln0, lc0⟩⟩), (gk15, 56, #[.func (.func 30) #[] #[.pointer (some ⟨lb, 0, none⟩)]]), (gk19, 23, #[.slice ma ns.length mc]), (gk23, 3, #[.int .i64 0]), (gk26, 3, #[.int .i64 ((nv0 : Nat) : Int)]), (gk41, 3, #[.int .i64 1]), (gk45, 3, #[.int .i64 ((nv1 : Nat) : Int)]), (gk60, 3, #[.int .i64 2]), (gk64, 3, #[.int .i64 ((p : Nat) : Int)]), (gk70, 3, #[.int .i64 ((pre2.length : Nat) : Int)])]) := hI2.fr
                    clear hI2 hKK hKF hpre hrc hWs hBw2 hDs2
                    generalize pre2.length = jp3 at HSQ HF
                    gi_upto_region 27 with fail
                    refine WI.start ?_
                    refine iW (.int .i64 ((p : Nat) : Int)) (exec_load 3 _ rfl ⟨gk64, 0, none⟩ (by kernel_rfl) (.int .i64 ((p : Nat) : Int)) (load_one ((HF.out.box 11 _ _ _ rfl).cell 0 |>.trans (by kernel_rfl)) Try.und3 rfl)) ?_
                    try simp only [pA, pB, p1, p2, p3]
                    refine iW (.int .i64 (((p + 1) : Nat) : Int)) (exec_bin .add 3 _ _ _ rfl (.int .i64 ((p : Nat) : Int)) (.int .i64 1) (.int .i64 (((p + 1) : Nat) : Int)) (by kernel_rfl) (by kernel_rfl) (by kernel_rfl) (b_addw _ _ _ (by rw [IntKind.wrap_i64]; omega) _)) ?_
                    try simp only [pA, pB, p1, p2, p3]
                    refine wi_store 3 _ _ rfl ⟨gk64, 0, none⟩ (.int .i64 (((p + 1) : Nat) : Int)) (by kernel_rfl) (by kernel_rfl) (W2.setRow gk64 (#[.int .i64 (((p + 1) : Nat) : Int)])) (run_store_to (cur := [.int .i64 ((p : Nat) : Int)]) (vs := [.int .i64 (((p + 1) : Nat) : Int)]) (new := [.int .i64 (((p + 1) : Nat) : Int)]) (HF.out.box 11 _ _ _ rfl) (by kernel_rfl) Try.size3 (Nat.le_of_ble_eq_true (by kernel_rfl)) (by simp [Value.oneCell', Sl.v]) (by kernel_rfl)) (by kernel_rfl) ?_
                    try simp only [pA, pB, p1, p2, p3]
                    have hset := HSQ.out.set 11 rfl (.inl rfl) (#[.int .i64 (((p + 1) : Nat) : Int)])
                    have HKF : Hid (KeepsFrom B2 W' (W2.setRow gk64 (#[.int .i64 (((p + 1) : Nat) : Int)]))) := HKF.out.trans ((keepsRow (HF.out.box 11 _ _ _ rfl) _).from _)
                    have HSQ : Hid (Sq w [(gk1, 26, Bv.cells ⟨up, ⟨ea, en, ec⟩, ⟨la, ln, lc⟩⟩), (gk3, 3, #[.int .i64 stop]), (gk5, 4, #[.bool false]), (gk11, 26, Bv.cells ⟨up, ⟨ma0, mn0, mc0⟩, ⟨la0, ln0, lc0⟩⟩), (gk15, 56, #[.func (.func 30) #[] #[.pointer (some ⟨lb, 0, none⟩)]]), (gk19, 23, #[.slice ma ns.length mc]), (gk23, 3, #[.int .i64 0]), (gk26, 3, #[.int .i64 ((nv0 : Nat) : Int)]), (gk41, 3, #[.int .i64 1]), (gk45, 3, #[.int .i64 ((nv1 : Nat) : Int)]), (gk60, 3, #[.int .i64 2]), (gk64, 3, #[.int .i64 (((p + 1) : Nat) : Int)]), (gk70, 3, #[.int .i64 ((jp3 : Nat) : Int)])] lb sa sc ma mc ns [D1, D0] (W2.setRow gk64 (#[.int .i64 (((p + 1) : Nat) : Int)]))) := hset.1
                    have HKN : Hid (Kept (NB lb sa) W' (W2.setRow gk64 (#[.int .i64 (((p + 1) : Nat) : Int)]))) := HKN.out.then hset.2
                    clear hset
                    have HF : Hid (Fr No w (W2.setRow gk64 (#[.int .i64 (((p + 1) : Nat) : Int)])) [(gk1, 26, Bv.cells ⟨up, ⟨ea, en, ec⟩, ⟨la, ln, lc⟩⟩), (gk3, 3, #[.int .i64 stop]), (gk5, 4, #[.bool false]), (gk11, 26, Bv.cells ⟨up, ⟨ma0, mn0, mc0⟩, ⟨la0, ln0, lc0⟩⟩), (gk15, 56, #[.func (.func 30) #[] #[.pointer (some ⟨lb, 0, none⟩)]]), (gk19, 23, #[.slice ma ns.length mc]), (gk23, 3, #[.int .i64 0]), (gk26, 3, #[.int .i64 ((nv0 : Nat) : Int)]), (gk41, 3, #[.int .i64 1]), (gk45, 3, #[.int .i64 ((nv1 : Nat) : Int)]), (gk60, 3, #[.int .i64 2]), (gk64, 3, #[.int .i64 (((p + 1) : Nat) : Int)]), (gk70, 3, #[.int .i64 ((jp3 : Nat) : Int)])]) := HSQ.out.fr
                    generalize W2.setRow gk64 (#[.int .i64 (((p + 1) : Nat) : Int)]) = wk73 at HF HSQ HKN HKF ⊢
                    refine WI.nil ?_
                    try simp only [pA, pB, p1, p2, p3]
                    gi_upto_region 28 with fail
                    refine WI.start ?_
                    refine iW (.int .i64 2) (exec_load 3 _ rfl ⟨gk60, 0, none⟩ (by kernel_rfl) (.int .i64 2) (load_one ((HF.out.box 10 _ _ _ rfl).cell 0 |>.trans (by kernel_rfl)) Try.und3 rfl)) ?_
                    try simp only [pA, pB, p1, p2, p3]
                    refine iW (.bool false) (exec_bin .eql 3 _ _ _ rfl (.int .i64 2) (.int .i64 0) (.bool false) (by kernel_rfl) (by kernel_rfl) (by kernel_rfl) (by kernel_rfl)) ?_
                    try simp only [pA, pB, p1, p2, p3]
                    refine iK (.bool false) ?_
                    try simp only [pA, pB, p1, p2, p3]
                    refine iZ ?_
                    try simp only [pA, pB, p1, p2, p3]
                    refine iZ ?_
                    try simp only [pA, pB, p1, p2, p3]
                    refine iZ ?_
                    try simp only [pA, pB, p1, p2, p3]
                    refine iK (.bool false) ?_
                    try simp only [pA, pB, p1, p2, p3]
                    refine WI.nil ?_
                    try simp only [pA, pB, p1, p2, p3]
                    gi_wp2
                    exact ⟨by rw [HBB.out]; exact HKF.out, HKN.out, (show Sq w [(gk1, 26, Bv.cells ⟨up, ⟨ea, en, ec⟩, ⟨la, ln, lc⟩⟩), (gk3, 3, #[.int .i64 stop]), (gk5, 4, #[.bool false]), (gk11, 26, Bv.cells ⟨up, ⟨ma0, mn0, mc0⟩, ⟨la0, ln0, lc0⟩⟩), (gk15, 56, #[.func (.func 30) #[] #[.pointer (some ⟨lb, 0, none⟩)]]), (gk19, 23, #[.slice ma ns.length mc]), (gk23, 3, #[.int .i64 0]), (gk26, 3, #[.int .i64 ((nv0 : Nat) : Int)]), (gk41, 3, #[.int .i64 1]), (gk45, 3, #[.int .i64 ((nv1 : Nat) : Int)]), (gk60, 3, #[.int .i64 2]), (gk64, 3, #[.int .i64 (((pre ++ [(⟨x, hx⟩ : { x : En // x ∈ ns })]).length : Nat) : Int)])] lb sa sc ma mc ns [D1, D0] wk73 from by rw [HLn.out]; exact Sq.front (l := [(gk1, 26, Bv.cells ⟨up, ⟨ea, en, ec⟩, ⟨la, ln, lc⟩⟩), (gk3, 3, #[.int .i64 stop]), (gk5, 4, #[.bool false]), (gk11, 26, Bv.cells ⟨up, ⟨ma0, mn0, mc0⟩, ⟨la0, ln0, lc0⟩⟩), (gk15, 56, #[.func (.func 30) #[] #[.pointer (some ⟨lb, 0, none⟩)]]), (gk19, 23, #[.slice ma ns.length mc]), (gk23, 3, #[.int .i64 0]), (gk26, 3, #[.int .i64 ((nv0 : Nat) : Int)]), (gk41, 3, #[.int .i64 1]), (gk45, 3, #[.int .i64 ((nv1 : Nat) : Int)]), (gk60, 3, #[.int .i64 2]), (gk64, 3, #[.int .i64 (((p + 1) : Nat) : Int)])]) (m := [(gk70, 3, #[.int .i64 ((jp3 : Nat) : Int)])]) HSQ.out)⟩
                case done2 =>
                  rintro ys2 W2 _ ⟨hI2, hKK, hKF⟩
                  have HSQ : Hid (Sq w [(gk1, 26, Bv.cells ⟨up, ⟨ea, en, ec⟩, ⟨la, ln, lc⟩⟩), (gk3, 3, #[.int .i64 stop]), (gk5, 4, #[.bool false]), (gk11, 26, Bv.cells ⟨up, ⟨ma0, mn0, mc0⟩, ⟨la0, ln0, lc0⟩⟩), (gk15, 56, #[.func (.func 30) #[] #[.pointer (some ⟨lb, 0, none⟩)]]), (gk19, 23, #[.slice ma ns.length mc]), (gk23, 3, #[.int .i64 0]), (gk26, 3, #[.int .i64 ((nv0 : Nat) : Int)]), (gk41, 3, #[.int .i64 1]), (gk45, 3, #[.int .i64 ((nv1 : Nat) : Int)]), (gk60, 3, #[.int .i64 2]), (gk64, 3, #[.int .i64 ((p : Nat) : Int)]), (gk70, 3, #[.int .i64 ((ys2.length : Nat) : Int)])] lb sa sc ma mc ns [D1, D0] W2) := hI2
                  have HKN : Hid (Kept (NB lb sa) W' W2) := hKK
                  have HKF : Hid (KeepsFrom B2 W' W2) := hKF
                  have HF : Hid (Fr No w W2 [(gk1, 26, Bv.cells ⟨up, ⟨ea, en, ec⟩, ⟨la, ln, lc⟩⟩), (gk3, 3, #[.int .i64 stop]), (gk5, 4, #[.bool false]), (gk11, 26, Bv.cells ⟨up, ⟨ma0, mn0, mc0⟩, ⟨la0, ln0, lc0⟩⟩), (gk15, 56, #[.func (.func 30) #[] #[.pointer (some ⟨lb, 0, none⟩)]]), (gk19, 23, #[.slice ma ns.length mc]), (gk23, 3, #[.int .i64 0]), (gk26, 3, #[.int .i64 ((nv0 : Nat) : Int)]), (gk41, 3, #[.int .i64 1]), (gk45, 3, #[.int .i64 ((nv1 : Nat) : Int)]), (gk60, 3, #[.int .i64 2]), (gk64, 3, #[.int .i64 ((p : Nat) : Int)]), (gk70, 3, #[.int .i64 ((ys2.length : Nat) : Int)])]) := hI2.fr
                  clear hI2 hKK hKF hrc hWs hBw2 hDs2
                  generalize ys2.length = jp3 at HSQ HF
                  gi_upto_region 27 with fail
                  refine WI.start ?_
                  refine iW (.int .i64 ((p : Nat) : Int)) (exec_load 3 _ rfl ⟨gk64, 0, none⟩ (by kernel_rfl) (.int .i64 ((p : Nat) : Int)) (load_one ((HF.out.box 11 _ _ _ rfl).cell 0 |>.trans (by kernel_rfl)) Try.und3 rfl)) ?_
                  try simp only [pA, pB, p1, p2, p3]
                  refine iW (.int .i64 (((p + 1) : Nat) : Int)) (exec_bin .add 3 _ _ _ rfl (.int .i64 ((p : Nat) : Int)) (.int .i64 1) (.int .i64 (((p + 1) : Nat) : Int)) (by kernel_rfl) (by kernel_rfl) (by kernel_rfl) (b_addw _ _ _ (by rw [IntKind.wrap_i64]; omega) _)) ?_
                  try simp only [pA, pB, p1, p2, p3]
                  refine wi_store 3 _ _ rfl ⟨gk64, 0, none⟩ (.int .i64 (((p + 1) : Nat) : Int)) (by kernel_rfl) (by kernel_rfl) (W2.setRow gk64 (#[.int .i64 (((p + 1) : Nat) : Int)])) (run_store_to (cur := [.int .i64 ((p : Nat) : Int)]) (vs := [.int .i64 (((p + 1) : Nat) : Int)]) (new := [.int .i64 (((p + 1) : Nat) : Int)]) (HF.out.box 11 _ _ _ rfl) (by kernel_rfl) Try.size3 (Nat.le_of_ble_eq_true (by kernel_rfl)) (by simp [Value.oneCell', Sl.v]) (by kernel_rfl)) (by kernel_rfl) ?_
                  try simp only [pA, pB, p1, p2, p3]
                  have hset := HSQ.out.set 11 rfl (.inl rfl) (#[.int .i64 (((p + 1) : Nat) : Int)])
                  have HKF : Hid (KeepsFrom B2 W' (W2.setRow gk64 (#[.int .i64 (((p + 1) : Nat) : Int)]))) := HKF.out.trans ((keepsRow (HF.out.box 11 _ _ _ rfl) _).from _)
                  have HSQ : Hid (Sq w [(gk1, 26, Bv.cells ⟨up, ⟨ea, en, ec⟩, ⟨la, ln, lc⟩⟩), (gk3, 3, #[.int .i64 stop]), (gk5, 4, #[.bool false]), (gk11, 26, Bv.cells ⟨up, ⟨ma0, mn0, mc0⟩, ⟨la0, ln0, lc0⟩⟩), (gk15, 56, #[.func (.func 30) #[] #[.pointer (some ⟨lb, 0, none⟩)]]), (gk19, 23, #[.slice ma ns.length mc]), (gk23, 3, #[.int .i64 0]), (gk26, 3, #[.int .i64 ((nv0 : Nat) : Int)]), (gk41, 3, #[.int .i64 1]), (gk45, 3, #[.int .i64 ((nv1 : Nat) : Int)]), (gk60, 3, #[.int .i64 2]), (gk64, 3, #[.int .i64 (((p + 1) : Nat) : Int)]), (gk70, 3, #[.int .i64 ((jp3 : Nat) : Int)])] lb sa sc ma mc ns [D1, D0] (W2.setRow gk64 (#[.int .i64 (((p + 1) : Nat) : Int)]))) := hset.1
                  have HKN : Hid (Kept (NB lb sa) W' (W2.setRow gk64 (#[.int .i64 (((p + 1) : Nat) : Int)]))) := HKN.out.then hset.2
                  clear hset
                  have HF : Hid (Fr No w (W2.setRow gk64 (#[.int .i64 (((p + 1) : Nat) : Int)])) [(gk1, 26, Bv.cells ⟨up, ⟨ea, en, ec⟩, ⟨la, ln, lc⟩⟩), (gk3, 3, #[.int .i64 stop]), (gk5, 4, #[.bool false]), (gk11, 26, Bv.cells ⟨up, ⟨ma0, mn0, mc0⟩, ⟨la0, ln0, lc0⟩⟩), (gk15, 56, #[.func (.func 30) #[] #[.pointer (some ⟨lb, 0, none⟩)]]), (gk19, 23, #[.slice ma ns.length mc]), (gk23, 3, #[.int .i64 0]), (gk26, 3, #[.int .i64 ((nv0 : Nat) : Int)]), (gk41, 3, #[.int .i64 1]), (gk45, 3, #[.int .i64 ((nv1 : Nat) : Int)]), (gk60, 3, #[.int .i64 2]), (gk64, 3, #[.int .i64 (((p + 1) : Nat) : Int)]), (gk70, 3, #[.int .i64 ((jp3 : Nat) : Int)])]) := HSQ.out.fr
                  generalize W2.setRow gk64 (#[.int .i64 (((p + 1) : Nat) : Int)]) = wk74 at HF HSQ HKN HKF ⊢
                  refine WI.nil ?_
                  try simp only [pA, pB, p1, p2, p3]
                  gi_upto_region 28 with fail
                  refine WI.start ?_
                  refine iW (.int .i64 2) (exec_load 3 _ rfl ⟨gk60, 0, none⟩ (by kernel_rfl) (.int .i64 2) (load_one ((HF.out.box 10 _ _ _ rfl).cell 0 |>.trans (by kernel_rfl)) Try.und3 rfl)) ?_
                  try simp only [pA, pB, p1, p2, p3]
                  refine iW (.bool false) (exec_bin .eql 3 _ _ _ rfl (.int .i64 2) (.int .i64 0) (.bool false) (by kernel_rfl) (by kernel_rfl) (by kernel_rfl) (by kernel_rfl)) ?_
                  try simp only [pA, pB, p1, p2, p3]
                  refine iK (.bool false) ?_
                  try simp only [pA, pB, p1, p2, p3]
                  refine iZ ?_
                  try simp only [pA, pB, p1, p2, p3]
                  refine iZ ?_
                  try simp only [pA, pB, p1, p2, p3]
                  refine iZ ?_
                  try simp only [pA, pB, p1, p2, p3]
                  refine iK (.bool false) ?_
                  try simp only [pA, pB, p1, p2, p3]
                  refine WI.nil ?_
                  try simp only [pA, pB, p1, p2, p3]
                  gi_wp2
                  exact ⟨by rw [HBB.out]; exact HKF.out, HKN.out, (show Sq w [(gk1, 26, Bv.cells ⟨up, ⟨ea, en, ec⟩, ⟨la, ln, lc⟩⟩), (gk3, 3, #[.int .i64 stop]), (gk5, 4, #[.bool false]), (gk11, 26, Bv.cells ⟨up, ⟨ma0, mn0, mc0⟩, ⟨la0, ln0, lc0⟩⟩), (gk15, 56, #[.func (.func 30) #[] #[.pointer (some ⟨lb, 0, none⟩)]]), (gk19, 23, #[.slice ma ns.length mc]), (gk23, 3, #[.int .i64 0]), (gk26, 3, #[.int .i64 ((nv0 : Nat) : Int)]), (gk41, 3, #[.int .i64 1]), (gk45, 3, #[.int .i64 ((nv1 : Nat) : Int)]), (gk60, 3, #[.int .i64 2]), (gk64, 3, #[.int .i64 (((pre ++ [(⟨x, hx⟩ : { x : En // x ∈ ns })]).length : Nat) : Int)])] lb sa sc ma mc ns [D1, D0] wk74 from by rw [HLn.out]; exact Sq.front (l := [(gk1, 26, Bv.cells ⟨up, ⟨ea, en, ec⟩, ⟨la, ln, lc⟩⟩), (gk3, 3, #[.int .i64 stop]), (gk5, 4, #[.bool false]), (gk11, 26, Bv.cells ⟨up, ⟨ma0, mn0, mc0⟩, ⟨la0, ln0, lc0⟩⟩), (gk15, 56, #[.func (.func 30) #[] #[.pointer (some ⟨lb, 0, none⟩)]]), (gk19, 23, #[.slice ma ns.length mc]), (gk23, 3, #[.int .i64 0]), (gk26, 3, #[.int .i64 ((nv0 : Nat) : Int)]), (gk41, 3, #[.int .i64 1]), (gk45, 3, #[.int .i64 ((nv1 : Nat) : Int)]), (gk60, 3, #[.int .i64 2]), (gk64, 3, #[.int .i64 (((p + 1) : Nat) : Int)])]) (m := [(gk70, 3, #[.int .i64 ((jp3 : Nat) : Int)])]) HSQ.out)⟩
                case body2 =>
                  rintro l2 pre2 ⟨y2, hy2⟩ vb2 W2 hl2 hlo2 ⟨hI2, hKK, hKFo⟩ hbv2 hlen2
                  have HKNo : Hid (Kept (NB lb sa) W' W2) := hKK
                  have HKFo : Hid (KeepsFrom B2 W' W2) := hKFo
                  have HSQ : Hid (Sq w [(gk1, 26, Bv.cells ⟨up, ⟨ea, en, ec⟩, ⟨la, ln, lc⟩⟩), (gk3, 3, #[.int .i64 stop]), (gk5, 4, #[.bool false]), (gk11, 26, Bv.cells ⟨up, ⟨ma0, mn0, mc0⟩, ⟨la0, ln0, lc0⟩⟩), (gk15, 56, #[.func (.func 30) #[] #[.pointer (some ⟨lb, 0, none⟩)]]), (gk19, 23, #[.slice ma ns.length mc]), (gk23, 3, #[.int .i64 0]), (gk26, 3, #[.int .i64 ((nv0 : Nat) : Int)]), (gk41, 3, #[.int .i64 1]), (gk45, 3, #[.int .i64 ((nv1 : Nat) : Int)]), (gk60, 3, #[.int .i64 2]), (gk64, 3, #[.int .i64 ((p : Nat) : Int)]), (gk70, 3, #[.int .i64 ((pre2.length : Nat) : Int)])] lb sa sc ma mc ns [D1, D0] W2) := hI2
                  have HV2 : Hid (Box W2 vb2 34 (En.cells y2)) := hbv2
                  have HKN : Hid (Kept (NB lb sa) W2 W2) := Kept.refl _ _
                  have HKF : Hid (KeepsFrom B2 W2 W2) := KeepsFrom.refl _ _
                  have HF : Hid (Fr No w W2 [(gk1, 26, Bv.cells ⟨up, ⟨ea, en, ec⟩, ⟨la, ln, lc⟩⟩), (gk3, 3, #[.int .i64 stop]), (gk5, 4, #[.bool false]), (gk11, 26, Bv.cells ⟨up, ⟨ma0, mn0, mc0⟩, ⟨la0, ln0, lc0⟩⟩), (gk15, 56, #[.func (.func 30) #[] #[.pointer (some ⟨lb, 0, none⟩)]]), (gk19, 23, #[.slice ma ns.length mc]), (gk23, 3, #[.int .i64 0]), (gk26, 3, #[.int .i64 ((nv0 : Nat) : Int)]), (gk41, 3, #[.int .i64 1]), (gk45, 3, #[.int .i64 ((nv1 : Nat) : Int)]), (gk60, 3, #[.int .i64 2]), (gk64, 3, #[.int .i64 ((p : Nat) : Int)]), (gk70, 3, #[.int .i64 ((pre2.length : Nat) : Int)])]) := hI2.fr
                  have hlen2 : pre2.length < ns.length := hlen2
                  have HPy : Hid (¬ y2 = eAt ns pre2.length → ¬ vals (pre2 ++ [(⟨y2, hy2⟩ : { x : En // x ∈ ns })]) <+: ns) := fun h9 hp => h9 (by rw [vals_snoc] at hp; have h8 := pre_is hp; rw [vals_len, eAt_some hlen2] at h8; exact (Option.some.inj h8).symm)
                  have HLn2 : Hid ((pre2 ++ [(⟨y2, hy2⟩ : { x : En // x ∈ ns })]).length = pre2.length + 1) := by show _ = _; simp
                  obtain ⟨jp2, hp2⟩ : ∃ jp2, jp2 = pre2.length := ⟨_, rfl⟩
                  rw [← hp2] at HSQ HF HPy HLn2 hlen2
                  clear hI2 hbv2 hp2 hKK hKFo hlo2 hrc
                  obtain ⟨pb2, po2, hca, hcc⟩ := (show Es W2 ma ns from HSQ.out.wt.rd.row).at hlen2
                  have hsl2 : Hid (Value.slice ma ns.length mc = .slice (some ⟨pb2, po2, none⟩) ns.length mc) := congrArg (fun y => Value.slice y ns.length mc) hca
                  obtain ⟨z2, hz2⟩ : ∃ z2, z2 = eAt ns jp2 := ⟨_, rfl⟩
                  rw [← hz2] at hcc HPy
                  have HCC2 : Hid (∀ (j : Nat) v, (En.cs z2)[j]? = some v → W2.cell? ⟨pb2, po2 + jp2 * 4 + j, none⟩ = some v) := show ∀ (j : Nat) v, (En.cs z2)[j]? = some v → W2.cell? ⟨pb2, po2 + jp2 * 4 + j, none⟩ = some v from hcc
                  clear hca hcc hz2
                  simp only
                  gi_upto_region 23 with fail
                  refine region_round (F := Fence.wide) rfl hmix (by kernel_rfl) (by kernel_rfl) ?_
                  refine qT (.int .i64 ((jp2 : Nat) : Int)) (fun w' hw => exec_load 3 _ rfl ⟨gk70, 0, none⟩ (by kernel_rfl) (.int .i64 ((jp2 : Nat) : Int)) (load_one (((HF.out.box 12 _ _ _ rfl).kept (qk hw) (fun e => e)).cell 0 |>.trans (by kernel_rfl)) Try.und3 rfl)) ?_
                  try simp only [pA, pB, p1, p2, p3]
                  refine qT (.slice ma ns.length mc) (fun w' hw => exec_load 23 _ rfl ⟨gk19, 0, none⟩ (by kernel_rfl) (.slice ma ns.length mc) (load_one (((HF.out.box 5 _ _ _ rfl).kept (qk hw) (fun e => e)).cell 0 |>.trans (by kernel_rfl)) Try.und22 rfl)) ?_
                  try simp only [pA, pB, p1, p2, p3]
                  refine qK (.int .i64 ((ns.length : Nat) : Int)) ?_
                  try simp only [pA, pB, p1, p2, p3]
                  refine qT (.bool false) (fun w' hw => exec_bin .geq 3 _ _ _ rfl (.int .i64 ((jp2 : Nat) : Int)) (.int .i64 ((ns.length : Nat) : Int)) (.bool false) (by kernel_rfl) (by kernel_rfl) (by kernel_rfl) (by rw [b_geq, decide_eq_false (by omega)])) ?_
                  try simp only [pA, pB, p1, p2, p3]
                  refine qK (.bool false) ?_
                  try simp only [pA, pB, p1, p2, p3]
                  refine qT (.agg (En.cells y2)) (fun w' hw => exec_load 34 _ rfl ⟨vb2, 0, none⟩ (by kernel_rfl) (.agg (En.cells y2)) (ld54 (HV2.out.kept (qk hw) (fun e => e)))) ?_
                  try simp only [pA, pB, p1, p2, p3]
                  refine qT (.slice ma ns.length mc) (fun w' hw => exec_load 23 _ rfl ⟨gk19, 0, none⟩ (by kernel_rfl) (.slice ma ns.length mc) (load_one (((HF.out.box 5 _ _ _ rfl).kept (qk hw) (fun e => e)).cell 0 |>.trans (by kernel_rfl)) Try.und22 rfl)) ?_
                  try simp only [pA, pB, p1, p2, p3]
                  refine qT (.int .i64 ((jp2 : Nat) : Int)) (fun w' hw => exec_load 3 _ rfl ⟨gk70, 0, none⟩ (by kernel_rfl) (.int .i64 ((jp2 : Nat) : Int)) (load_one (((HF.out.box 12 _ _ _ rfl).kept (qk hw) (fun e => e)).cell 0 |>.trans (by kernel_rfl)) Try.und3 rfl)) ?_
                  try simp only [pA, pB, p1, p2, p3]
                  refine qT (.pointer (some ⟨pb2, po2 + jp2 * 4, none⟩)) (fun w' hw => exec_ixA 23 4 Try.und22e Try.size22e _ _ rfl pb2 po2 ns.length mc jp2 (Eq.trans (b := .slice ma ns.length mc) (by kernel_rfl) hsl2.out) (by kernel_rfl) hlen2) ?_
                  try simp only [pA, pB, p1, p2, p3]
                  refine qT (.agg (En.cells z2)) (fun w' hw => exec_load 34 _ rfl ⟨pb2, po2 + jp2 * 4, none⟩ (by kernel_rfl) (.agg (En.cells z2)) (load_E (fun j v hv => (qk hw).cell (HCC2.out j v hv) (fun e => e)))) ?_
                  try simp only [pA, pB, p1, p2, p3]
                  cases q11 : (eqE y2 z2)
                  ·skip
                   refine qT (.bool true) (fun w' hw => exec_bin .neq 34 _ _ _ rfl (.agg (En.cells y2)) (.agg (En.cells z2)) (.bool true) (by kernel_rfl) (by kernel_rfl) (by kernel_rfl) (by rw [eqE_neq, q11]; try rfl)) ?_
                   try simp only [pA, pB, p1, p2, p3]
                   refine qK (.bool true) ?_
                   try simp only [pA, pB, p1, p2, p3]
                   refine wpQuietIn_nil ?_
                   intro w9 hw9
                   obtain ⟨nq, rfl⟩ := hw9
                   have HSQ : Hid (Sq w [(gk1, 26, Bv.cells ⟨up, ⟨ea, en, ec⟩, ⟨la, ln, lc⟩⟩), (gk3, 3, #[.int .i64 stop]), (gk5, 4, #[.bool false]), (gk11, 26, Bv.cells ⟨up, ⟨ma0, mn0, mc0⟩, ⟨la0, ln0, lc0⟩⟩), (gk15, 56, #[.func (.func 30) #[] #[.pointer (some ⟨lb, 0, none⟩)]]), (gk19, 23, #[.slice ma ns.length mc]), (gk23, 3, #[.int .i64 0]), (gk26, 3, #[.int .i64 ((nv0 : Nat) : Int)]), (gk41, 3, #[.int .i64 1]), (gk45, 3, #[.int .i64 ((nv1 : Nat) : Int)]), (gk60, 3, #[.int .i64 2]), (gk64, 3, #[.int .i64 ((p : Nat) : Int)]), (gk70, 3, #[.int .i64 ((jp2 : Nat) : Int)])] lb sa sc ma mc ns [D1, D0] (W2.drewN nq)) := HSQ.out.no (Kept.no_drewN _ nq)
                   have HKN : Hid (Kept (NB lb sa) W2 (W2.drewN nq)) := HKN.out.then (Kept.no_drewN _ nq).of_no
                   have HKF : Hid (KeepsFrom B2 W2 (W2.drewN nq)) := HKF.out.trans ((keepsN _ nq).from _)
                   have HF : Hid (Fr No w (W2.drewN nq) [(gk1, 26, Bv.cells ⟨up, ⟨ea, en, ec⟩, ⟨la, ln, lc⟩⟩), (gk3, 3, #[.int .i64 stop]), (gk5, 4, #[.bool false]), (gk11, 26, Bv.cells ⟨up, ⟨ma0, mn0, mc0⟩, ⟨la0, ln0, lc0⟩⟩), (gk15, 56, #[.func (.func 30) #[] #[.pointer (some ⟨lb, 0, none⟩)]]), (gk19, 23, #[.slice ma ns.length mc]), (gk23, 3, #[.int .i64 0]), (gk26, 3, #[.int .i64 ((nv0 : Nat) : Int)]), (gk41, 3, #[.int .i64 1]), (gk45, 3, #[.int .i64 ((nv1 : Nat) : Int)]), (gk60, 3, #[.int .i64 2]), (gk64, 3, #[.int .i64 ((p : Nat) : Int)]), (gk70, 3, #[.int .i64 ((jp2 : Nat) : Int)])]) := HSQ.out.fr
                   generalize W2.drewN nq = wk75 at HF HSQ HKN HKF ⊢
                   have hne : ¬ y2 = z2 := fun e => by rw [e, eqE_iff.2 rfl] at q11; cases q11
                   gi_upto_region 24 with fail
                   refine WI.start ?_
                   refine wi_store 4 _ _ rfl ⟨gk5, 0, none⟩ (.bool false) (by kernel_rfl) (by kernel_rfl) (wk75.setRow gk5 (#[.bool false])) (run_store_to (cur := [.bool false]) (vs := [.bool false]) (new := [.bool false]) (HF.out.box 2 _ _ _ rfl) (by kernel_rfl) Try.size4 (Nat.le_of_ble_eq_true (by kernel_rfl)) (by simp [Value.oneCell', Sl.v]) (by kernel_rfl)) (by kernel_rfl) ?_
                   try simp only [pA, pB, p1, p2, p3]
                   have hset := HSQ.out.set 2 rfl (.inr rfl) (#[.bool false])
                   have HKF : Hid (KeepsFrom B2 W2 (wk75.setRow gk5 (#[.bool false]))) := HKF.out.trans ((keepsRow (HF.out.box 2 _ _ _ rfl) _).from _)
                   have HSQ : Hid (Sq w [(gk1, 26, Bv.cells ⟨up, ⟨ea, en, ec⟩, ⟨la, ln, lc⟩⟩), (gk3, 3, #[.int .i64 stop]), (gk5, 4, #[.bool false]), (gk11, 26, Bv.cells ⟨up, ⟨ma0, mn0, mc0⟩, ⟨la0, ln0, lc0⟩⟩), (gk15, 56, #[.func (.func 30) #[] #[.pointer (some ⟨lb, 0, none⟩)]]), (gk19, 23, #[.slice ma ns.length mc]), (gk23, 3, #[.int .i64 0]), (gk26, 3, #[.int .i64 ((nv0 : Nat) : Int)]), (gk41, 3, #[.int .i64 1]), (gk45, 3, #[.int .i64 ((nv1 : Nat) : Int)]), (gk60, 3, #[.int .i64 2]), (gk64, 3, #[.int .i64 ((p : Nat) : Int)]), (gk70, 3, #[.int .i64 ((jp2 : Nat) : Int)])] lb sa sc ma mc ns [D1, D0] (wk75.setRow gk5 (#[.bool false]))) := hset.1
                   have HKN : Hid (Kept (NB lb sa) W2 (wk75.setRow gk5 (#[.bool false]))) := HKN.out.then hset.2
                   clear hset
                   have HF : Hid (Fr No w (wk75.setRow gk5 (#[.bool false])) [(gk1, 26, Bv.cells ⟨up, ⟨ea, en, ec⟩, ⟨la, ln, lc⟩⟩), (gk3, 3, #[.int .i64 stop]), (gk5, 4, #[.bool false]), (gk11, 26, Bv.cells ⟨up, ⟨ma0, mn0, mc0⟩, ⟨la0, ln0, lc0⟩⟩), (gk15, 56, #[.func (.func 30) #[] #[.pointer (some ⟨lb, 0, none⟩)]]), (gk19, 23, #[.slice ma ns.length mc]), (gk23, 3, #[.int .i64 0]), (gk26, 3, #[.int .i64 ((nv0 : Nat) : Int)]), (gk41, 3, #[.int .i64 1]), (gk45, 3, #[.int .i64 ((nv1 : Nat) : Int)]), (gk60, 3, #[.int .i64 2]), (gk64, 3, #[.int .i64 ((p : Nat) : Int)]), (gk70, 3, #[.int .i64 ((jp2 : Nat) : Int)])]) := HSQ.out.fr
                   generalize wk75.setRow gk5 (#[.bool false]) = wk76 at HF HSQ HKN HKF ⊢
                   refine WI.nil ?_
                   try simp only [pA, pB, p1, p2, p3]
                   gi_wp2
                   exact ⟨(kf_mono HKF.out hBi), .inl ⟨rfl, HPy.out hne⟩⟩
                  ·skip
                   refine qT (.bool false) (fun w' hw => exec_bin .neq 34 _ _ _ rfl (.agg (En.cells y2)) (.agg (En.cells z2)) (.bool false) (by kernel_rfl) (by kernel_rfl) (by kernel_rfl) (by rw [eqE_neq, q11]; try rfl)) ?_
                   try simp only [pA, pB, p1, p2, p3]
                   refine qK (.bool false) ?_
                   try simp only [pA, pB, p1, p2, p3]
                   refine wpQuietIn_nil ?_
                   intro w9 hw9
                   obtain ⟨nq, rfl⟩ := hw9
                   have HSQ : Hid (Sq w [(gk1, 26, Bv.cells ⟨up, ⟨ea, en, ec⟩, ⟨la, ln, lc⟩⟩), (gk3, 3, #[.int .i64 stop]), (gk5, 4, #[.bool false]), (gk11, 26, Bv.cells ⟨up, ⟨ma0, mn0, mc0⟩, ⟨la0, ln0, lc0⟩⟩), (gk15, 56, #[.func (.func 30) #[] #[.pointer (some ⟨lb, 0, none⟩)]]), (gk19, 23, #[.slice ma ns.length mc]), (gk23, 3, #[.int .i64 0]), (gk26, 3, #[.int .i64 ((nv0 : Nat) : Int)]), (gk41, 3, #[.int .i64 1]), (gk45, 3, #[.int .i64 ((nv1 : Nat) : Int)]), (gk60, 3, #[.int .i64 2]), (gk64, 3, #[.int .i64 ((p : Nat) : Int)]), (gk70, 3, #[.int .i64 ((jp2 : Nat) : Int)])] lb sa sc ma mc ns [D1, D0] (W2.drewN nq)) := HSQ.out.no (Kept.no_drewN _ nq)
                   have HKN : Hid (Kept (NB lb sa) W2 (W2.drewN nq)) := HKN.out.then (Kept.no_drewN _ nq).of_no
                   have HKF : Hid (KeepsFrom B2 W2 (W2.drewN nq)) := HKF.out.trans ((keepsN _ nq).from _)
                   have HF : Hid (Fr No w (W2.drewN nq) [(gk1, 26, Bv.cells ⟨up, ⟨ea, en, ec⟩, ⟨la, ln, lc⟩⟩), (gk3, 3, #[.int .i64 stop]), (gk5, 4, #[.bool false]), (gk11, 26, Bv.cells ⟨up, ⟨ma0, mn0, mc0⟩, ⟨la0, ln0, lc0⟩⟩), (gk15, 56, #[.func (.func 30) #[] #[.pointer (some ⟨lb, 0, none⟩)]]), (gk19, 23, #[.slice ma ns.length mc]), (gk23, 3, #[.int .i64 0]), (gk26, 3, #[.int .i64 ((nv0 : Nat) : Int)]), (gk41, 3, #[.int .i64 1]), (gk45, 3, #[.int .i64 ((nv1 : Nat) : Int)]), (gk60, 3, #[.int .i64 2]), (gk64, 3, #[.int .i64 ((p : Nat) : Int)]), (gk70, 3, #[.int .i64 ((jp2 : Nat) : Int)])]) := HSQ.out.fr
                   generalize W2.drewN nq = wk77 at HF HSQ HKN HKF ⊢
                   gi_upto_region 25 with fail
                   refine WI.start ?_
                   refine iW (.int .i64 ((jp2 : Nat) : Int)) (exec_load 3 _ rfl ⟨gk70, 0, none⟩ (by kernel_rfl) (.int .i64 ((jp2 : Nat) : Int)) (load_one ((HF.out.box 12 _ _ _ rfl).cell 0 |>.trans (by kernel_rfl)) Try.und3 rfl)) ?_
                   try simp only [pA, pB, p1, p2, p3]
                   refine iW (.int .i64 (((jp2 + 1) : Nat) : Int)) (exec_bin .add 3 _ _ _ rfl (.int .i64 ((jp2 : Nat) : Int)) (.int .i64 1) (.int .i64 (((jp2 + 1) : Nat) : Int)) (by kernel_rfl) (by kernel_rfl) (by kernel_rfl) (b_addw _ _ _ (by rw [IntKind.wrap_i64]; omega) _)) ?_
                   try simp only [pA, pB, p1, p2, p3]
                   refine wi_store 3 _ _ rfl ⟨gk70, 0, none⟩ (.int .i64 (((jp2 + 1) : Nat) : Int)) (by kernel_rfl) (by kernel_rfl) (wk77.setRow gk70 (#[.int .i64 (((jp2 + 1) : Nat) : Int)])) (run_store_to (cur := [.int .i64 ((jp2 : Nat) : Int)]) (vs := [.int .i64 (((jp2 + 1) : Nat) : Int)]) (new := [.int .i64 (((jp2 + 1) : Nat) : Int)]) (HF.out.box 12 _ _ _ rfl) (by kernel_rfl) Try.size3 (Nat.le_of_ble_eq_true (by kernel_rfl)) (by simp [Value.oneCell', Sl.v]) (by kernel_rfl)) (by kernel_rfl) ?_
                   try simp only [pA, pB, p1, p2, p3]
                   have hset := HSQ.out.set 12 rfl (.inl rfl) (#[.int .i64 (((jp2 + 1) : Nat) : Int)])
                   have HKF : Hid (KeepsFrom B2 W2 (wk77.setRow gk70 (#[.int .i64 (((jp2 + 1) : Nat) : Int)]))) := HKF.out.trans ((keepsRow (HF.out.box 12 _ _ _ rfl) _).from _)
                   have HSQ : Hid (Sq w [(gk1, 26, Bv.cells ⟨up, ⟨ea, en, ec⟩, ⟨la, ln, lc⟩⟩), (gk3, 3, #[.int .i64 stop]), (gk5, 4, #[.bool false]), (gk11, 26, Bv.cells ⟨up, ⟨ma0, mn0, mc0⟩, ⟨la0, ln0, lc0⟩⟩), (gk15, 56, #[.func (.func 30) #[] #[.pointer (some ⟨lb, 0, none⟩)]]), (gk19, 23, #[.slice ma ns.length mc]), (gk23, 3, #[.int .i64 0]), (gk26, 3, #[.int .i64 ((nv0 : Nat) : Int)]), (gk41, 3, #[.int .i64 1]), (gk45, 3, #[.int .i64 ((nv1 : Nat) : Int)]), (gk60, 3, #[.int .i64 2]), (gk64, 3, #[.int .i64 ((p : Nat) : Int)]), (gk70, 3, #[.int .i64 (((jp2 + 1) : Nat) : Int)])] lb sa sc ma mc ns [D1, D0] (wk77.setRow gk70 (#[.int .i64 (((jp2 + 1) : Nat) : Int)]))) := hset.1
                   have HKN : Hid (Kept (NB lb sa) W2 (wk77.setRow gk70 (#[.int .i64 (((jp2 + 1) : Nat) : Int)]))) := HKN.out.then hset.2
                   clear hset
                   have HF : Hid (Fr No w (wk77.setRow gk70 (#[.int .i64 (((jp2 + 1) : Nat) : Int)])) [(gk1, 26, Bv.cells ⟨up, ⟨ea, en, ec⟩, ⟨la, ln, lc⟩⟩), (gk3, 3, #[.int .i64 stop]), (gk5, 4, #[.bool false]), (gk11, 26, Bv.cells ⟨up, ⟨ma0, mn0, mc0⟩, ⟨la0, ln0, lc0⟩⟩), (gk15, 56, #[.func (.func 30) #[] #[.pointer (some ⟨lb, 0, none⟩)]]), (gk19, 23, #[.slice ma ns.length mc]), (gk23, 3, #[.int .i64 0]), (gk26, 3, #[.int .i64 ((nv0 : Nat) : Int)]), (gk41, 3, #[.int .i64 1]), (gk45, 3, #[.int .i64 ((nv1 : Nat) : Int)]), (gk60, 3, #[.int .i64 2]), (gk64, 3, #[.int .i64 ((p : Nat) : Int)]), (gk70, 3, #[.int .i64 (((jp2 + 1) : Nat) : Int)])]) := HSQ.out.fr
                   generalize wk77.setRow gk70 (#[.int .i64 (((jp2 + 1) : Nat) : Int)]) = wk78 at HF HSQ HKN HKF ⊢
                   refine WI.nil ?_
                   try simp only [pA, pB, p1, p2, p3]
                   gi_upto_region 26 with fail
                   refine WI.start ?_
                   refine iW (.int .i64 (((jp2 + 1) : Nat) : Int)) (exec_load 3 _ rfl ⟨gk70, 0, none⟩ (by kernel_rfl) (.int .i64 (((jp2 + 1) : Nat) : Int)) (load_one ((HF.out.box 12 _ _ _ rfl).cell 0 |>.trans (by kernel_rfl)) Try.und3 rfl)) ?_
                   try simp only [pA, pB, p1, p2, p3]
                   cases q12 : (decide (2 < (((jp2 + 1) : Nat) : Int)))
                   ·skip
                    refine iW (.bool false) (exec_bin .gtr 3 _ _ _ rfl (.int .i64 (((jp2 + 1) : Nat) : Int)) (.int .i64 2) (.bool false) (by kernel_rfl) (by kernel_rfl) (by kernel_rfl) (by rw [b_gtr, q12]; try rfl)) ?_
                    try simp only [pA, pB, p1, p2, p3]
                    refine WI.nil ?_
                    try simp only [pA, pB, p1, p2, p3]
                    gi_wp2
                    exact ⟨(kf_mono HKF.out hBi), HKN.out, (show Sq w [(gk1, 26, Bv.cells ⟨up, ⟨ea, en, ec⟩, ⟨la, ln, lc⟩⟩), (gk3, 3, #[.int .i64 stop]), (gk5, 4, #[.bool false]), (gk11, 26, Bv.cells ⟨up, ⟨ma0, mn0, mc0⟩, ⟨la0, ln0, lc0⟩⟩), (gk15, 56, #[.func (.func 30) #[] #[.pointer (some ⟨lb, 0, none⟩)]]), (gk19, 23, #[.slice ma ns.length mc]), (gk23, 3, #[.int .i64 0]), (gk26, 3, #[.int .i64 ((nv0 : Nat) : Int)]), (gk41, 3, #[.int .i64 1]), (gk45, 3, #[.int .i64 ((nv1 : Nat) : Int)]), (gk60, 3, #[.int .i64 2]), (gk64, 3, #[.int .i64 ((p : Nat) : Int)]), (gk70, 3, #[.int .i64 (((pre2 ++ [(⟨y2, hy2⟩ : { x : En // x ∈ ns })]).length : Nat) : Int)])] lb sa sc ma mc ns [D1, D0] wk78 from by rw [HLn2.out]; exact HSQ.out), HKNo.out.then HKN.out, HKFo.out.trans HKF.out⟩
                   ·skip
                    refine iW (.bool true) (exec_bin .gtr 3 _ _ _ rfl (.int .i64 (((jp2 + 1) : Nat) : Int)) (.int .i64 2) (.bool true) (by kernel_rfl) (by kernel_rfl) (by kernel_rfl) (by rw [b_gtr, q12]; try rfl)) ?_
                    try simp only [pA, pB, p1, p2, p3]
                    refine WI.nil ?_
                    try simp only [pA, pB, p1, p2, p3]
                    gi_wp2
                    exact ⟨(kf_mono HKF.out hBi), .inr ⟨rfl, (show Sq w [(gk1, 26, Bv.cells ⟨up, ⟨ea, en, ec⟩, ⟨la, ln, lc⟩⟩), (gk3, 3, #[.int .i64 stop]), (gk5, 4, #[.bool false]), (gk11, 26, Bv.cells ⟨up, ⟨ma0, mn0, mc0⟩, ⟨la0, ln0, lc0⟩⟩), (gk15, 56, #[.func (.func 30) #[] #[.pointer (some ⟨lb, 0, none⟩)]]), (gk19, 23, #[.slice ma ns.length mc]), (gk23, 3, #[.int .i64 0]), (gk26, 3, #[.int .i64 ((nv0 : Nat) : Int)]), (gk41, 3, #[.int .i64 1]), (gk45, 3, #[.int .i64 ((nv1 : Nat) : Int)]), (gk60, 3, #[.int .i64 2]), (gk64, 3, #[.int .i64 ((p : Nat) : Int)]), (gk70, 3, #[.int .i64 (((pre2 ++ [(⟨y2, hy2⟩ : { x : En // x ∈ ns })]).length : Nat) : Int)])] lb sa sc ma mc ns [D1, D0] wk78 from by rw [HLn2.out]; exact HSQ.out), HKNo.out.then HKN.out, HKFo.out.trans HKF.out⟩⟩
           · clear HSQ HF hB2
             rintro D2 W2 ⟨hD2, hdf2, nv2, hnv2, hsq2⟩
             have hDw2 : w.heap.size ≤ D2 := Nat.le_trans hBw2 hD2
             have hDn2 : D2 ∉ ([D1, D0] : List Nat) := fun h9 => by have h8 := hDs2 _ h9; omega
             have HSQ : Hid (Sq w [(gk1, 26, Bv.cells ⟨up, ⟨ea, en, ec⟩, ⟨la, ln, lc⟩⟩), (gk3, 3, #[.int .i64 stop]), (gk5, 4, #[.bool false]), (gk11, 26, Bv.cells ⟨up, ⟨ma0, mn0, mc0⟩, ⟨la0, ln0, lc0⟩⟩), (gk15, 56, #[.func (.func 30) #[] #[.pointer (some ⟨lb, 0, none⟩)]]), (gk19, 23, #[.slice ma ns.length mc]), (gk23, 3, #[.int .i64 0]), (gk26, 3, #[.int .i64 ((nv0 : Nat) : Int)]), (gk41, 3, #[.int .i64 1]), (gk45, 3, #[.int .i64 ((nv1 : Nat) : Int)]), (gk60, 3, #[.int .i64 2]), (gk64, 3, #[.int .i64 ((nv2 : Nat) : Int)])] lb sa sc ma mc ns [D2, D1, D0] W2) := ⟨hsq2.fr, hsq2.sq, hsq2.wt, fun D hD => by rcases List.mem_cons.1 hD with e | e; rw [e]; exact hdf2; exact hsq2.df D e⟩
             have HF : Hid (Fr No w W2 [(gk1, 26, Bv.cells ⟨up, ⟨ea, en, ec⟩, ⟨la, ln, lc⟩⟩), (gk3, 3, #[.int .i64 stop]), (gk5, 4, #[.bool false]), (gk11, 26, Bv.cells ⟨up, ⟨ma0, mn0, mc0⟩, ⟨la0, ln0, lc0⟩⟩), (gk15, 56, #[.func (.func 30) #[] #[.pointer (some ⟨lb, 0, none⟩)]]), (gk19, 23, #[.slice ma ns.length mc]), (gk23, 3, #[.int .i64 0]), (gk26, 3, #[.int .i64 ((nv0 : Nat) : Int)]), (gk41, 3, #[.int .i64 1]), (gk45, 3, #[.int .i64 ((nv1 : Nat) : Int)]), (gk60, 3, #[.int .i64 2]), (gk64, 3, #[.int .i64 ((nv2 : Nat) : Int)])]) := HSQ.out.fr
             clear hsq2 hdf2
             have HSQ0 : Hid (Sq w [(gk1, 26, Bv.cells ⟨up, ⟨ea, en, ec⟩, ⟨la, ln, lc⟩⟩), (gk3, 3, #[.int .i64 stop]), (gk5, 4, #[.bool false]), (gk11, 26, Bv.cells ⟨up, ⟨ma0, mn0, mc0⟩, ⟨la0, ln0, lc0⟩⟩), (gk15, 56, #[.func (.func 30) #[] #[.pointer (some ⟨lb, 0, none⟩)]]), (gk19, 23, #[.slice ma ns.length mc]), (gk23, 3, #[.int .i64 0]), (gk26, 3, #[.int .i64 ((nv0 : Nat) : Int)]), (gk41, 3, #[.int .i64 1]), (gk45, 3, #[.int .i64 ((nv1 : Nat) : Int)]), (gk60, 3, #[.int .i64 2]), (gk64, 3, #[.int .i64 ((nv2 : Nat) : Int)])] lb sa sc ma mc ns [D2, D1, D0] W2) := HSQ
             clear HSQ
             have HK0 : Hid (Kept No W2 W2) := Kept.refl _ _
             obtain ⟨s0, hs0⟩ : ∃ n, W2.heap.size = n := ⟨_, rfl⟩
             have HS0 : Hid (W2.heap.size = s0) := hs0
             clear hs0
             go_upto_region 29 with fail
             refine WL.start ?_
             refine tW (.int .i64 2) (exec_load 3 _ rfl ⟨gk60, 0, none⟩ (by kernel_rfl) (.int .i64 2) (load_one ((HF.out.box 10 _ _ _ rfl).cell 0 |>.trans (by kernel_rfl)) Try.und3 rfl)) ?_
             try simp only [pA, pB, p1, p2, p3]
             refine tW (.bool true) (exec_bin .gtr 3 _ _ _ rfl (.int .i64 2) (.int .i64 0) (.bool true) (by kernel_rfl) (by kernel_rfl) (by kernel_rfl) (by kernel_rfl)) ?_
             try simp only [pA, pB, p1, p2, p3]
             refine tK (.bool true) ?_
             try simp only [pA, pB, p1, p2, p3]
             refine tW (.int .i64 ((nv2 : Nat) : Int)) (exec_load 3 _ rfl ⟨gk64, 0, none⟩ (by kernel_rfl) (.int .i64 ((nv2 : Nat) : Int)) (load_one ((HF.out.box 11 _ _ _ rfl).cell 0 |>.trans (by kernel_rfl)) Try.und3 rfl)) ?_
             try simp only [pA, pB, p1, p2, p3]
             refine tW (.slice ma ns.length mc) (exec_load 23 _ rfl ⟨gk19, 0, none⟩ (by kernel_rfl) (.slice ma ns.length mc) (load_one ((HF.out.box 5 _ _ _ rfl).cell 0 |>.trans (by kernel_rfl)) Try.und22 rfl)) ?_
             try simp only [pA, pB, p1, p2, p3]
             refine tK (.int .i64 ((ns.length : Nat) : Int)) ?_
             try simp only [pA, pB, p1, p2, p3]
             refine tW (.bool false) (exec_bin .neq 3 _ _ _ rfl (.int .i64 ((nv2 : Nat) : Int)) (.int .i64 ((ns.length : Nat) : Int)) (.bool false) (by kernel_rfl) (by kernel_rfl) (by kernel_rfl) (by rw [b_neq, hnv2, beq_self_eq_true]; rfl)) ?_
             try simp only [pA, pB, p1, p2, p3]
             refine tK (.bool false) ?_
             try simp only [pA, pB, p1, p2, p3]
             refine WL.nil ?_
             try simp only [pA, pB, p1, p2, p3]
             go_upto_region 31 with fail
             refine WL.start ?_
             refine tW (.int .i64 2) (exec_load 3 _ rfl ⟨gk60, 0, none⟩ (by kernel_rfl) (.int .i64 2) (load_one ((HF.out.box 10 _ _ _ rfl).cell 0 |>.trans (by kernel_rfl)) Try.und3 rfl)) ?_
             try simp only [pA, pB, p1, p2, p3]
             refine WL.nil ?_
             try simp only [pA, pB, p1, p2, p3]
             go_upto_region 32 with fail
             refine WL.start ?_
             refine wp_runW (.pointer (some ⟨W2.heap.size, 0, none⟩)) (W2.alloc (.cells (#[.int .i64 0]) 3)) (exec_alloc1 3 rfl (.int .i64 0) rfl zero3) (by kernel_rfl) ?_
             try simp only [pA, pB, p1, p2, p3]
             have hx0_gk79 : s0 ≤ W2.heap.size := by rw [← HS0.out]; exact HK0.out.size
             have HK0 : Hid (Kept No W2 (W2.alloc (.cells (#[.int .i64 0]) 3))) := HK0.out.no ((Kept.refl No _).alloc _)
             have HF : Hid (Fr No w (W2.alloc (.cells (#[.int .i64 0]) 3)) [(gk1, 26, Bv.cells ⟨up, ⟨ea, en, ec⟩, ⟨la, ln, lc⟩⟩), (gk3, 3, #[.int .i64 stop]), (gk5, 4, #[.bool false]), (gk11, 26, Bv.cells ⟨up, ⟨ma0, mn0, mc0⟩, ⟨la0, ln0, lc0⟩⟩), (gk15, 56, #[.func (.func 30) #[] #[.pointer (some ⟨lb, 0, none⟩)]]), (gk19, 23, #[.slice ma ns.length mc]), (gk23, 3, #[.int .i64 0]), (gk26, 3, #[.int .i64 ((nv0 : Nat) : Int)]), (gk41, 3, #[.int .i64 1]), (gk45, 3, #[.int .i64 ((nv1 : Nat) : Int)]), (gk60, 3, #[.int .i64 2]), (gk64, 3, #[.int .i64 ((nv2 : Nat) : Int)]), (W2.heap.size, 3, #[.int .i64 0])]) := HF.out.alloc _ _
             generalize W2.alloc (.cells (#[.int .i64 0]) 3) = wk80 at HF HK0 ⊢
             generalize W2.heap.size = gk79 at HF hx0_gk79 ⊢
             refine wp_storeW 3 _ _ rfl ⟨gk79, 0, none⟩ (.int .i64 2) (by kernel_rfl) (by kernel_rfl) (wk80.setRow gk79 (#[.int .i64 2])) (run_store_to (cur := [.int .i64 0]) (vs := [.int .i64 2]) (new := [.int .i64 2]) (HF.out.box 12 _ _ _ rfl) (by kernel_rfl) Try.size3 (Nat.le_of_ble_eq_true (by kernel_rfl)) (by simp [Value.oneCell', Sl.v]) (by kernel_rfl)) (by kernel_rfl) ?_
             try simp only [pA, pB, p1, p2, p3]
             have HK0 : Hid (Kept No W2 (wk80.setRow gk79 (#[.int .i64 2]))) := HK0.out.newRow (by rw [HS0.out]; exact hx0_gk79) _
             have HF : Hid (Fr No w (wk80.setRow gk79 (#[.int .i64 2])) [(gk1, 26, Bv.cells ⟨up, ⟨ea, en, ec⟩, ⟨la, ln, lc⟩⟩), (gk3, 3, #[.int .i64 stop]), (gk5, 4, #[.bool false]), (gk11, 26, Bv.cells ⟨up, ⟨ma0, mn0, mc0⟩, ⟨la0, ln0, lc0⟩⟩), (gk15, 56, #[.func (.func 30) #[] #[.pointer (some ⟨lb, 0, none⟩)]]), (gk19, 23, #[.slice ma ns.length mc]), (gk23, 3, #[.int .i64 0]), (gk26, 3, #[.int .i64 ((nv0 : Nat) : Int)]), (gk41, 3, #[.int .i64 1]), (gk45, 3, #[.int .i64 ((nv1 : Nat) : Int)]), (gk60, 3, #[.int .i64 2]), (gk64, 3, #[.int .i64 ((nv2 : Nat) : Int)]), (gk79, 3, #[.int .i64 2])]) := HF.out.set 12 rfl _
             generalize wk80.setRow gk79 (#[.int .i64 2]) = wk81 at HF HK0 ⊢
             refine WL.nil ?_
             try simp only [pA, pB, p1, p2, p3]
             go_upto_region 14 with fail
             refine WL.start ?_
             refine tW (.int .i64 2) (exec_load 3 _ rfl ⟨gk79, 0, none⟩ (by kernel_rfl) (.int .i64 2) (load_one ((HF.out.box 12 _ _ _ rfl).cell 0 |>.trans (by kernel_rfl)) Try.und3 rfl)) ?_
             try simp only [pA, pB, p1, p2, p3]
             refine tW (.int .i64 3) (exec_bin .add 3 _ _ _ rfl (.int .i64 2) (.int .i64 1) (.int .i64 3) (by kernel_rfl) (by kernel_rfl) (by kernel_rfl) (by kernel_rfl)) ?_
             try simp only [pA, pB, p1, p2, p3]
             refine wp_storeW 3 _ _ rfl ⟨gk79, 0, none⟩ (.int .i64 3) (by kernel_rfl) (by kernel_rfl) (wk81.setRow gk79 (#[.int .i64 3])) (run_store_to (cur := [.int .i64 2]) (vs := [.int .i64 3]) (new := [.int .i64 3]) (HF.out.box 12 _ _ _ rfl) (by kernel_rfl) Try.size3 (Nat.le_of_ble_eq_true (by kernel_rfl)) (by simp [Value.oneCell', Sl.v]) (by kernel_rfl)) (by kernel_rfl) ?_
             try simp only [pA, pB, p1, p2, p3]
             have HK0 : Hid (Kept No W2 (wk81.setRow gk79 (#[.int .i64 3]))) := HK0.out.newRow (by rw [HS0.out]; exact hx0_gk79) _
             have HF : Hid (Fr No w (wk81.setRow gk79 (#[.int .i64 3])) [(gk1, 26, Bv.cells ⟨up, ⟨ea, en, ec⟩, ⟨la, ln, lc⟩⟩), (gk3, 3, #[.int .i64 stop]), (gk5, 4, #[.bool false]), (gk11, 26, Bv.cells ⟨up, ⟨ma0, mn0, mc0⟩, ⟨la0, ln0, lc0⟩⟩), (gk15, 56, #[.func (.func 30) #[] #[.pointer (some ⟨lb, 0, none⟩)]]), (gk19, 23, #[.slice ma ns.length mc]), (gk23, 3, #[.int .i64 0]), (gk26, 3, #[.int .i64 ((nv0 : Nat) : Int)]), (gk41, 3, #[.int .i64 1]), (gk45, 3, #[.int .i64 ((nv1 : Nat) : Int)]), (gk60, 3, #[.int .i64 2]), (gk64, 3, #[.int .i64 ((nv2 : Nat) : Int)]), (gk79, 3, #[.int .i64 3])]) := HF.out.set 12 rfl _
             generalize wk81.setRow gk79 (#[.int .i64 3]) = wk82 at HF HK0 ⊢
             refine WL.nil ?_
             try simp only [pA, pB, p1, p2, p3]
             have HSQ : Hid (Sq w [(gk1, 26, Bv.cells ⟨up, ⟨ea, en, ec⟩, ⟨la, ln, lc⟩⟩), (gk3, 3, #[.int .i64 stop]), (gk5, 4, #[.bool false]), (gk11, 26, Bv.cells ⟨up, ⟨ma0, mn0, mc0⟩, ⟨la0, ln0, lc0⟩⟩), (gk15, 56, #[.func (.func 30) #[] #[.pointer (some ⟨lb, 0, none⟩)]]), (gk19, 23, #[.slice ma ns.length mc]), (gk23, 3, #[.int .i64 0]), (gk26, 3, #[.int .i64 ((nv0 : Nat) : Int)]), (gk41, 3, #[.int .i64 1]), (gk45, 3, #[.int .i64 ((nv1 : Nat) : Int)]), (gk60, 3, #[.int .i64 2]), (gk64, 3, #[.int .i64 ((nv2 : Nat) : Int)]), (gk79, 3, #[.int .i64 3])] lb sa sc ma mc ns [D2, D1, D0] wk82) := ⟨HF.out, (HSQ0.out.no HK0.out).sq, (HSQ0.out.no HK0.out).wt, (HSQ0.out.no HK0.out).df⟩
             clear HSQ0 HK0 HS0 hx0_gk79
             go_wp2
             show Code.rounds Try.prog _ _ (0 + 1) _ _
             rw [rounds_succ]
             have HSQ0 : Hid (Sq w [(gk1, 26, Bv.cells ⟨up, ⟨ea, en, ec⟩, ⟨la, ln, lc⟩⟩), (gk3, 3, #[.int .i64 stop]), (gk5, 4, #[.bool false]), (gk11, 26, Bv.cells ⟨up, ⟨ma0, mn0, mc0⟩, ⟨la0, ln0, lc0⟩⟩), (gk15, 56, #[.func (.func 30) #[] #[.pointer (some ⟨lb, 0, none⟩)]]), (gk19, 23, #[.slice ma ns.length mc]), (gk23, 3, #[.int .i64 0]), (gk26, 3, #[.int .i64 ((nv0 : Nat) : Int)]), (gk41, 3, #[.int .i64 1]), (gk45, 3, #[.int .i64 ((nv1 : Nat) : Int)]), (gk60, 3, #[.int .i64 2]), (gk64, 3, #[.int .i64 ((nv2 : Nat) : Int)]), (gk79, 3, #[.int .i64 3])] lb sa sc ma mc ns [D2, D1, D0] wk82) := HSQ
             clear HSQ
             have HK0 : Hid (Kept No wk82 wk82) := Kept.refl _ _
             obtain ⟨s0, hs0⟩ : ∃ n, wk82.heap.size = n := ⟨_, rfl⟩
             have HS0 : Hid (wk82.heap.size = s0) := hs0
             clear hs0
             skip
             go_upto_region 13 with fail
             refine WL.start ?_
             refine tW (.int .i64 3) (exec_load 3 _ rfl ⟨gk79, 0, none⟩ (by kernel_rfl) (.int .i64 3) (load_one ((HF.out.box 12 _ _ _ rfl).cell 0 |>.trans (by kernel_rfl)) Try.und3 rfl)) ?_
             try simp only [pA, pB, p1, p2, p3]
             refine tW (.bool false) (exec_bin .lss 3 _ _ _ rfl (.int .i64 3) (.int .i64 3) (.bool false) (by kernel_rfl) (by kernel_rfl) (by kernel_rfl) (by kernel_rfl)) ?_
             try simp only [pA, pB, p1, p2, p3]
             refine WL.nil ?_
             try simp only [pA, pB, p1, p2, p3]
             have HSQ : Hid (Sq w [(gk1, 26, Bv.cells ⟨up, ⟨ea, en, ec⟩, ⟨la, ln, lc⟩⟩), (gk3, 3, #[.int .i64 stop]), (gk5, 4, #[.bool false]), (gk11, 26, Bv.cells ⟨up, ⟨ma0, mn0, mc0⟩, ⟨la0, ln0, lc0⟩⟩), (gk15, 56, #[.func (.func 30) #[] #[.pointer (some ⟨lb, 0, none⟩)]]), (gk19, 23, #[.slice ma ns.length mc]), (gk23, 3, #[.int .i64 0]), (gk26, 3, #[.int .i64 ((nv0 : Nat) : Int)]), (gk41, 3, #[.int .i64 1]), (gk45, 3, #[.int .i64 ((nv1 : Nat) : Int)]), (gk60, 3, #[.int .i64 2]), (gk64, 3, #[.int .i64 ((nv2 : Nat) : Int)]), (gk79, 3, #[.int .i64 3])] lb sa sc ma mc ns [D2, D1, D0] wk82) := ⟨HF.out, (HSQ0.out.no HK0.out).sq, (HSQ0.out.no HK0.out).wt, (HSQ0.out.no HK0.out).df⟩
             clear HSQ0 HK0 HS0
             go_upto_region 33 with fail
             refine WL.start ?_
             refine wp_callW 8 #[] (by kernel_rfl) _ (head_any _) (by kernel_rfl) ?_
             rintro e wk83 ⟨rfl, hk⟩
             have HSQ : Hid (Sq w [(gk1, 26, Bv.cells ⟨up, ⟨ea, en, ec⟩, ⟨la, ln, lc⟩⟩), (gk3, 3, #[.int .i64 stop]), (gk5, 4, #[.bool false]), (gk11, 26, Bv.cells ⟨up, ⟨ma0, mn0, mc0⟩, ⟨la0, ln0, lc0⟩⟩), (gk15, 56, #[.func (.func 30) #[] #[.pointer (some ⟨lb, 0, none⟩)]]), (gk19, 23, #[.slice ma ns.length mc]), (gk23, 3, #[.int .i64 0]), (gk26, 3, #[.int .i64 ((nv0 : Nat) : Int)]), (gk41, 3, #[.int .i64 1]), (gk45, 3, #[.int .i64 ((nv1 : Nat) : Int)]), (gk60, 3, #[.int .i64 2]), (gk64, 3, #[.int .i64 ((nv2 : Nat) : Int)]), (gk79, 3, #[.int .i64 3])] lb sa sc ma mc ns [D2, D1, D0] wk83) := HSQ.out.no hk
             have HF : Hid (Fr No w (wk83) [(gk1, 26, Bv.cells ⟨up, ⟨ea, en, ec⟩, ⟨la, ln, lc⟩⟩), (gk3, 3, #[.int .i64 stop]), (gk5, 4, #[.bool false]), (gk11, 26, Bv.cells ⟨up, ⟨ma0, mn0, mc0⟩, ⟨la0, ln0, lc0⟩⟩), (gk15, 56, #[.func (.func 30) #[] #[.pointer (some ⟨lb, 0, none⟩)]]), (gk19, 23, #[.slice ma ns.length mc]), (gk23, 3, #[.int .i64 0]), (gk26, 3, #[.int .i64 ((nv0 : Nat) : Int)]), (gk41, 3, #[.int .i64 1]), (gk45, 3, #[.int .i64 ((nv1 : Nat) : Int)]), (gk60, 3, #[.int .i64 2]), (gk64, 3, #[.int .i64 ((nv2 : Nat) : Int)]), (gk79, 3, #[.int .i64 3])]) := HSQ.out.fr
             clear hk
             refine ⟨.bool true, rfl, ?_⟩
             try simp only [pA, pB, p1, p2, p3]
             refine wp_storeW 4 _ _ rfl ⟨gk5, 0, none⟩ (.bool true) (by kernel_rfl) (by kernel_rfl) (wk83.setRow gk5 (#[.bool true])) (run_store_to (cur := [.bool false]) (vs := [.bool true]) (new := [.bool true]) (HF.out.box 2 _ _ _ rfl) (by kernel_rfl) Try.size4 (Nat.le_of_ble_eq_true (by kernel_rfl)) (by simp [Value.oneCell', Sl.v]) (by kernel_rfl)) (by kernel_rfl) ?_
             try simp only [pA, pB, p1, p2, p3]
             have HSQ : Hid (Sq w [(gk1, 26, Bv.cells ⟨up, ⟨ea, en, ec⟩, ⟨la, ln, lc⟩⟩), (gk3, 3, #[.int .i64 stop]), (gk5, 4, #[.bool true]), (gk11, 26, Bv.cells ⟨up, ⟨ma0, mn0, mc0⟩, ⟨la0, ln0, lc0⟩⟩), (gk15, 56, #[.func (.func 30) #[] #[.pointer (some ⟨lb, 0, none⟩)]]), (gk19, 23, #[.slice ma ns.length mc]), (gk23, 3, #[.int .i64 0]), (gk26, 3, #[.int .i64 ((nv0 : Nat) : Int)]), (gk41, 3, #[.int .i64 1]), (gk45, 3, #[.int .i64 ((nv1 : Nat) : Int)]), (gk60, 3, #[.int .i64 2]), (gk64, 3, #[.int .i64 ((nv2 : Nat) : Int)]), (gk79, 3, #[.int .i64 3])] lb sa sc ma mc ns [D2, D1, D0] (wk83.setRow gk5 (#[.bool true]))) := (HSQ.out.set 2 rfl (.inr rfl) (#[.bool true])).1
             have HF : Hid (Fr No w (wk83.setRow gk5 (#[.bool true])) [(gk1, 26, Bv.cells ⟨up, ⟨ea, en, ec⟩, ⟨la, ln, lc⟩⟩), (gk3, 3, #[.int .i64 stop]), (gk5, 4, #[.bool true]), (gk11, 26, Bv.cells ⟨up, ⟨ma0, mn0, mc0⟩, ⟨la0, ln0, lc0⟩⟩), (gk15, 56, #[.func (.func 30) #[] #[.pointer (some ⟨lb, 0, none⟩)]]), (gk19, 23, #[.slice ma ns.length mc]), (gk23, 3, #[.int .i64 0]), (gk26, 3, #[.int .i64 ((nv0 : Nat) : Int)]), (gk41, 3, #[.int .i64 1]), (gk45, 3, #[.int .i64 ((nv1 : Nat) : Int)]), (gk60, 3, #[.int .i64 2]), (gk64, 3, #[.int .i64 ((nv2 : Nat) : Int)]), (gk79, 3, #[.int .i64 3])]) := HSQ.out.fr
             generalize wk83.setRow gk5 (#[.bool true]) = wk84 at HF HSQ ⊢
             refine WL.nil ?_
             try simp only [pA, pB, p1, p2, p3]
             go_wp2
             rw [HC.out]
             refine ⟨by simp, .inl ⟨_, _, rfl, run_takeDeferred (HSQ.out.df D2 (by simp)), ?_⟩⟩
             have HS1 := HSQ.out.take hDw2 hDn2
             refine ⟨by simp, .inl ⟨_, _, rfl, run_takeDeferred (HS1.df D1 (by simp)), ?_⟩⟩
             have HS2 := HS1.take hDw1 hDn1
             refine ⟨by simp, .inl ⟨_, _, rfl, run_takeDeferred (HS2.df D0 (by simp)), ?_⟩⟩
             have HS3 := HS2.take hDw0 hDn0
             exact ⟨.bool true, results_one rfl _ _ gk5 rfl (load_one ((HS3.fr.box 2 _ _ _ rfl).cell 0 |>.trans rfl) Try.und4 rfl), rfl, HS3.fr.kept⟩

end Go.Proofs.Ytfemlnfknebalab
