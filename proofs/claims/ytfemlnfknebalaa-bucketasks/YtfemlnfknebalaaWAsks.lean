import Derived.Test.YtfemlnfknebalaaSc
import Derived.Test.YtfemlnfknebalaaXa
namespace Go.Proofs.Ytfemlnfknebalaa
open Go.RowKit
set_option linter.unusedVariables false
set_option linter.unusedSimpArgs false

theorem Try.und42e : Try.prog.underlying 42 = some (.slice (Try.prog.elem 42)) := by kernel_rfl
theorem Try.und43e : Try.prog.underlying 43 = some (.slice (Try.prog.elem 43)) := by kernel_rfl
theorem Try.size42e : (Try.prog.info? (Try.prog.elem 42)).map (·.size) = some 1 := by kernel_rfl
theorem Try.size43e : (Try.prog.info? (Try.prog.elem 43)).map (·.size) = some 1 := by kernel_rfl
def Ss (w : World) (a : Option Addr) (zs : List ByteArray) : Prop := RowsAt 1 w a (zs.map (fun s => [Value.string s]))
def Is (w : World) (a : Option Addr) (zs : List Int) : Prop := RowsAt 1 w a (zs.map (fun z => [Value.int .i64 z]))
theorem Ss.at {w : World} {a : Option Addr} {zs : List ByteArray} (h : Ss w a zs) {i : Nat} (hi : i < zs.length) : ∃ b off y, a = some ⟨b, off, none⟩ ∧ w.cell? ⟨b, off + i * 1, none⟩ = some (.string y) := by
  obtain ⟨b, off, e, hc⟩ := h i [.string zs[i]] (by rw [List.getElem?_map, List.getElem?_eq_getElem hi]; rfl)
  exact ⟨b, off, zs[i], e, hc 0 _ rfl⟩
theorem Is.at {w : World} {a : Option Addr} {zs : List Int} (h : Is w a zs) {i : Nat} (hi : i < zs.length) : ∃ b off y, a = some ⟨b, off, none⟩ ∧ w.cell? ⟨b, off + i * 1, none⟩ = some (.int .i64 y) := by
  obtain ⟨b, off, e, hc⟩ := h i [.int .i64 zs[i]] (by rw [List.getElem?_map, List.getElem?_eq_getElem hi]; rfl)
  exact ⟨b, off, zs[i], e, hc 0 _ rfl⟩
set_option maxRecDepth 100000 in
set_option maxHeartbeats 4000000 in
theorem asksWalk (up : Int) (ea : Option Addr) (en ec : Nat) (la : Option Addr) (ln lc : Nat) (sa : Option Addr) (sn sc : Nat) (ia : Option Addr) (im ic : Nat) (es : List En) (ls : List La) (ss : List ByteArray) (is : List Int) (w : World) (he : RdE w ⟨ea, en, ec⟩ es) (hl : RdL w ⟨la, ln, lc⟩ ls) (hbe : en ≤ 140737488355328) (hbl : ln ≤ 140737488355328) (hs : Ss w sa ss) (hsn : ss.length = sn) (hi : Is w ia is) (hin : is.length = im) (hs1 : sn ≤ 140737488355328) (hi1 : im ≤ 140737488355328) : Calls Try.prog 5 #[.agg (Bv.cells ⟨up, ⟨ea, en, ec⟩, ⟨la, ln, lc⟩⟩), .slice sa sn sc, .slice ia im ic] w (fun e w' => e = .returned (.bool true) ∧ Kept No w w') := by
  obtain ⟨C, hC⟩ : ∃ C : Ending → World → Prop, C = (fun e w' => e = .returned (.bool true) ∧ Kept No w w') := ⟨_, rfl⟩
  have HC : Hid (C = (fun e w' => e = .returned (.bool true) ∧ Kept No w w')) := hC
  rw [← hC]
  clear hC
  have HE : Hid (RdE w ⟨ea, en, ec⟩ es) := he
  have HL : Hid (RdL w ⟨la, ln, lc⟩ ls) := hl
  have HS : Hid (Ss w sa ss ∧ ss.length = sn) := ⟨hs, hsn⟩
  have HI : Hid (Is w ia is ∧ is.length = im) := ⟨hi, hin⟩
  clear he hl hs hsn hi hin
  have HF : Hid (Fr No w w []) := Fr.start _ _
  go_enter Try.func5, Try.ntmps5
  go_upto_region 0 with fail
  refine WL.start ?_
  refine wp_runW (.pointer (some ⟨w.heap.size, 0, none⟩)) (w.alloc (.cells (Bv.cells ⟨up, ⟨ea, en, ec⟩, ⟨la, ln, lc⟩⟩) 25)) (exec_box 25 _ rfl (Bv.cells ⟨up, ⟨ea, en, ec⟩, ⟨la, ln, lc⟩⟩) (by kernel_rfl)) (by kernel_rfl) ?_
  try simp only [pA, pB, p1, p2, p3]
  have HF : Hid (Fr No w (w.alloc (.cells (Bv.cells ⟨up, ⟨ea, en, ec⟩, ⟨la, ln, lc⟩⟩) 25)) [(w.heap.size, 25, Bv.cells ⟨up, ⟨ea, en, ec⟩, ⟨la, ln, lc⟩⟩)]) := HF.out.alloc _ _
  generalize w.alloc (.cells (Bv.cells ⟨up, ⟨ea, en, ec⟩, ⟨la, ln, lc⟩⟩) 25) = wk2 at HF ⊢
  generalize w.heap.size = gk1 at HF ⊢
  refine wp_takeW (.bool false) (by kernel_rfl) (by kernel_rfl) ?_
  try simp only [pA, pB, p1, p2, p3]
  refine WL.nil ?_
  try simp only [pA, pB, p1, p2, p3]
  go_upto_region 1 with fail
  refine WL.start ?_
  refine wp_takeW (.agg (Bv.cells ⟨up, ⟨ea, en, ec⟩, ⟨la, ln, lc⟩⟩)) (exec_load 25 _ rfl ⟨gk1, 0, none⟩ (by kernel_rfl) (.agg (Bv.cells ⟨up, ⟨ea, en, ec⟩, ⟨la, ln, lc⟩⟩)) (ld25 (HF.out.box 0 _ _ _ rfl))) (by kernel_rfl) ?_
  try simp only [pA, pB, p1, p2, p3]
  cases q1 : (bktB up es ls)
  ·skip
   refine wp_callW 11 #[.agg (Bv.cells ⟨up, ⟨ea, en, ec⟩, ⟨la, ln, lc⟩⟩)] (by kernel_rfl) _ (bucket_any up ea en ec la ln lc es ls _ (HE.out.no HF.out.kept) (HL.out.no HF.out.kept) hbe hbl) (by kernel_rfl) ?_
   rintro e wk3 ⟨rfl, hk⟩
   have HF : Hid (Fr No w (wk3) [(gk1, 25, Bv.cells ⟨up, ⟨ea, en, ec⟩, ⟨la, ln, lc⟩⟩)]) := HF.out.no hk
   clear hk
   refine ⟨.bool false, by rw [q1], ?_⟩
   try simp only [pA, pB, p1, p2, p3]
   refine wp_takeW (.bool true) (by kernel_rfl) (by kernel_rfl) ?_
   try simp only [pA, pB, p1, p2, p3]
   refine WL.nil ?_
   try simp only [pA, pB, p1, p2, p3]
   go_upto_region 2 with fail
   refine WL.start ?_
   refine wp_callW 10 #[] (by kernel_rfl) _ (head_any _) (by kernel_rfl) ?_
   rintro e wk4 ⟨rfl, hk⟩
   have HF : Hid (Fr No w (wk4) [(gk1, 25, Bv.cells ⟨up, ⟨ea, en, ec⟩, ⟨la, ln, lc⟩⟩)]) := HF.out.no hk
   clear hk
   refine ⟨.bool true, rfl, ?_⟩
   try simp only [pA, pB, p1, p2, p3]
   refine wp_takeW (.bool true) (by kernel_rfl) (by kernel_rfl) ?_
   try simp only [pA, pB, p1, p2, p3]
   refine WL.nil ?_
   try simp only [pA, pB, p1, p2, p3]
   go_wp2
   rw [HC.out]
   exact ⟨rfl, HF.out.kept⟩
  ·skip
   refine wp_callW 11 #[.agg (Bv.cells ⟨up, ⟨ea, en, ec⟩, ⟨la, ln, lc⟩⟩)] (by kernel_rfl) _ (bucket_any up ea en ec la ln lc es ls _ (HE.out.no HF.out.kept) (HL.out.no HF.out.kept) hbe hbl) (by kernel_rfl) ?_
   rintro e wk5 ⟨rfl, hk⟩
   have HF : Hid (Fr No w (wk5) [(gk1, 25, Bv.cells ⟨up, ⟨ea, en, ec⟩, ⟨la, ln, lc⟩⟩)]) := HF.out.no hk
   clear hk
   refine ⟨.bool true, by rw [q1], ?_⟩
   try simp only [pA, pB, p1, p2, p3]
   refine wp_takeW (.bool false) (by kernel_rfl) (by kernel_rfl) ?_
   try simp only [pA, pB, p1, p2, p3]
   refine WL.nil ?_
   try simp only [pA, pB, p1, p2, p3]
   have HGd : Hid (Good up es ls) := bkt_good q1
   clear q1
   go_wp2
   go_loopw [7] (fun v7 wr => ∃ i : Nat, v7 = .int .i64 ((i : Nat) : Int) ∧ i ≤ sn + im ∧ Hid (Fr No w wr [(gk1, 25, Bv.cells ⟨up, ⟨ea, en, ec⟩, ⟨la, ln, lc⟩⟩)])) (fun i _ => sn + im - (intOf i).toNat)
   case atStart => exact ⟨0, by go_num, by omega, HF⟩
   case round =>
     clear HF
     obtain ⟨i, rfl, hi, HF⟩ := hrel
     by_cases h1 : i < sn
     · skip
       obtain ⟨xb, xo, y, e0, hc⟩ := HS.out.1.at (i := i) (by rw [HS.out.2]; exact h1)
       subst e0
       have HCX : Hid (w.cell? ⟨xb, xo + i * 1, none⟩ = some (.string y)) := hc
       clear hc
       by_cases h2 : i < im
       · skip
         obtain ⟨yb, yo, z, e0, hc⟩ := HI.out.1.at (i := i) (by rw [HI.out.2]; exact h2)
         subst e0
         have HCZ : Hid (w.cell? ⟨yb, yo + i * 1, none⟩ = some (.int .i64 z)) := hc
         clear hc
         go_upto_region 4 with fail
         refine WL.start ?_
         refine wp_takeW (.int .i64 ((i : Nat) : Int)) (by kernel_rfl) (by kernel_rfl) ?_
         try simp only [pA, pB, p1, p2, p3]
         refine wp_takeW (.slice (some ⟨xb, xo, none⟩) sn sc) (by kernel_rfl) (by kernel_rfl) ?_
         try simp only [pA, pB, p1, p2, p3]
         refine wp_takeW (.int .i64 ((sn : Nat) : Int)) (by kernel_rfl) (by kernel_rfl) ?_
         try simp only [pA, pB, p1, p2, p3]
         refine wp_takeW (.bool true) (exec_bin .lss 3 _ _ _ rfl (.int .i64 ((i : Nat) : Int)) (.int .i64 ((sn : Nat) : Int)) (.bool true) (by kernel_rfl) (by kernel_rfl) (by kernel_rfl) (by rw [b_lss, decide_eq_true (by omega)])) (by kernel_rfl) ?_
         try simp only [pA, pB, p1, p2, p3]
         refine wp_takeW (.bool true) (by kernel_rfl) (by kernel_rfl) ?_
         try simp only [pA, pB, p1, p2, p3]
         refine wp_skip (by kernel_rfl) ?_
         try simp only [pA, pB, p1, p2, p3]
         refine wp_skip (by kernel_rfl) ?_
         try simp only [pA, pB, p1, p2, p3]
         refine wp_skip (by kernel_rfl) ?_
         try simp only [pA, pB, p1, p2, p3]
         refine wp_skip (by kernel_rfl) ?_
         try simp only [pA, pB, p1, p2, p3]
         refine wp_takeW (.bool true) (by kernel_rfl) (by kernel_rfl) ?_
         try simp only [pA, pB, p1, p2, p3]
         refine WL.nil ?_
         try simp only [pA, pB, p1, p2, p3]
         go_upto_region 6 with fail
         refine WL.start ?_
         refine wp_takeW (.string ⟨#[]⟩) (by kernel_rfl) (by kernel_rfl) ?_
         try simp only [pA, pB, p1, p2, p3]
         refine WL.nil ?_
         try simp only [pA, pB, p1, p2, p3]
         go_upto_region 7 with fail
         refine WL.start ?_
         refine wp_takeW (.int .i64 0) (by kernel_rfl) (by kernel_rfl) ?_
         try simp only [pA, pB, p1, p2, p3]
         refine WL.nil ?_
         try simp only [pA, pB, p1, p2, p3]
         go_upto_region 8 with fail
         refine WL.start ?_
         refine wp_takeW (.int .i64 ((i : Nat) : Int)) (by kernel_rfl) (by kernel_rfl) ?_
         try simp only [pA, pB, p1, p2, p3]
         refine wp_takeW (.slice (some ⟨xb, xo, none⟩) sn sc) (by kernel_rfl) (by kernel_rfl) ?_
         try simp only [pA, pB, p1, p2, p3]
         refine wp_takeW (.int .i64 ((sn : Nat) : Int)) (by kernel_rfl) (by kernel_rfl) ?_
         try simp only [pA, pB, p1, p2, p3]
         refine wp_takeW (.bool true) (exec_bin .lss 3 _ _ _ rfl (.int .i64 ((i : Nat) : Int)) (.int .i64 ((sn : Nat) : Int)) (.bool true) (by kernel_rfl) (by kernel_rfl) (by kernel_rfl) (by rw [b_lss, decide_eq_true (by omega)])) (by kernel_rfl) ?_
         try simp only [pA, pB, p1, p2, p3]
         refine WL.nil ?_
         try simp only [pA, pB, p1, p2, p3]
         go_upto_region 9 with fail
         refine WL.start ?_
         refine wp_takeW (.slice (some ⟨xb, xo, none⟩) sn sc) (by kernel_rfl) (by kernel_rfl) ?_
         try simp only [pA, pB, p1, p2, p3]
         refine wp_takeW (.int .i64 ((i : Nat) : Int)) (by kernel_rfl) (by kernel_rfl) ?_
         try simp only [pA, pB, p1, p2, p3]
         refine wp_takeW (.pointer (some ⟨xb, xo + i * 1, none⟩)) (exec_ixA 42 1 Try.und42e Try.size42e _ _ rfl xb xo sn sc i (by kernel_rfl) (by kernel_rfl) h1) (by kernel_rfl) ?_
         try simp only [pA, pB, p1, p2, p3]
         refine wp_takeW (.string y) (exec_load 9 _ rfl ⟨xb, xo + i * 1, none⟩ (by kernel_rfl) (.string y) (ld9 (HF.out.kept.cell HCX.out (fun e => e)))) (by kernel_rfl) ?_
         try simp only [pA, pB, p1, p2, p3]
         refine wp_takeW (.string y) (by kernel_rfl) (by kernel_rfl) ?_
         try simp only [pA, pB, p1, p2, p3]
         refine WL.nil ?_
         try simp only [pA, pB, p1, p2, p3]
         go_upto_region 10 with fail
         refine WL.start ?_
         refine wp_takeW (.int .i64 ((i : Nat) : Int)) (by kernel_rfl) (by kernel_rfl) ?_
         try simp only [pA, pB, p1, p2, p3]
         refine wp_takeW (.slice (some ⟨yb, yo, none⟩) im ic) (by kernel_rfl) (by kernel_rfl) ?_
         try simp only [pA, pB, p1, p2, p3]
         refine wp_takeW (.int .i64 ((im : Nat) : Int)) (by kernel_rfl) (by kernel_rfl) ?_
         try simp only [pA, pB, p1, p2, p3]
         refine wp_takeW (.bool true) (exec_bin .lss 3 _ _ _ rfl (.int .i64 ((i : Nat) : Int)) (.int .i64 ((im : Nat) : Int)) (.bool true) (by kernel_rfl) (by kernel_rfl) (by kernel_rfl) (by rw [b_lss, decide_eq_true (by omega)])) (by kernel_rfl) ?_
         try simp only [pA, pB, p1, p2, p3]
         refine WL.nil ?_
         try simp only [pA, pB, p1, p2, p3]
         go_upto_region 11 with fail
         refine WL.start ?_
         refine wp_takeW (.slice (some ⟨yb, yo, none⟩) im ic) (by kernel_rfl) (by kernel_rfl) ?_
         try simp only [pA, pB, p1, p2, p3]
         refine wp_takeW (.int .i64 ((i : Nat) : Int)) (by kernel_rfl) (by kernel_rfl) ?_
         try simp only [pA, pB, p1, p2, p3]
         refine wp_takeW (.pointer (some ⟨yb, yo + i * 1, none⟩)) (exec_ixA 43 1 Try.und43e Try.size43e _ _ rfl yb yo im ic i (by kernel_rfl) (by kernel_rfl) h2) (by kernel_rfl) ?_
         try simp only [pA, pB, p1, p2, p3]
         refine wp_takeW (.int .i64 z) (exec_load 3 _ rfl ⟨yb, yo + i * 1, none⟩ (by kernel_rfl) (.int .i64 z) (ld3 (HF.out.kept.cell HCZ.out (fun e => e)))) (by kernel_rfl) ?_
         try simp only [pA, pB, p1, p2, p3]
         refine wp_takeW (.int .i64 z) (by kernel_rfl) (by kernel_rfl) ?_
         try simp only [pA, pB, p1, p2, p3]
         refine WL.nil ?_
         try simp only [pA, pB, p1, p2, p3]
         go_upto_region 12 with fail
         refine WL.start ?_
         refine wp_takeW (.agg (Bv.cells ⟨up, ⟨ea, en, ec⟩, ⟨la, ln, lc⟩⟩)) (exec_load 25 _ rfl ⟨gk1, 0, none⟩ (by kernel_rfl) (.agg (Bv.cells ⟨up, ⟨ea, en, ec⟩, ⟨la, ln, lc⟩⟩)) (ld25 (HF.out.box 0 _ _ _ rfl))) (by kernel_rfl) ?_
         try simp only [pA, pB, p1, p2, p3]
         refine wp_takeW (.string y) (by kernel_rfl) (by kernel_rfl) ?_
         try simp only [pA, pB, p1, p2, p3]
         refine wp_takeW (.int .i64 z) (by kernel_rfl) (by kernel_rfl) ?_
         try simp only [pA, pB, p1, p2, p3]
         refine wp_callW 13 #[.agg (Bv.cells ⟨up, ⟨ea, en, ec⟩, ⟨la, ln, lc⟩⟩), .string y, .int .i64 z] (by kernel_rfl) _ (asked_any up ea en ec la ln lc es ls y z _ (HE.out.no HF.out.kept) (HL.out.no HF.out.kept) HGd.out) (by kernel_rfl) ?_
         rintro e wk6 ⟨rfl, hk⟩
         have HF : Hid (Fr No w (wk6) [(gk1, 25, Bv.cells ⟨up, ⟨ea, en, ec⟩, ⟨la, ln, lc⟩⟩)]) := HF.out.no hk
         clear hk
         refine ⟨.bool true, rfl, ?_⟩
         try simp only [pA, pB, p1, p2, p3]
         refine wp_takeW (.bool false) (by kernel_rfl) (by kernel_rfl) ?_
         try simp only [pA, pB, p1, p2, p3]
         refine WL.nil ?_
         try simp only [pA, pB, p1, p2, p3]
         go_wp2
         go_roundw
         case rel => exact ⟨i + 1, by go_num, by omega, HF⟩
         case measure => simp [intOf]; omega
       · skip
         go_upto_region 4 with fail
         refine WL.start ?_
         refine wp_takeW (.int .i64 ((i : Nat) : Int)) (by kernel_rfl) (by kernel_rfl) ?_
         try simp only [pA, pB, p1, p2, p3]
         refine wp_takeW (.slice (some ⟨xb, xo, none⟩) sn sc) (by kernel_rfl) (by kernel_rfl) ?_
         try simp only [pA, pB, p1, p2, p3]
         refine wp_takeW (.int .i64 ((sn : Nat) : Int)) (by kernel_rfl) (by kernel_rfl) ?_
         try simp only [pA, pB, p1, p2, p3]
         refine wp_takeW (.bool true) (exec_bin .lss 3 _ _ _ rfl (.int .i64 ((i : Nat) : Int)) (.int .i64 ((sn : Nat) : Int)) (.bool true) (by kernel_rfl) (by kernel_rfl) (by kernel_rfl) (by rw [b_lss, decide_eq_true (by omega)])) (by kernel_rfl) ?_
         try simp only [pA, pB, p1, p2, p3]
         refine wp_takeW (.bool true) (by kernel_rfl) (by kernel_rfl) ?_
         try simp only [pA, pB, p1, p2, p3]
         refine wp_skip (by kernel_rfl) ?_
         try simp only [pA, pB, p1, p2, p3]
         refine wp_skip (by kernel_rfl) ?_
         try simp only [pA, pB, p1, p2, p3]
         refine wp_skip (by kernel_rfl) ?_
         try simp only [pA, pB, p1, p2, p3]
         refine wp_skip (by kernel_rfl) ?_
         try simp only [pA, pB, p1, p2, p3]
         refine wp_takeW (.bool true) (by kernel_rfl) (by kernel_rfl) ?_
         try simp only [pA, pB, p1, p2, p3]
         refine WL.nil ?_
         try simp only [pA, pB, p1, p2, p3]
         go_upto_region 6 with fail
         refine WL.start ?_
         refine wp_takeW (.string ⟨#[]⟩) (by kernel_rfl) (by kernel_rfl) ?_
         try simp only [pA, pB, p1, p2, p3]
         refine WL.nil ?_
         try simp only [pA, pB, p1, p2, p3]
         go_upto_region 7 with fail
         refine WL.start ?_
         refine wp_takeW (.int .i64 0) (by kernel_rfl) (by kernel_rfl) ?_
         try simp only [pA, pB, p1, p2, p3]
         refine WL.nil ?_
         try simp only [pA, pB, p1, p2, p3]
         go_upto_region 8 with fail
         refine WL.start ?_
         refine wp_takeW (.int .i64 ((i : Nat) : Int)) (by kernel_rfl) (by kernel_rfl) ?_
         try simp only [pA, pB, p1, p2, p3]
         refine wp_takeW (.slice (some ⟨xb, xo, none⟩) sn sc) (by kernel_rfl) (by kernel_rfl) ?_
         try simp only [pA, pB, p1, p2, p3]
         refine wp_takeW (.int .i64 ((sn : Nat) : Int)) (by kernel_rfl) (by kernel_rfl) ?_
         try simp only [pA, pB, p1, p2, p3]
         refine wp_takeW (.bool true) (exec_bin .lss 3 _ _ _ rfl (.int .i64 ((i : Nat) : Int)) (.int .i64 ((sn : Nat) : Int)) (.bool true) (by kernel_rfl) (by kernel_rfl) (by kernel_rfl) (by rw [b_lss, decide_eq_true (by omega)])) (by kernel_rfl) ?_
         try simp only [pA, pB, p1, p2, p3]
         refine WL.nil ?_
         try simp only [pA, pB, p1, p2, p3]
         go_upto_region 9 with fail
         refine WL.start ?_
         refine wp_takeW (.slice (some ⟨xb, xo, none⟩) sn sc) (by kernel_rfl) (by kernel_rfl) ?_
         try simp only [pA, pB, p1, p2, p3]
         refine wp_takeW (.int .i64 ((i : Nat) : Int)) (by kernel_rfl) (by kernel_rfl) ?_
         try simp only [pA, pB, p1, p2, p3]
         refine wp_takeW (.pointer (some ⟨xb, xo + i * 1, none⟩)) (exec_ixA 42 1 Try.und42e Try.size42e _ _ rfl xb xo sn sc i (by kernel_rfl) (by kernel_rfl) h1) (by kernel_rfl) ?_
         try simp only [pA, pB, p1, p2, p3]
         refine wp_takeW (.string y) (exec_load 9 _ rfl ⟨xb, xo + i * 1, none⟩ (by kernel_rfl) (.string y) (ld9 (HF.out.kept.cell HCX.out (fun e => e)))) (by kernel_rfl) ?_
         try simp only [pA, pB, p1, p2, p3]
         refine wp_takeW (.string y) (by kernel_rfl) (by kernel_rfl) ?_
         try simp only [pA, pB, p1, p2, p3]
         refine WL.nil ?_
         try simp only [pA, pB, p1, p2, p3]
         go_upto_region 10 with fail
         refine WL.start ?_
         refine wp_takeW (.int .i64 ((i : Nat) : Int)) (by kernel_rfl) (by kernel_rfl) ?_
         try simp only [pA, pB, p1, p2, p3]
         refine wp_takeW (.slice ia im ic) (by kernel_rfl) (by kernel_rfl) ?_
         try simp only [pA, pB, p1, p2, p3]
         refine wp_takeW (.int .i64 ((im : Nat) : Int)) (by kernel_rfl) (by kernel_rfl) ?_
         try simp only [pA, pB, p1, p2, p3]
         refine wp_takeW (.bool false) (exec_bin .lss 3 _ _ _ rfl (.int .i64 ((i : Nat) : Int)) (.int .i64 ((im : Nat) : Int)) (.bool false) (by kernel_rfl) (by kernel_rfl) (by kernel_rfl) (by rw [b_lss, decide_eq_false (by omega)])) (by kernel_rfl) ?_
         try simp only [pA, pB, p1, p2, p3]
         refine WL.nil ?_
         try simp only [pA, pB, p1, p2, p3]
         go_upto_region 12 with fail
         refine WL.start ?_
         refine wp_takeW (.agg (Bv.cells ⟨up, ⟨ea, en, ec⟩, ⟨la, ln, lc⟩⟩)) (exec_load 25 _ rfl ⟨gk1, 0, none⟩ (by kernel_rfl) (.agg (Bv.cells ⟨up, ⟨ea, en, ec⟩, ⟨la, ln, lc⟩⟩)) (ld25 (HF.out.box 0 _ _ _ rfl))) (by kernel_rfl) ?_
         try simp only [pA, pB, p1, p2, p3]
         refine wp_takeW (.string y) (by kernel_rfl) (by kernel_rfl) ?_
         try simp only [pA, pB, p1, p2, p3]
         refine wp_takeW (.int .i64 0) (by kernel_rfl) (by kernel_rfl) ?_
         try simp only [pA, pB, p1, p2, p3]
         refine wp_callW 13 #[.agg (Bv.cells ⟨up, ⟨ea, en, ec⟩, ⟨la, ln, lc⟩⟩), .string y, .int .i64 0] (by kernel_rfl) _ (asked_any up ea en ec la ln lc es ls y 0 _ (HE.out.no HF.out.kept) (HL.out.no HF.out.kept) HGd.out) (by kernel_rfl) ?_
         rintro e wk7 ⟨rfl, hk⟩
         have HF : Hid (Fr No w (wk7) [(gk1, 25, Bv.cells ⟨up, ⟨ea, en, ec⟩, ⟨la, ln, lc⟩⟩)]) := HF.out.no hk
         clear hk
         refine ⟨.bool true, rfl, ?_⟩
         try simp only [pA, pB, p1, p2, p3]
         refine wp_takeW (.bool false) (by kernel_rfl) (by kernel_rfl) ?_
         try simp only [pA, pB, p1, p2, p3]
         refine WL.nil ?_
         try simp only [pA, pB, p1, p2, p3]
         go_wp2
         go_roundw
         case rel => exact ⟨i + 1, by go_num, by omega, HF⟩
         case measure => simp [intOf]; omega
     · skip
       by_cases h2 : i < im
       · skip
         obtain ⟨yb, yo, z, e0, hc⟩ := HI.out.1.at (i := i) (by rw [HI.out.2]; exact h2)
         subst e0
         have HCZ : Hid (w.cell? ⟨yb, yo + i * 1, none⟩ = some (.int .i64 z)) := hc
         clear hc
         go_upto_region 4 with fail
         refine WL.start ?_
         refine wp_takeW (.int .i64 ((i : Nat) : Int)) (by kernel_rfl) (by kernel_rfl) ?_
         try simp only [pA, pB, p1, p2, p3]
         refine wp_takeW (.slice sa sn sc) (by kernel_rfl) (by kernel_rfl) ?_
         try simp only [pA, pB, p1, p2, p3]
         refine wp_takeW (.int .i64 ((sn : Nat) : Int)) (by kernel_rfl) (by kernel_rfl) ?_
         try simp only [pA, pB, p1, p2, p3]
         refine wp_takeW (.bool false) (exec_bin .lss 3 _ _ _ rfl (.int .i64 ((i : Nat) : Int)) (.int .i64 ((sn : Nat) : Int)) (.bool false) (by kernel_rfl) (by kernel_rfl) (by kernel_rfl) (by rw [b_lss, decide_eq_false (by omega)])) (by kernel_rfl) ?_
         try simp only [pA, pB, p1, p2, p3]
         refine wp_takeW (.bool false) (by kernel_rfl) (by kernel_rfl) ?_
         try simp only [pA, pB, p1, p2, p3]
         refine wp_takeW (.int .i64 ((i : Nat) : Int)) (by kernel_rfl) (by kernel_rfl) ?_
         try simp only [pA, pB, p1, p2, p3]
         refine wp_takeW (.slice (some ⟨yb, yo, none⟩) im ic) (by kernel_rfl) (by kernel_rfl) ?_
         try simp only [pA, pB, p1, p2, p3]
         refine wp_takeW (.int .i64 ((im : Nat) : Int)) (by kernel_rfl) (by kernel_rfl) ?_
         try simp only [pA, pB, p1, p2, p3]
         refine wp_takeW (.bool true) (exec_bin .lss 3 _ _ _ rfl (.int .i64 ((i : Nat) : Int)) (.int .i64 ((im : Nat) : Int)) (.bool true) (by kernel_rfl) (by kernel_rfl) (by kernel_rfl) (by rw [b_lss, decide_eq_true (by omega)])) (by kernel_rfl) ?_
         try simp only [pA, pB, p1, p2, p3]
         refine wp_takeW (.bool true) (by kernel_rfl) (by kernel_rfl) ?_
         try simp only [pA, pB, p1, p2, p3]
         refine WL.nil ?_
         try simp only [pA, pB, p1, p2, p3]
         go_upto_region 6 with fail
         refine WL.start ?_
         refine wp_takeW (.string ⟨#[]⟩) (by kernel_rfl) (by kernel_rfl) ?_
         try simp only [pA, pB, p1, p2, p3]
         refine WL.nil ?_
         try simp only [pA, pB, p1, p2, p3]
         go_upto_region 7 with fail
         refine WL.start ?_
         refine wp_takeW (.int .i64 0) (by kernel_rfl) (by kernel_rfl) ?_
         try simp only [pA, pB, p1, p2, p3]
         refine WL.nil ?_
         try simp only [pA, pB, p1, p2, p3]
         go_upto_region 8 with fail
         refine WL.start ?_
         refine wp_takeW (.int .i64 ((i : Nat) : Int)) (by kernel_rfl) (by kernel_rfl) ?_
         try simp only [pA, pB, p1, p2, p3]
         refine wp_takeW (.slice sa sn sc) (by kernel_rfl) (by kernel_rfl) ?_
         try simp only [pA, pB, p1, p2, p3]
         refine wp_takeW (.int .i64 ((sn : Nat) : Int)) (by kernel_rfl) (by kernel_rfl) ?_
         try simp only [pA, pB, p1, p2, p3]
         refine wp_takeW (.bool false) (exec_bin .lss 3 _ _ _ rfl (.int .i64 ((i : Nat) : Int)) (.int .i64 ((sn : Nat) : Int)) (.bool false) (by kernel_rfl) (by kernel_rfl) (by kernel_rfl) (by rw [b_lss, decide_eq_false (by omega)])) (by kernel_rfl) ?_
         try simp only [pA, pB, p1, p2, p3]
         refine WL.nil ?_
         try simp only [pA, pB, p1, p2, p3]
         go_upto_region 10 with fail
         refine WL.start ?_
         refine wp_takeW (.int .i64 ((i : Nat) : Int)) (by kernel_rfl) (by kernel_rfl) ?_
         try simp only [pA, pB, p1, p2, p3]
         refine wp_takeW (.slice (some ⟨yb, yo, none⟩) im ic) (by kernel_rfl) (by kernel_rfl) ?_
         try simp only [pA, pB, p1, p2, p3]
         refine wp_takeW (.int .i64 ((im : Nat) : Int)) (by kernel_rfl) (by kernel_rfl) ?_
         try simp only [pA, pB, p1, p2, p3]
         refine wp_takeW (.bool true) (exec_bin .lss 3 _ _ _ rfl (.int .i64 ((i : Nat) : Int)) (.int .i64 ((im : Nat) : Int)) (.bool true) (by kernel_rfl) (by kernel_rfl) (by kernel_rfl) (by rw [b_lss, decide_eq_true (by omega)])) (by kernel_rfl) ?_
         try simp only [pA, pB, p1, p2, p3]
         refine WL.nil ?_
         try simp only [pA, pB, p1, p2, p3]
         go_upto_region 11 with fail
         refine WL.start ?_
         refine wp_takeW (.slice (some ⟨yb, yo, none⟩) im ic) (by kernel_rfl) (by kernel_rfl) ?_
         try simp only [pA, pB, p1, p2, p3]
         refine wp_takeW (.int .i64 ((i : Nat) : Int)) (by kernel_rfl) (by kernel_rfl) ?_
         try simp only [pA, pB, p1, p2, p3]
         refine wp_takeW (.pointer (some ⟨yb, yo + i * 1, none⟩)) (exec_ixA 43 1 Try.und43e Try.size43e _ _ rfl yb yo im ic i (by kernel_rfl) (by kernel_rfl) h2) (by kernel_rfl) ?_
         try simp only [pA, pB, p1, p2, p3]
         refine wp_takeW (.int .i64 z) (exec_load 3 _ rfl ⟨yb, yo + i * 1, none⟩ (by kernel_rfl) (.int .i64 z) (ld3 (HF.out.kept.cell HCZ.out (fun e => e)))) (by kernel_rfl) ?_
         try simp only [pA, pB, p1, p2, p3]
         refine wp_takeW (.int .i64 z) (by kernel_rfl) (by kernel_rfl) ?_
         try simp only [pA, pB, p1, p2, p3]
         refine WL.nil ?_
         try simp only [pA, pB, p1, p2, p3]
         go_upto_region 12 with fail
         refine WL.start ?_
         refine wp_takeW (.agg (Bv.cells ⟨up, ⟨ea, en, ec⟩, ⟨la, ln, lc⟩⟩)) (exec_load 25 _ rfl ⟨gk1, 0, none⟩ (by kernel_rfl) (.agg (Bv.cells ⟨up, ⟨ea, en, ec⟩, ⟨la, ln, lc⟩⟩)) (ld25 (HF.out.box 0 _ _ _ rfl))) (by kernel_rfl) ?_
         try simp only [pA, pB, p1, p2, p3]
         refine wp_takeW (.string ⟨#[]⟩) (by kernel_rfl) (by kernel_rfl) ?_
         try simp only [pA, pB, p1, p2, p3]
         refine wp_takeW (.int .i64 z) (by kernel_rfl) (by kernel_rfl) ?_
         try simp only [pA, pB, p1, p2, p3]
         refine wp_callW 13 #[.agg (Bv.cells ⟨up, ⟨ea, en, ec⟩, ⟨la, ln, lc⟩⟩), .string ⟨#[]⟩, .int .i64 z] (by kernel_rfl) _ (asked_any up ea en ec la ln lc es ls ⟨#[]⟩ z _ (HE.out.no HF.out.kept) (HL.out.no HF.out.kept) HGd.out) (by kernel_rfl) ?_
         rintro e wk8 ⟨rfl, hk⟩
         have HF : Hid (Fr No w (wk8) [(gk1, 25, Bv.cells ⟨up, ⟨ea, en, ec⟩, ⟨la, ln, lc⟩⟩)]) := HF.out.no hk
         clear hk
         refine ⟨.bool true, rfl, ?_⟩
         try simp only [pA, pB, p1, p2, p3]
         refine wp_takeW (.bool false) (by kernel_rfl) (by kernel_rfl) ?_
         try simp only [pA, pB, p1, p2, p3]
         refine WL.nil ?_
         try simp only [pA, pB, p1, p2, p3]
         go_wp2
         go_roundw
         case rel => exact ⟨i + 1, by go_num, by omega, HF⟩
         case measure => simp [intOf]; omega
       · skip
         go_upto_region 4 with fail
         refine WL.start ?_
         refine wp_takeW (.int .i64 ((i : Nat) : Int)) (by kernel_rfl) (by kernel_rfl) ?_
         try simp only [pA, pB, p1, p2, p3]
         refine wp_takeW (.slice sa sn sc) (by kernel_rfl) (by kernel_rfl) ?_
         try simp only [pA, pB, p1, p2, p3]
         refine wp_takeW (.int .i64 ((sn : Nat) : Int)) (by kernel_rfl) (by kernel_rfl) ?_
         try simp only [pA, pB, p1, p2, p3]
         refine wp_takeW (.bool false) (exec_bin .lss 3 _ _ _ rfl (.int .i64 ((i : Nat) : Int)) (.int .i64 ((sn : Nat) : Int)) (.bool false) (by kernel_rfl) (by kernel_rfl) (by kernel_rfl) (by rw [b_lss, decide_eq_false (by omega)])) (by kernel_rfl) ?_
         try simp only [pA, pB, p1, p2, p3]
         refine wp_takeW (.bool false) (by kernel_rfl) (by kernel_rfl) ?_
         try simp only [pA, pB, p1, p2, p3]
         refine wp_takeW (.int .i64 ((i : Nat) : Int)) (by kernel_rfl) (by kernel_rfl) ?_
         try simp only [pA, pB, p1, p2, p3]
         refine wp_takeW (.slice ia im ic) (by kernel_rfl) (by kernel_rfl) ?_
         try simp only [pA, pB, p1, p2, p3]
         refine wp_takeW (.int .i64 ((im : Nat) : Int)) (by kernel_rfl) (by kernel_rfl) ?_
         try simp only [pA, pB, p1, p2, p3]
         refine wp_takeW (.bool false) (exec_bin .lss 3 _ _ _ rfl (.int .i64 ((i : Nat) : Int)) (.int .i64 ((im : Nat) : Int)) (.bool false) (by kernel_rfl) (by kernel_rfl) (by kernel_rfl) (by rw [b_lss, decide_eq_false (by omega)])) (by kernel_rfl) ?_
         try simp only [pA, pB, p1, p2, p3]
         refine wp_takeW (.bool false) (by kernel_rfl) (by kernel_rfl) ?_
         try simp only [pA, pB, p1, p2, p3]
         refine WL.nil ?_
         try simp only [pA, pB, p1, p2, p3]
         go_upto_region 14 with fail
         refine WL.start ?_
         refine wp_callW 10 #[] (by kernel_rfl) _ (head_any _) (by kernel_rfl) ?_
         rintro e wk9 ⟨rfl, hk⟩
         have HF : Hid (Fr No w (wk9) [(gk1, 25, Bv.cells ⟨up, ⟨ea, en, ec⟩, ⟨la, ln, lc⟩⟩)]) := HF.out.no hk
         clear hk
         refine ⟨.bool true, rfl, ?_⟩
         try simp only [pA, pB, p1, p2, p3]
         refine wp_takeW (.bool true) (by kernel_rfl) (by kernel_rfl) ?_
         try simp only [pA, pB, p1, p2, p3]
         refine WL.nil ?_
         try simp only [pA, pB, p1, p2, p3]
         go_wp2
         rw [HC.out]
         exact ⟨rfl, HF.out.kept⟩

end Go.Proofs.Ytfemlnfknebalaa
