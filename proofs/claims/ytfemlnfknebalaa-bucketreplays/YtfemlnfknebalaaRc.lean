import Derived.Test.YtfemlnfknebalaaRb
import Derived.Test.YtfemlnfknebalaaZ
namespace Go.Proofs.Ytfemlnfknebalaa
open Go.RowKit
set_option linter.unusedVariables false
set_option linter.unusedSimpArgs false

def spE : En := ⟨⟨#[115, 112, 111, 105, 108, 116]⟩, 0, 0, -5⟩
def spL : La := ⟨-5, 0, 0, 0, 0, 0, 0⟩
def GH (g h : Nat) : Nat → Prop := fun k => k = g ∨ k = h
theorem sameB_refl (u : Int) (es : List En) (ls : List La) : sameB u es ls u es ls = true := by
  unfold sameB
  rw [sameE_iff.2 rfl, sameL_iff.2 rfl]
  simp
theorem lent_en {w : World} {g : Nat} {es : List En} {x : En} {n : Nat} (hb : Box w g 54 (enL (es ++ [x])).toArray) (hn : es.length = n) (hm : n ≤ 140737488355328) : RdE w ⟨some ⟨g, 0, none⟩, n, n + 1⟩ es :=
  OwE.rd (base := 0) ⟨Own.shut (Nat.zero_le _) hb (Nat.le_succ _) (show n + 1 ≤ _ by omega) (show _ = (n + 1) * 4 by rw [enL_len, List.length_append, hn]; rfl) (show _ = enL es by
    rw [enL_app, List.take_append_of_le_length (show n * 4 ≤ _ by rw [enL_len, hn]; exact Nat.le_refl _), List.take_of_length_le (by rw [enL_len, hn]; exact Nat.le_refl _)]), hn⟩
theorem lentM_en {w : World} {g : Nat} {es : List En} {x : En} {n : Nat} (hb : Box w g 54 (enL (es ++ [x])).toArray) (hn : es.length = n) : (loadVar 54 ⟨g, 0 + n * 4, none⟩).run Try.prog w = .ok (.agg x.cells) w :=
  load_E (i := n) (fun j v hv => by
    rw [hb.cell]
    have hlen : (enL es).length = n * 4 := by rw [enL_len, hn]
    rw [enL_app, List.getElem?_toArray, List.getElem?_append_right (by omega), hlen, enL_1, show 0 + n * 4 + j - n * 4 = j by omega]
    exact hv)
theorem over_en {w : World} {g : Nat} {cur : List Value} {n i : Nat} (x : En) (hb : Box w g 54 cur.toArray) (hn : cur.length = n * 4) (hi : i < n) : (storeVar 54 ⟨g, 0 + i * 4, none⟩ (.agg x.cells)).run Try.prog w = .ok () (w.setRow g (putL cur (0 + i * 4) x.cs).toArray) ∧ (putL cur (0 + i * 4) x.cs).length = n * 4 := by
  have hle : 0 + i * 4 + x.cs.length ≤ cur.length := by
    rw [hn]; show 0 + i * 4 + 4 ≤ n * 4; omega
  exact ⟨run_store_at (ty := 54) (v := .agg x.cells) hb rfl Try.size54 hle x.oneL, by rw [putL_len hle, hn]⟩
theorem lent_la {w : World} {g : Nat} {es : List La} {x : La} {n : Nat} (hb : Box w g 64 (laL (es ++ [x])).toArray) (hn : es.length = n) (hm : n ≤ 140737488355328) : RdL w ⟨some ⟨g, 0, none⟩, n, n + 1⟩ es :=
  OwL.rd (base := 0) ⟨Own.shut (Nat.zero_le _) hb (Nat.le_succ _) (show n + 1 ≤ _ by omega) (show _ = (n + 1) * 7 by rw [laL_len, List.length_append, hn]; rfl) (show _ = laL es by
    rw [laL_app, List.take_append_of_le_length (show n * 7 ≤ _ by rw [laL_len, hn]; exact Nat.le_refl _), List.take_of_length_le (by rw [laL_len, hn]; exact Nat.le_refl _)]), hn⟩
theorem lentM_la {w : World} {g : Nat} {es : List La} {x : La} {n : Nat} (hb : Box w g 64 (laL (es ++ [x])).toArray) (hn : es.length = n) : (loadVar 64 ⟨g, 0 + n * 7, none⟩).run Try.prog w = .ok (.agg x.cells) w :=
  load_L (i := n) (fun j v hv => by
    rw [hb.cell]
    have hlen : (laL es).length = n * 7 := by rw [laL_len, hn]
    rw [laL_app, List.getElem?_toArray, List.getElem?_append_right (by omega), hlen, laL_1, show 0 + n * 7 + j - n * 7 = j by omega]
    exact hv)
theorem over_la {w : World} {g : Nat} {cur : List Value} {n i : Nat} (x : La) (hb : Box w g 64 cur.toArray) (hn : cur.length = n * 7) (hi : i < n) : (storeVar 64 ⟨g, 0 + i * 7, none⟩ (.agg x.cells)).run Try.prog w = .ok () (w.setRow g (putL cur (0 + i * 7) x.cs).toArray) ∧ (putL cur (0 + i * 7) x.cs).length = n * 7 := by
  have hle : 0 + i * 7 + x.cs.length ≤ cur.length := by
    rw [hn]; show 0 + i * 7 + 7 ≤ n * 7; omega
  exact ⟨run_store_at (ty := 64) (v := .agg x.cells) hb rfl Try.size64 hle x.oneL, by rw [putL_len hle, hn]⟩
set_option maxRecDepth 100000 in
set_option maxHeartbeats 4000000 in
theorem back_any (g h : Nat) (up : Int) (ea : Option Addr) (en ec : Nat) (la : Option Addr) (ln lc : Nat) (es : List En) (ls : List La) (w : World) (hg : Box w g 54 (enL (es ++ [markE])).toArray) (hh : Box w h 64 (laL (ls ++ [markL])).toArray) (he : RdE w ⟨ea, en, ec⟩ es) (hl : RdL w ⟨la, ln, lc⟩ ls) (hb : en + 1 ≤ 3518437208883) (hbl : ln + 1 ≤ 2513169434916) : Calls Try.prog 19 #[.agg (Bv.cells ⟨up, ⟨(some ⟨g, 0, none⟩), en, (en + 1)⟩, ⟨(some ⟨h, 0, none⟩), ln, (ln + 1)⟩⟩), .agg (Bv.cells ⟨up, ⟨ea, en, ec⟩, ⟨la, ln, lc⟩⟩)] w (fun e w' => e = .returned (.bool true) ∧ Kept (GH g h) w w') := by
  obtain ⟨C, hC⟩ : ∃ C : Ending → World → Prop, C = (fun e w' => e = .returned (.bool true) ∧ Kept (GH g h) w w') := ⟨_, rfl⟩
  have HC : Hid (C = (fun e w' => e = .returned (.bool true) ∧ Kept (GH g h) w w')) := hC
  rw [← hC]
  clear hC
  have HEL : Hid (es.length = en) := he.len
  have HLL : Hid (ls.length = ln) := hl.len
  have HE : Hid (RdE w ⟨ea, en, ec⟩ es) := he
  have HL : Hid (RdL w ⟨la, ln, lc⟩ ls) := hl
  have HG : Hid (Box w g 54 (enL (es ++ [markE])).toArray) := hg
  have HH : Hid (Box w h 64 (laL (ls ++ [markL])).toArray) := hh
  have hne : h ≠ g := box_ne hh hg (by decide)
  have HGL : Hid ((enL (es ++ [markE])).length = (en + 1) * 4) := by show _ = _; rw [enL_len, List.length_append, he.len]; rfl
  have HHL : Hid ((laL (ls ++ [markL])).length = (ln + 1) * 7) := by show _ = _; rw [laL_len, List.length_append, hl.len]; rfl
  have hmE : eqE markE markE = true := eqE_iff.2 rfl
  have hmL : eqL markL markL = true := eqL_iff.2 rfl
  clear he hl hg hh
  have HF : Hid (Fr No w w []) := Fr.start _ _
  go_enter Try.func19, Try.ntmps19
  go_upto_region 0 with fail
  refine WL.start ?_
  refine wp_runW (.pointer (some ⟨w.heap.size, 0, none⟩)) (w.alloc (.cells (Bv.cells ⟨up, ⟨(some ⟨g, 0, none⟩), en, (en + 1)⟩, ⟨(some ⟨h, 0, none⟩), ln, (ln + 1)⟩⟩) 25)) (exec_box 25 _ rfl (Bv.cells ⟨up, ⟨(some ⟨g, 0, none⟩), en, (en + 1)⟩, ⟨(some ⟨h, 0, none⟩), ln, (ln + 1)⟩⟩) (by kernel_rfl)) (by kernel_rfl) ?_
  try simp only [pA, pB, p1, p2, p3]
  have HF : Hid (Fr No w (w.alloc (.cells (Bv.cells ⟨up, ⟨(some ⟨g, 0, none⟩), en, (en + 1)⟩, ⟨(some ⟨h, 0, none⟩), ln, (ln + 1)⟩⟩) 25)) [(w.heap.size, 25, Bv.cells ⟨up, ⟨(some ⟨g, 0, none⟩), en, (en + 1)⟩, ⟨(some ⟨h, 0, none⟩), ln, (ln + 1)⟩⟩)]) := HF.out.alloc _ _
  generalize w.alloc (.cells (Bv.cells ⟨up, ⟨(some ⟨g, 0, none⟩), en, (en + 1)⟩, ⟨(some ⟨h, 0, none⟩), ln, (ln + 1)⟩⟩) 25) = wk2 at HF ⊢
  generalize w.heap.size = gk1 at HF ⊢
  refine wp_runW (.pointer (some ⟨wk2.heap.size, 0, none⟩)) (wk2.alloc (.cells (Bv.cells ⟨up, ⟨ea, en, ec⟩, ⟨la, ln, lc⟩⟩) 25)) (exec_box 25 _ rfl (Bv.cells ⟨up, ⟨ea, en, ec⟩, ⟨la, ln, lc⟩⟩) (by kernel_rfl)) (by kernel_rfl) ?_
  try simp only [pA, pB, p1, p2, p3]
  have HF : Hid (Fr No w (wk2.alloc (.cells (Bv.cells ⟨up, ⟨ea, en, ec⟩, ⟨la, ln, lc⟩⟩) 25)) [(gk1, 25, Bv.cells ⟨up, ⟨(some ⟨g, 0, none⟩), en, (en + 1)⟩, ⟨(some ⟨h, 0, none⟩), ln, (ln + 1)⟩⟩), (wk2.heap.size, 25, Bv.cells ⟨up, ⟨ea, en, ec⟩, ⟨la, ln, lc⟩⟩)]) := HF.out.alloc _ _
  generalize wk2.alloc (.cells (Bv.cells ⟨up, ⟨ea, en, ec⟩, ⟨la, ln, lc⟩⟩) 25) = wk4 at HF ⊢
  generalize wk2.heap.size = gk3 at HF ⊢
  refine tK (.bool false) ?_
  try simp only [pA, pB, p1, p2, p3]
  refine WL.nil ?_
  try simp only [pA, pB, p1, p2, p3]
  go_upto_region 1 with fail
  refine WL.start ?_
  refine tK (.pointer (some ⟨gk1, 1, none⟩)) ?_
  try simp only [pA, pB, p1, p2, p3]
  refine tW (.slice (some ⟨g, 0, none⟩) en (en + 1)) (exec_load 22 _ rfl ⟨gk1, 1, none⟩ (by kernel_rfl) (.slice (some ⟨g, 0, none⟩) en (en + 1)) (ld22 ((HF.out.box 0 _ _ _ rfl).cell 1))) ?_
  try simp only [pA, pB, p1, p2, p3]
  refine tK (.pointer (some ⟨gk1, 1, none⟩)) ?_
  try simp only [pA, pB, p1, p2, p3]
  refine tW (.slice (some ⟨g, 0, none⟩) en (en + 1)) (exec_load 22 _ rfl ⟨gk1, 1, none⟩ (by kernel_rfl) (.slice (some ⟨g, 0, none⟩) en (en + 1)) (ld22 ((HF.out.box 0 _ _ _ rfl).cell 1))) ?_
  try simp only [pA, pB, p1, p2, p3]
  refine tK (.int .i64 ((en : Nat) : Int)) ?_
  try simp only [pA, pB, p1, p2, p3]
  refine tW (.int .i64 (((en + 1) : Nat) : Int)) (exec_bin .add 3 _ _ _ rfl (.int .i64 ((en : Nat) : Int)) (.int .i64 1) (.int .i64 (((en + 1) : Nat) : Int)) (by kernel_rfl) (by kernel_rfl) (by kernel_rfl) (b_addN en 1 (en + 1) rfl (by omega) _)) ?_
  try simp only [pA, pB, p1, p2, p3]
  refine tW (.slice (some ⟨g, 0, none⟩) (en + 1) (en + 1)) (by rw [exec_slH 22 _ _ rfl 4 Try.und22e Try.size22e (some ⟨g, 0, none⟩) en (en + 1) (en + 1) (by kernel_rfl) (by kernel_rfl) (Nat.le_refl _), sliced0 _ _ _ _ (Nat.succ_pos _)]) ?_
  try simp only [pA, pB, p1, p2, p3]
  refine tK (.slice (some ⟨g, 0, none⟩) (en + 1) (en + 1)) ?_
  try simp only [pA, pB, p1, p2, p3]
  refine WL.nil ?_
  try simp only [pA, pB, p1, p2, p3]
  go_upto_region 2 with fail
  refine WL.start ?_
  refine tK (.pointer (some ⟨gk1, 2, none⟩)) ?_
  try simp only [pA, pB, p1, p2, p3]
  refine tW (.slice (some ⟨h, 0, none⟩) ln (ln + 1)) (exec_load 23 _ rfl ⟨gk1, 2, none⟩ (by kernel_rfl) (.slice (some ⟨h, 0, none⟩) ln (ln + 1)) (ld23 ((HF.out.box 0 _ _ _ rfl).cell 2))) ?_
  try simp only [pA, pB, p1, p2, p3]
  refine tK (.pointer (some ⟨gk1, 2, none⟩)) ?_
  try simp only [pA, pB, p1, p2, p3]
  refine tW (.slice (some ⟨h, 0, none⟩) ln (ln + 1)) (exec_load 23 _ rfl ⟨gk1, 2, none⟩ (by kernel_rfl) (.slice (some ⟨h, 0, none⟩) ln (ln + 1)) (ld23 ((HF.out.box 0 _ _ _ rfl).cell 2))) ?_
  try simp only [pA, pB, p1, p2, p3]
  refine tK (.int .i64 ((ln : Nat) : Int)) ?_
  try simp only [pA, pB, p1, p2, p3]
  refine tW (.int .i64 (((ln + 1) : Nat) : Int)) (exec_bin .add 3 _ _ _ rfl (.int .i64 ((ln : Nat) : Int)) (.int .i64 1) (.int .i64 (((ln + 1) : Nat) : Int)) (by kernel_rfl) (by kernel_rfl) (by kernel_rfl) (b_addN ln 1 (ln + 1) rfl (by omega) _)) ?_
  try simp only [pA, pB, p1, p2, p3]
  refine tW (.slice (some ⟨h, 0, none⟩) (ln + 1) (ln + 1)) (by rw [exec_slH 23 _ _ rfl 7 Try.und23e Try.size23e (some ⟨h, 0, none⟩) ln (ln + 1) (ln + 1) (by kernel_rfl) (by kernel_rfl) (Nat.le_refl _), sliced0 _ _ _ _ (Nat.succ_pos _)]) ?_
  try simp only [pA, pB, p1, p2, p3]
  refine tK (.slice (some ⟨h, 0, none⟩) (ln + 1) (ln + 1)) ?_
  try simp only [pA, pB, p1, p2, p3]
  refine WL.nil ?_
  try simp only [pA, pB, p1, p2, p3]
  go_upto_region 3 with fail
  refine WL.start ?_
  refine tW (.agg (Bv.cells ⟨up, ⟨(some ⟨g, 0, none⟩), en, (en + 1)⟩, ⟨(some ⟨h, 0, none⟩), ln, (ln + 1)⟩⟩)) (exec_load 25 _ rfl ⟨gk1, 0, none⟩ (by kernel_rfl) (.agg (Bv.cells ⟨up, ⟨(some ⟨g, 0, none⟩), en, (en + 1)⟩, ⟨(some ⟨h, 0, none⟩), ln, (ln + 1)⟩⟩)) (ld25 (HF.out.box 0 _ _ _ rfl))) ?_
  try simp only [pA, pB, p1, p2, p3]
  refine tW (.agg (Bv.cells ⟨up, ⟨ea, en, ec⟩, ⟨la, ln, lc⟩⟩)) (exec_load 25 _ rfl ⟨gk3, 0, none⟩ (by kernel_rfl) (.agg (Bv.cells ⟨up, ⟨ea, en, ec⟩, ⟨la, ln, lc⟩⟩)) (ld25 (HF.out.box 1 _ _ _ rfl))) ?_
  try simp only [pA, pB, p1, p2, p3]
  refine wp_callW 15 #[.agg (Bv.cells ⟨up, ⟨(some ⟨g, 0, none⟩), en, (en + 1)⟩, ⟨(some ⟨h, 0, none⟩), ln, (ln + 1)⟩⟩), .agg (Bv.cells ⟨up, ⟨ea, en, ec⟩, ⟨la, ln, lc⟩⟩)] (by kernel_rfl) _ (sameB_any up (some ⟨g, 0, none⟩) en (en + 1) (some ⟨h, 0, none⟩) ln (ln + 1) up ea en ec la ln lc es es ls ls _ (lent_en (HG.out.kept HF.out.kept (fun e => e)) HEL.out (by omega)) (HE.out.no HF.out.kept) (lent_la (HH.out.kept HF.out.kept (fun e => e)) HLL.out (by omega)) (HL.out.no HF.out.kept) (by omega) (by omega)) (by kernel_rfl) ?_
  rintro e wk5 ⟨rfl, hk⟩
  have HF : Hid (Fr No w (wk5) [(gk1, 25, Bv.cells ⟨up, ⟨(some ⟨g, 0, none⟩), en, (en + 1)⟩, ⟨(some ⟨h, 0, none⟩), ln, (ln + 1)⟩⟩), (gk3, 25, Bv.cells ⟨up, ⟨ea, en, ec⟩, ⟨la, ln, lc⟩⟩)]) := HF.out.no hk
  clear hk
  refine ⟨.bool true, by rw [sameB_refl], ?_⟩
  try simp only [pA, pB, p1, p2, p3]
  refine tK (.bool true) ?_
  try simp only [pA, pB, p1, p2, p3]
  refine tK (.slice (some ⟨g, 0, none⟩) (en + 1) (en + 1)) ?_
  try simp only [pA, pB, p1, p2, p3]
  refine tK (.slice (some ⟨g, 0, none⟩) (en + 1) (en + 1)) ?_
  try simp only [pA, pB, p1, p2, p3]
  refine tK (.int .i64 (((en + 1) : Nat) : Int)) ?_
  try simp only [pA, pB, p1, p2, p3]
  refine tW (.int .i64 ((en : Nat) : Int)) (exec_bin .sub 3 _ _ _ rfl (.int .i64 (((en + 1) : Nat) : Int)) (.int .i64 1) (.int .i64 ((en : Nat) : Int)) (by kernel_rfl) (by kernel_rfl) (by kernel_rfl) (b_subN (en + 1) 1 en rfl (by omega) _)) ?_
  try simp only [pA, pB, p1, p2, p3]
  refine tW (.pointer (some ⟨g, 0 + en * 4, none⟩)) (exec_ixA 22 4 Try.und22e Try.size22e _ _ rfl g 0 (en + 1) (en + 1) en (by kernel_rfl) (by kernel_rfl) (Nat.lt_succ_self _)) ?_
  try simp only [pA, pB, p1, p2, p3]
  refine tW (.agg (En.cells markE)) (exec_load 54 _ rfl ⟨g, 0 + en * 4, none⟩ (by kernel_rfl) (.agg (En.cells markE)) (lentM_en (HG.out.kept HF.out.kept (fun e => e)) HEL.out)) ?_
  try simp only [pA, pB, p1, p2, p3]
  refine tW (.agg (En.cells markE)) (exec_build 54 _ rfl (En.cells markE) (by kernel_rfl)) ?_
  try simp only [pA, pB, p1, p2, p3]
  refine tW (.bool true) (exec_bin .eql 54 _ _ _ rfl (.agg (En.cells markE)) (.agg (En.cells markE)) (.bool true) (by kernel_rfl) (by kernel_rfl) (by kernel_rfl) (by rw [eqE_eql, hmE]; try rfl)) ?_
  try simp only [pA, pB, p1, p2, p3]
  refine tK (.bool true) ?_
  try simp only [pA, pB, p1, p2, p3]
  refine tK (.bool true) ?_
  try simp only [pA, pB, p1, p2, p3]
  refine tK (.slice (some ⟨h, 0, none⟩) (ln + 1) (ln + 1)) ?_
  try simp only [pA, pB, p1, p2, p3]
  refine tK (.slice (some ⟨h, 0, none⟩) (ln + 1) (ln + 1)) ?_
  try simp only [pA, pB, p1, p2, p3]
  refine tK (.int .i64 (((ln + 1) : Nat) : Int)) ?_
  try simp only [pA, pB, p1, p2, p3]
  refine tW (.int .i64 ((ln : Nat) : Int)) (exec_bin .sub 3 _ _ _ rfl (.int .i64 (((ln + 1) : Nat) : Int)) (.int .i64 1) (.int .i64 ((ln : Nat) : Int)) (by kernel_rfl) (by kernel_rfl) (by kernel_rfl) (b_subN (ln + 1) 1 ln rfl (by omega) _)) ?_
  try simp only [pA, pB, p1, p2, p3]
  refine tW (.pointer (some ⟨h, 0 + ln * 7, none⟩)) (exec_ixA 23 7 Try.und23e Try.size23e _ _ rfl h 0 (ln + 1) (ln + 1) ln (by kernel_rfl) (by kernel_rfl) (Nat.lt_succ_self _)) ?_
  try simp only [pA, pB, p1, p2, p3]
  refine tW (.agg (La.cells markL)) (exec_load 64 _ rfl ⟨h, 0 + ln * 7, none⟩ (by kernel_rfl) (.agg (La.cells markL)) (lentM_la (HH.out.kept HF.out.kept (fun e => e)) HLL.out)) ?_
  try simp only [pA, pB, p1, p2, p3]
  refine tW (.agg (La.cells markL)) (exec_build 64 _ rfl (La.cells markL) (by kernel_rfl)) ?_
  try simp only [pA, pB, p1, p2, p3]
  refine tW (.bool true) (exec_bin .eql 64 _ _ _ rfl (.agg (La.cells markL)) (.agg (La.cells markL)) (.bool true) (by kernel_rfl) (by kernel_rfl) (by kernel_rfl) (by rw [eqL_eql, hmL]; try rfl)) ?_
  try simp only [pA, pB, p1, p2, p3]
  refine tK (.bool true) ?_
  try simp only [pA, pB, p1, p2, p3]
  refine tK (.bool true) ?_
  try simp only [pA, pB, p1, p2, p3]
  refine WL.nil ?_
  try simp only [pA, pB, p1, p2, p3]
  have HK : Hid (Kept (GH g h) w wk5) := HF.out.kept.of_no
  have HG : Hid (∃ cur : List Value, cur.length = (en + 1) * 4 ∧ Box wk5 g 54 cur.toArray) := ⟨_, HGL.out, HG.out.kept HF.out.kept (fun e => e)⟩
  have HH : Hid (∃ cur : List Value, cur.length = (ln + 1) * 7 ∧ Box wk5 h 64 cur.toArray) := ⟨_, HHL.out, HH.out.kept HF.out.kept (fun e => e)⟩
  clear HF HE HL HEL HLL HGL HHL hmE hmL
  generalize hN : en + 1 = N at HG ⊢
  generalize hM : ln + 1 = M at HH ⊢
  go_wp2
  go_loopw [8] (fun v8 wr => ∃ i : Nat, v8 = .int .i64 ((i : Nat) : Int) ∧ i ≤ N ∧ Hid (∃ cur : List Value, cur.length = N * 4 ∧ Box wr g 54 cur.toArray) ∧ Hid (∃ cur : List Value, cur.length = M * 7 ∧ Box wr h 64 cur.toArray) ∧ Hid (Kept (GH g h) w wr)) (fun i _ => N - (intOf i).toNat)
  case atStart => exact ⟨0, by go_num, by omega, HG, HH, HK⟩
  case round =>
    clear HG HH HK
    obtain ⟨i, rfl, hi, HG, HH, HK⟩ := hrel
    by_cases hlt : i < N
    ·skip
     have hlt' : (i : Int) < (N : Int) := by omega
     go_upto_region 7 with fail
     refine WL.start ?_
     refine tK (.slice (some ⟨g, 0, none⟩) N N) ?_
     try simp only [pA, pB, p1, p2, p3]
     refine tK (.int .i64 ((i : Nat) : Int)) ?_
     try simp only [pA, pB, p1, p2, p3]
     refine tW (.agg (En.cells spE)) (exec_build 54 _ rfl (En.cells spE) (by kernel_rfl)) ?_
     try simp only [pA, pB, p1, p2, p3]
     refine tW (.pointer (some ⟨g, 0 + i * 4, none⟩)) (exec_ixA 22 4 Try.und22e Try.size22e _ _ rfl g 0 N N i (by kernel_rfl) (by kernel_rfl) hlt) ?_
     try simp only [pA, pB, p1, p2, p3]
     obtain ⟨cur, hcl, hcb⟩ := HG.out
     obtain ⟨hrun, hlen⟩ := over_en spE hcb hcl hlt
     refine wp_storeW 54 _ _ rfl ⟨g, 0 + i * 4, none⟩ (.agg (En.cells spE)) (by kernel_rfl) (by kernel_rfl) (wr.setRow g (putL cur (0 + i * 4) spE.cs).toArray) hrun (by kernel_rfl) ?_
     try simp only [pA, pB, p1, p2, p3]
     have HG : Hid (∃ cu : List Value, cu.length = N * 4 ∧ Box (wr.setRow g (putL cur (0 + i * 4) spE.cs).toArray) g 54 cu.toArray) := ⟨_, hlen, hcb.setRow _⟩
     have HH : Hid (∃ cu : List Value, cu.length = M * 7 ∧ Box (wr.setRow g (putL cur (0 + i * 4) spE.cs).toArray) h 64 cu.toArray) := by
       obtain ⟨c2, h1, h2⟩ := HH.out
       exact ⟨c2, h1, h2.rowNe hne _⟩
     have HK : Hid (Kept (GH g h) w (wr.setRow g (putL cur (0 + i * 4) spE.cs).toArray)) := HK.out.inRow (.inl rfl) _
     clear hrun hlen hcl hcb
     generalize wr.setRow g (putL cur (0 + i * 4) spE.cs).toArray = wk6 at HG HH HK ⊢
     refine WL.nil ?_
     try simp only [pA, pB, p1, p2, p3]
     go_wp2
     go_roundw
     case rel => exact ⟨i + 1, by go_num, by omega, HG, HH, HK⟩
     case measure => simp [intOf]; omega
    · have hlt' : ¬ (i : Int) < (N : Int) := by omega
      clear hlt hi
      go_wp2
      clear hlt'
      go_loopw [9] (fun v9 wr => ∃ i : Nat, v9 = .int .i64 ((i : Nat) : Int) ∧ i ≤ M ∧ Hid (∃ cur : List Value, cur.length = N * 4 ∧ Box wr g 54 cur.toArray) ∧ Hid (∃ cur : List Value, cur.length = M * 7 ∧ Box wr h 64 cur.toArray) ∧ Hid (Kept (GH g h) w wr)) (fun i _ => M - (intOf i).toNat)
      case atStart => exact ⟨0, by go_num, by omega, HG, HH, HK⟩
      case round =>
        clear HG HH HK
        obtain ⟨i, rfl, hi, HG, HH, HK⟩ := hrel
        by_cases hlt : i < M
        ·skip
         have hlt' : (i : Int) < (M : Int) := by omega
         go_upto_region 11 with fail
         refine WL.start ?_
         refine tK (.slice (some ⟨h, 0, none⟩) M M) ?_
         try simp only [pA, pB, p1, p2, p3]
         refine tK (.int .i64 ((i : Nat) : Int)) ?_
         try simp only [pA, pB, p1, p2, p3]
         refine tW (.agg (La.cells spL)) (exec_build 64 _ rfl (La.cells spL) (by kernel_rfl)) ?_
         try simp only [pA, pB, p1, p2, p3]
         refine tW (.pointer (some ⟨h, 0 + i * 7, none⟩)) (exec_ixA 23 7 Try.und23e Try.size23e _ _ rfl h 0 M M i (by kernel_rfl) (by kernel_rfl) hlt) ?_
         try simp only [pA, pB, p1, p2, p3]
         obtain ⟨cur, hcl, hcb⟩ := HH.out
         obtain ⟨hrun, hlen⟩ := over_la spL hcb hcl hlt
         refine wp_storeW 64 _ _ rfl ⟨h, 0 + i * 7, none⟩ (.agg (La.cells spL)) (by kernel_rfl) (by kernel_rfl) (wr.setRow h (putL cur (0 + i * 7) spL.cs).toArray) hrun (by kernel_rfl) ?_
         try simp only [pA, pB, p1, p2, p3]
         have HH : Hid (∃ cu : List Value, cu.length = M * 7 ∧ Box (wr.setRow h (putL cur (0 + i * 7) spL.cs).toArray) h 64 cu.toArray) := ⟨_, hlen, hcb.setRow _⟩
         have HG : Hid (∃ cu : List Value, cu.length = N * 4 ∧ Box (wr.setRow h (putL cur (0 + i * 7) spL.cs).toArray) g 54 cu.toArray) := by
           obtain ⟨c2, h1, h2⟩ := HG.out
           exact ⟨c2, h1, h2.rowNe (Ne.symm hne) _⟩
         have HK : Hid (Kept (GH g h) w (wr.setRow h (putL cur (0 + i * 7) spL.cs).toArray)) := HK.out.inRow (.inr rfl) _
         clear hrun hlen hcl hcb
         generalize wr.setRow h (putL cur (0 + i * 7) spL.cs).toArray = wk7 at HG HH HK ⊢
         refine WL.nil ?_
         try simp only [pA, pB, p1, p2, p3]
         go_wp2
         go_roundw
         case rel => exact ⟨i + 1, by go_num, by omega, HG, HH, HK⟩
         case measure => simp [intOf]; omega
        · have hlt' : ¬ (i : Int) < (M : Int) := by omega
          go_wp2
          rw [HC.out]
          exact ⟨rfl, HK.out⟩

end Go.Proofs.Ytfemlnfknebalaa
