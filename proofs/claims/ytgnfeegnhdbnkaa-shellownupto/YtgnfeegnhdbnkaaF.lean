import Derived.Test.YtgnfeegnhdbnkaaE
namespace Go.Proofs.Ytgnfeegnhdbnkaa
open Go.RowKit Go.Lib
set_option linter.unusedVariables false
set_option linter.unusedSimpArgs false

theorem cutL_len (l : List UInt8) (a b : Nat) : (cutL l a b).length ≤ l.length := by
  unfold cutL
  rw [List.length_take, List.length_drop]
  omega
set_option maxRecDepth 100000 in
set_option maxHeartbeats 4000000 in
theorem begin_q (n0 g : Nat) (l : List UInt8) (s : Cs) (i : Nat) (r : Int) (w : World) (hcut : CutA n0 w g l s) (hi : i < l.length) (hl : l.length ≤ 1000000000000) (hfr : s.fr ≤ i) (hws : s.ws.length ≤ 1000000000000) (hbt : s.bt.length ≤ 1000000000000) (hr : r = 34) : Calls Try.prog 13 #[.pointer (some ⟨g, 0, none⟩), .int .i64 (i : Int), .int .i32 r] w (fun e w' => e = .returned (.tuple #[]) ∧ CutA n0 w' g l (begS s i r) ∧ Kept (Sg n0 g) w w') := by
  obtain ⟨C, hC⟩ : ∃ C : Ending → World → Prop, C = (fun e w' => e = .returned (.tuple #[]) ∧ CutA n0 w' g l (begS s i r) ∧ Kept (Sg n0 g) w w') := ⟨_, rfl⟩
  have HC : Hid (C = (fun e w' => e = .returned (.tuple #[]) ∧ CutA n0 w' g l (begS s i r) ∧ Kept (Sg n0 g) w w')) := hC
  rw [← hC]
  clear hC
  subst hr
  have HS : Hid (begS s i 34 = { s with pl := 2, fr := i + 1, bt := [] }) := rfl
  obtain ⟨wa, wc, ba, bc, hC0⟩ := hcut
  have HB : Hid (Box w g 40 #[.string (bs l), .slice wa s.ws.length wc, .int .i64 (s.pl : Int), .int .i64 (s.fr : Int), .slice ba s.bt.length bc]) := hC0.box
  have HW : Hid (Own 9 1 w n0 wa wc s.ws.length (s.ws.map strV)) := hC0.hw
  have HY : Hid (Own 5 1 w n0 ba bc s.bt.length (s.bt.map u8V)) := hC0.hb
  have HL : Hid (n0 ≤ w.heap.size) := hC0.hn
  have HK : Hid (Kept (Sg n0 g) w w) := Kept.refl _ _
  clear hC0
  have HI : Hid (i < l.length ∧ l.length ≤ 1000000000000) := ⟨hi, hl⟩
  have HFr : Hid (s.fr ≤ i) := hfr
  have HWd : Hid (s.ws.length ≤ 1000000000000) := hws
  have HBd : Hid (s.bt.length ≤ 1000000000000) := hbt
  clear hi hl hfr hws hbt
  go_enter Try.func13, Try.ntmps13
  go_upto_region 0 with fail
  refine WL.start ?_
  refine tK (.int .i32 34) ?_
  try simp only [pA, pB, p1, p2, p3]
  refine tK (.bool true) ?_
  try simp only [pA, pB, p1, p2, p3]
  refine tK (.bool true) ?_
  try simp only [pA, pB, p1, p2, p3]
  refine WL.nil ?_
  try simp only [pA, pB, p1, p2, p3]
  go_upto_region 1 with fail
  refine WL.start ?_
  refine tK (.pointer (some ⟨g, 0, none⟩)) ?_
  try simp only [pA, pB, p1, p2, p3]
  refine tK (.pointer (some ⟨g, 0, none⟩)) ?_
  try simp only [pA, pB, p1, p2, p3]
  refine tK (.pointer (some ⟨g, 0, none⟩)) ?_
  try simp only [pA, pB, p1, p2, p3]
  refine tK (.int .i64 (i : Int)) ?_
  try simp only [pA, pB, p1, p2, p3]
  refine tW (.int .i64 ((i + 1 : Nat) : Int)) (exec_bin .add 3 _ _ _ rfl (.int .i64 (i : Int)) (.int .i64 1) (.int .i64 ((i + 1 : Nat) : Int)) (by kernel_rfl) (by kernel_rfl) (by kernel_rfl) (b_add1 i (by have := HI.out; omega) _)) ?_
  try simp only [pA, pB, p1, p2, p3]
  refine tK (.pointer (some ⟨g, 0, none⟩)) ?_
  try simp only [pA, pB, p1, p2, p3]
  refine tK (.pointer (some ⟨g, 2, none⟩)) ?_
  try simp only [pA, pB, p1, p2, p3]
  have hst : (storeVar 38 ⟨g, 2, none⟩ (.int .i64 2)).run Try.prog w = .ok () (w.setRow g #[.string (bs l), .slice wa s.ws.length wc, .int .i64 2, .int .i64 (s.fr : Int), .slice ba s.bt.length bc]) := run_store_to (cur := [.string (bs l), .slice wa s.ws.length wc, .int .i64 (s.pl : Int), .int .i64 (s.fr : Int), .slice ba s.bt.length bc]) (vs := [.int .i64 2]) (new := [.string (bs l), .slice wa s.ws.length wc, .int .i64 2, .int .i64 (s.fr : Int), .slice ba s.bt.length bc]) HB.out (by kernel_rfl) S38 (Nat.le_of_ble_eq_true (by kernel_rfl)) (by simp [Value.oneCell', strV, u8V]) (by kernel_rfl)
  have HW : Hid (Own 9 1 (w.setRow g #[.string (bs l), .slice wa s.ws.length wc, .int .i64 2, .int .i64 (s.fr : Int), .slice ba s.bt.length bc]) n0 wa wc s.ws.length (s.ws.map strV)) := HW.out.kept (Kept.setRow _ _ _) (HW.out.notBox HB.out (by decide))
  have HY : Hid (Own 5 1 (w.setRow g #[.string (bs l), .slice wa s.ws.length wc, .int .i64 2, .int .i64 (s.fr : Int), .slice ba s.bt.length bc]) n0 ba bc s.bt.length (s.bt.map u8V)) := HY.out.kept (Kept.setRow _ _ _) (HY.out.notBox HB.out (by decide))
  have HK : Hid (Kept (Sg n0 g) w (w.setRow g #[.string (bs l), .slice wa s.ws.length wc, .int .i64 2, .int .i64 (s.fr : Int), .slice ba s.bt.length bc])) := HK.out.inRow (S := Sg n0 g) (Or.inl rfl) _
  have HB : Hid (Box (w.setRow g #[.string (bs l), .slice wa s.ws.length wc, .int .i64 2, .int .i64 (s.fr : Int), .slice ba s.bt.length bc]) g 40 #[.string (bs l), .slice wa s.ws.length wc, .int .i64 2, .int .i64 (s.fr : Int), .slice ba s.bt.length bc]) := HB.out.setRow _
  refine wp_storeW 38 _ _ rfl ⟨g, 2, none⟩ (.int .i64 2) (by kernel_rfl) (by kernel_rfl) (w.setRow g #[.string (bs l), .slice wa s.ws.length wc, .int .i64 2, .int .i64 (s.fr : Int), .slice ba s.bt.length bc]) hst (by kernel_rfl) ?_
  try simp only [pA, pB, p1, p2, p3]
  clear hst
  generalize w.setRow g #[.string (bs l), .slice wa s.ws.length wc, .int .i64 2, .int .i64 (s.fr : Int), .slice ba s.bt.length bc] = wk1 at HW HY HK HB ⊢
  refine tK (.pointer (some ⟨g, 0, none⟩)) ?_
  try simp only [pA, pB, p1, p2, p3]
  refine tK (.pointer (some ⟨g, 3, none⟩)) ?_
  try simp only [pA, pB, p1, p2, p3]
  have hst : (storeVar 3 ⟨g, 3, none⟩ (.int .i64 ((i + 1 : Nat) : Int))).run Try.prog wk1 = .ok () (wk1.setRow g #[.string (bs l), .slice wa s.ws.length wc, .int .i64 2, .int .i64 ((i + 1 : Nat) : Int), .slice ba s.bt.length bc]) := run_store_to (cur := [.string (bs l), .slice wa s.ws.length wc, .int .i64 2, .int .i64 (s.fr : Int), .slice ba s.bt.length bc]) (vs := [.int .i64 ((i + 1 : Nat) : Int)]) (new := [.string (bs l), .slice wa s.ws.length wc, .int .i64 2, .int .i64 ((i + 1 : Nat) : Int), .slice ba s.bt.length bc]) HB.out (by kernel_rfl) S3 (Nat.le_of_ble_eq_true (by kernel_rfl)) (by simp [Value.oneCell', strV, u8V]) (by kernel_rfl)
  have HW : Hid (Own 9 1 (wk1.setRow g #[.string (bs l), .slice wa s.ws.length wc, .int .i64 2, .int .i64 ((i + 1 : Nat) : Int), .slice ba s.bt.length bc]) n0 wa wc s.ws.length (s.ws.map strV)) := HW.out.kept (Kept.setRow _ _ _) (HW.out.notBox HB.out (by decide))
  have HY : Hid (Own 5 1 (wk1.setRow g #[.string (bs l), .slice wa s.ws.length wc, .int .i64 2, .int .i64 ((i + 1 : Nat) : Int), .slice ba s.bt.length bc]) n0 ba bc s.bt.length (s.bt.map u8V)) := HY.out.kept (Kept.setRow _ _ _) (HY.out.notBox HB.out (by decide))
  have HK : Hid (Kept (Sg n0 g) w (wk1.setRow g #[.string (bs l), .slice wa s.ws.length wc, .int .i64 2, .int .i64 ((i + 1 : Nat) : Int), .slice ba s.bt.length bc])) := HK.out.inRow (S := Sg n0 g) (Or.inl rfl) _
  have HB : Hid (Box (wk1.setRow g #[.string (bs l), .slice wa s.ws.length wc, .int .i64 2, .int .i64 ((i + 1 : Nat) : Int), .slice ba s.bt.length bc]) g 40 #[.string (bs l), .slice wa s.ws.length wc, .int .i64 2, .int .i64 ((i + 1 : Nat) : Int), .slice ba s.bt.length bc]) := HB.out.setRow _
  refine wp_storeW 3 _ _ rfl ⟨g, 3, none⟩ (.int .i64 ((i + 1 : Nat) : Int)) (by kernel_rfl) (by kernel_rfl) (wk1.setRow g #[.string (bs l), .slice wa s.ws.length wc, .int .i64 2, .int .i64 ((i + 1 : Nat) : Int), .slice ba s.bt.length bc]) hst (by kernel_rfl) ?_
  try simp only [pA, pB, p1, p2, p3]
  clear hst
  generalize wk1.setRow g #[.string (bs l), .slice wa s.ws.length wc, .int .i64 2, .int .i64 ((i + 1 : Nat) : Int), .slice ba s.bt.length bc] = wk2 at HW HY HK HB ⊢
  refine tK (.pointer (some ⟨g, 0, none⟩)) ?_
  try simp only [pA, pB, p1, p2, p3]
  refine tK (.pointer (some ⟨g, 4, none⟩)) ?_
  try simp only [pA, pB, p1, p2, p3]
  have hst : (storeVar 30 ⟨g, 4, none⟩ (.slice none 0 0)).run Try.prog wk2 = .ok () (wk2.setRow g #[.string (bs l), .slice wa s.ws.length wc, .int .i64 2, .int .i64 ((i + 1 : Nat) : Int), .slice none 0 0]) := run_store_to (cur := [.string (bs l), .slice wa s.ws.length wc, .int .i64 2, .int .i64 ((i + 1 : Nat) : Int), .slice ba s.bt.length bc]) (vs := [.slice none 0 0]) (new := [.string (bs l), .slice wa s.ws.length wc, .int .i64 2, .int .i64 ((i + 1 : Nat) : Int), .slice none 0 0]) HB.out (by kernel_rfl) S30 (Nat.le_of_ble_eq_true (by kernel_rfl)) (by simp [Value.oneCell', strV, u8V]) (by kernel_rfl)
  have HW : Hid (Own 9 1 (wk2.setRow g #[.string (bs l), .slice wa s.ws.length wc, .int .i64 2, .int .i64 ((i + 1 : Nat) : Int), .slice none 0 0]) n0 wa wc s.ws.length (s.ws.map strV)) := HW.out.kept (Kept.setRow _ _ _) (HW.out.notBox HB.out (by decide))
  have HY : Hid (Own 5 1 (wk2.setRow g #[.string (bs l), .slice wa s.ws.length wc, .int .i64 2, .int .i64 ((i + 1 : Nat) : Int), .slice none 0 0]) n0 ba bc s.bt.length (s.bt.map u8V)) := HY.out.kept (Kept.setRow _ _ _) (HY.out.notBox HB.out (by decide))
  have HK : Hid (Kept (Sg n0 g) w (wk2.setRow g #[.string (bs l), .slice wa s.ws.length wc, .int .i64 2, .int .i64 ((i + 1 : Nat) : Int), .slice none 0 0])) := HK.out.inRow (S := Sg n0 g) (Or.inl rfl) _
  have HB : Hid (Box (wk2.setRow g #[.string (bs l), .slice wa s.ws.length wc, .int .i64 2, .int .i64 ((i + 1 : Nat) : Int), .slice none 0 0]) g 40 #[.string (bs l), .slice wa s.ws.length wc, .int .i64 2, .int .i64 ((i + 1 : Nat) : Int), .slice none 0 0]) := HB.out.setRow _
  refine wp_storeW 30 _ _ rfl ⟨g, 4, none⟩ (.slice none 0 0) (by kernel_rfl) (by kernel_rfl) (wk2.setRow g #[.string (bs l), .slice wa s.ws.length wc, .int .i64 2, .int .i64 ((i + 1 : Nat) : Int), .slice none 0 0]) hst (by kernel_rfl) ?_
  try simp only [pA, pB, p1, p2, p3]
  clear hst
  generalize wk2.setRow g #[.string (bs l), .slice wa s.ws.length wc, .int .i64 2, .int .i64 ((i + 1 : Nat) : Int), .slice none 0 0] = wk3 at HW HY HK HB ⊢
  refine WL.nil ?_
  try simp only [pA, pB, p1, p2, p3]
  go_wp2
  go_end0
  rw [HC.out]
  exact ⟨rfl, by rw [HS.out]; exact CutA.of _ HB.out HW.out (Own.nil _ _ _ _) (Nat.le_trans HL.out HK.out.size) (by simp [strV, u8V]) (by simp [strV, u8V]) (by simp [strV, u8V]) (by simp [strV, u8V]) (by simp [strV, u8V]) (by simp [strV, u8V]), HK.out⟩
set_option maxRecDepth 100000 in
set_option maxHeartbeats 4000000 in
theorem begin_b (n0 g : Nat) (l : List UInt8) (s : Cs) (i : Nat) (r : Int) (w : World) (hcut : CutA n0 w g l s) (hi : i < l.length) (hl : l.length ≤ 1000000000000) (hfr : s.fr ≤ i) (hws : s.ws.length ≤ 1000000000000) (hbt : s.bt.length ≤ 1000000000000) (hr : r ≠ 34) (hb : isB r = true) : Calls Try.prog 13 #[.pointer (some ⟨g, 0, none⟩), .int .i64 (i : Int), .int .i32 r] w (fun e w' => e = .returned (.tuple #[]) ∧ CutA n0 w' g l (begS s i r) ∧ Kept (Sg n0 g) w w') := by
  obtain ⟨C, hC⟩ : ∃ C : Ending → World → Prop, C = (fun e w' => e = .returned (.tuple #[]) ∧ CutA n0 w' g l (begS s i r) ∧ Kept (Sg n0 g) w w') := ⟨_, rfl⟩
  have HC : Hid (C = (fun e w' => e = .returned (.tuple #[]) ∧ CutA n0 w' g l (begS s i r) ∧ Kept (Sg n0 g) w w')) := hC
  rw [← hC]
  clear hC
  have hne : (r == 34) = false := by simpa using hr
  have HS : Hid (begS s i r = s) := by show _ = _; unfold begS; rw [if_neg hr, if_pos hb]
  clear hr
  obtain ⟨wa, wc, ba, bc, hC0⟩ := hcut
  have HB : Hid (Box w g 40 #[.string (bs l), .slice wa s.ws.length wc, .int .i64 (s.pl : Int), .int .i64 (s.fr : Int), .slice ba s.bt.length bc]) := hC0.box
  have HW : Hid (Own 9 1 w n0 wa wc s.ws.length (s.ws.map strV)) := hC0.hw
  have HY : Hid (Own 5 1 w n0 ba bc s.bt.length (s.bt.map u8V)) := hC0.hb
  have HL : Hid (n0 ≤ w.heap.size) := hC0.hn
  have HK : Hid (Kept (Sg n0 g) w w) := Kept.refl _ _
  clear hC0
  have HI : Hid (i < l.length ∧ l.length ≤ 1000000000000) := ⟨hi, hl⟩
  have HFr : Hid (s.fr ≤ i) := hfr
  have HWd : Hid (s.ws.length ≤ 1000000000000) := hws
  have HBd : Hid (s.bt.length ≤ 1000000000000) := hbt
  clear hi hl hfr hws hbt
  go_enter Try.func13, Try.ntmps13
  go_upto_region 0 with fail
  refine WL.start ?_
  refine tK (.int .i32 r) ?_
  try simp only [pA, pB, p1, p2, p3]
  refine tW (.bool false) (exec_bin .eql 21 _ _ _ rfl (.int .i32 r) (.int .i32 34) (.bool false) (by kernel_rfl) (by kernel_rfl) (by kernel_rfl) (by rw [b_eq21, hne])) ?_
  try simp only [pA, pB, p1, p2, p3]
  refine tK (.bool false) ?_
  try simp only [pA, pB, p1, p2, p3]
  refine WL.nil ?_
  try simp only [pA, pB, p1, p2, p3]
  go_upto_region 2 with fail
  refine WL.start ?_
  refine tK (.int .i32 r) ?_
  try simp only [pA, pB, p1, p2, p3]
  refine wp_callW 22 #[.int .i32 r] (by kernel_rfl) _ (isBlank_any _ w) (by kernel_rfl) ?_
  rintro e wq ⟨rfl, hwq⟩
  rw [hwq]
  clear hwq wq
  refine ⟨.bool true, by rw [hb], ?_⟩
  try simp only [pA, pB, p1, p2, p3]
  refine tK (.bool false) ?_
  try simp only [pA, pB, p1, p2, p3]
  refine tK (.bool false) ?_
  try simp only [pA, pB, p1, p2, p3]
  refine WL.nil ?_
  try simp only [pA, pB, p1, p2, p3]
  go_wp2
  go_end0
  rw [HC.out]
  exact ⟨rfl, by rw [HS.out]; exact CutA.of _ HB.out HW.out HY.out (Nat.le_trans HL.out HK.out.size) (by simp [strV, u8V]) (by simp [strV, u8V]) (by simp [strV, u8V]) (by simp [strV, u8V]) (by simp [strV, u8V]) (by simp [strV, u8V]), HK.out⟩
set_option maxRecDepth 100000 in
set_option maxHeartbeats 4000000 in
theorem begin_p (n0 g : Nat) (l : List UInt8) (s : Cs) (i : Nat) (r : Int) (w : World) (hcut : CutA n0 w g l s) (hi : i < l.length) (hl : l.length ≤ 1000000000000) (hfr : s.fr ≤ i) (hws : s.ws.length ≤ 1000000000000) (hbt : s.bt.length ≤ 1000000000000) (hr : r ≠ 34) (hb : isB r = false) : Calls Try.prog 13 #[.pointer (some ⟨g, 0, none⟩), .int .i64 (i : Int), .int .i32 r] w (fun e w' => e = .returned (.tuple #[]) ∧ CutA n0 w' g l (begS s i r) ∧ Kept (Sg n0 g) w w') := by
  obtain ⟨C, hC⟩ : ∃ C : Ending → World → Prop, C = (fun e w' => e = .returned (.tuple #[]) ∧ CutA n0 w' g l (begS s i r) ∧ Kept (Sg n0 g) w w') := ⟨_, rfl⟩
  have HC : Hid (C = (fun e w' => e = .returned (.tuple #[]) ∧ CutA n0 w' g l (begS s i r) ∧ Kept (Sg n0 g) w w')) := hC
  rw [← hC]
  clear hC
  have hne : (r == 34) = false := by simpa using hr
  have HS : Hid (begS s i r = { s with pl := 1, fr := i }) := by show _ = _; unfold begS; rw [if_neg hr, if_neg (by rw [hb]; decide)]
  clear hr
  obtain ⟨wa, wc, ba, bc, hC0⟩ := hcut
  have HB : Hid (Box w g 40 #[.string (bs l), .slice wa s.ws.length wc, .int .i64 (s.pl : Int), .int .i64 (s.fr : Int), .slice ba s.bt.length bc]) := hC0.box
  have HW : Hid (Own 9 1 w n0 wa wc s.ws.length (s.ws.map strV)) := hC0.hw
  have HY : Hid (Own 5 1 w n0 ba bc s.bt.length (s.bt.map u8V)) := hC0.hb
  have HL : Hid (n0 ≤ w.heap.size) := hC0.hn
  have HK : Hid (Kept (Sg n0 g) w w) := Kept.refl _ _
  clear hC0
  have HI : Hid (i < l.length ∧ l.length ≤ 1000000000000) := ⟨hi, hl⟩
  have HFr : Hid (s.fr ≤ i) := hfr
  have HWd : Hid (s.ws.length ≤ 1000000000000) := hws
  have HBd : Hid (s.bt.length ≤ 1000000000000) := hbt
  clear hi hl hfr hws hbt
  go_enter Try.func13, Try.ntmps13
  go_upto_region 0 with fail
  refine WL.start ?_
  refine tK (.int .i32 r) ?_
  try simp only [pA, pB, p1, p2, p3]
  refine tW (.bool false) (exec_bin .eql 21 _ _ _ rfl (.int .i32 r) (.int .i32 34) (.bool false) (by kernel_rfl) (by kernel_rfl) (by kernel_rfl) (by rw [b_eq21, hne])) ?_
  try simp only [pA, pB, p1, p2, p3]
  refine tK (.bool false) ?_
  try simp only [pA, pB, p1, p2, p3]
  refine WL.nil ?_
  try simp only [pA, pB, p1, p2, p3]
  go_upto_region 2 with fail
  refine WL.start ?_
  refine tK (.int .i32 r) ?_
  try simp only [pA, pB, p1, p2, p3]
  refine wp_callW 22 #[.int .i32 r] (by kernel_rfl) _ (isBlank_any _ w) (by kernel_rfl) ?_
  rintro e wq ⟨rfl, hwq⟩
  rw [hwq]
  clear hwq wq
  refine ⟨.bool false, by rw [hb], ?_⟩
  try simp only [pA, pB, p1, p2, p3]
  refine tK (.bool true) ?_
  try simp only [pA, pB, p1, p2, p3]
  refine tK (.bool true) ?_
  try simp only [pA, pB, p1, p2, p3]
  refine WL.nil ?_
  try simp only [pA, pB, p1, p2, p3]
  go_upto_region 3 with fail
  refine WL.start ?_
  refine tK (.pointer (some ⟨g, 0, none⟩)) ?_
  try simp only [pA, pB, p1, p2, p3]
  refine tK (.pointer (some ⟨g, 0, none⟩)) ?_
  try simp only [pA, pB, p1, p2, p3]
  refine tK (.int .i64 (i : Int)) ?_
  try simp only [pA, pB, p1, p2, p3]
  refine tK (.pointer (some ⟨g, 0, none⟩)) ?_
  try simp only [pA, pB, p1, p2, p3]
  refine tK (.pointer (some ⟨g, 2, none⟩)) ?_
  try simp only [pA, pB, p1, p2, p3]
  have hst : (storeVar 38 ⟨g, 2, none⟩ (.int .i64 1)).run Try.prog w = .ok () (w.setRow g #[.string (bs l), .slice wa s.ws.length wc, .int .i64 1, .int .i64 (s.fr : Int), .slice ba s.bt.length bc]) := run_store_to (cur := [.string (bs l), .slice wa s.ws.length wc, .int .i64 (s.pl : Int), .int .i64 (s.fr : Int), .slice ba s.bt.length bc]) (vs := [.int .i64 1]) (new := [.string (bs l), .slice wa s.ws.length wc, .int .i64 1, .int .i64 (s.fr : Int), .slice ba s.bt.length bc]) HB.out (by kernel_rfl) S38 (Nat.le_of_ble_eq_true (by kernel_rfl)) (by simp [Value.oneCell', strV, u8V]) (by kernel_rfl)
  have HW : Hid (Own 9 1 (w.setRow g #[.string (bs l), .slice wa s.ws.length wc, .int .i64 1, .int .i64 (s.fr : Int), .slice ba s.bt.length bc]) n0 wa wc s.ws.length (s.ws.map strV)) := HW.out.kept (Kept.setRow _ _ _) (HW.out.notBox HB.out (by decide))
  have HY : Hid (Own 5 1 (w.setRow g #[.string (bs l), .slice wa s.ws.length wc, .int .i64 1, .int .i64 (s.fr : Int), .slice ba s.bt.length bc]) n0 ba bc s.bt.length (s.bt.map u8V)) := HY.out.kept (Kept.setRow _ _ _) (HY.out.notBox HB.out (by decide))
  have HK : Hid (Kept (Sg n0 g) w (w.setRow g #[.string (bs l), .slice wa s.ws.length wc, .int .i64 1, .int .i64 (s.fr : Int), .slice ba s.bt.length bc])) := HK.out.inRow (S := Sg n0 g) (Or.inl rfl) _
  have HB : Hid (Box (w.setRow g #[.string (bs l), .slice wa s.ws.length wc, .int .i64 1, .int .i64 (s.fr : Int), .slice ba s.bt.length bc]) g 40 #[.string (bs l), .slice wa s.ws.length wc, .int .i64 1, .int .i64 (s.fr : Int), .slice ba s.bt.length bc]) := HB.out.setRow _
  refine wp_storeW 38 _ _ rfl ⟨g, 2, none⟩ (.int .i64 1) (by kernel_rfl) (by kernel_rfl) (w.setRow g #[.string (bs l), .slice wa s.ws.length wc, .int .i64 1, .int .i64 (s.fr : Int), .slice ba s.bt.length bc]) hst (by kernel_rfl) ?_
  try simp only [pA, pB, p1, p2, p3]
  clear hst
  generalize w.setRow g #[.string (bs l), .slice wa s.ws.length wc, .int .i64 1, .int .i64 (s.fr : Int), .slice ba s.bt.length bc] = wk1 at HW HY HK HB ⊢
  refine tK (.pointer (some ⟨g, 0, none⟩)) ?_
  try simp only [pA, pB, p1, p2, p3]
  refine tK (.pointer (some ⟨g, 3, none⟩)) ?_
  try simp only [pA, pB, p1, p2, p3]
  have hst : (storeVar 3 ⟨g, 3, none⟩ (.int .i64 (i : Int))).run Try.prog wk1 = .ok () (wk1.setRow g #[.string (bs l), .slice wa s.ws.length wc, .int .i64 1, .int .i64 (i : Int), .slice ba s.bt.length bc]) := run_store_to (cur := [.string (bs l), .slice wa s.ws.length wc, .int .i64 1, .int .i64 (s.fr : Int), .slice ba s.bt.length bc]) (vs := [.int .i64 (i : Int)]) (new := [.string (bs l), .slice wa s.ws.length wc, .int .i64 1, .int .i64 (i : Int), .slice ba s.bt.length bc]) HB.out (by kernel_rfl) S3 (Nat.le_of_ble_eq_true (by kernel_rfl)) (by simp [Value.oneCell', strV, u8V]) (by kernel_rfl)
  have HW : Hid (Own 9 1 (wk1.setRow g #[.string (bs l), .slice wa s.ws.length wc, .int .i64 1, .int .i64 (i : Int), .slice ba s.bt.length bc]) n0 wa wc s.ws.length (s.ws.map strV)) := HW.out.kept (Kept.setRow _ _ _) (HW.out.notBox HB.out (by decide))
  have HY : Hid (Own 5 1 (wk1.setRow g #[.string (bs l), .slice wa s.ws.length wc, .int .i64 1, .int .i64 (i : Int), .slice ba s.bt.length bc]) n0 ba bc s.bt.length (s.bt.map u8V)) := HY.out.kept (Kept.setRow _ _ _) (HY.out.notBox HB.out (by decide))
  have HK : Hid (Kept (Sg n0 g) w (wk1.setRow g #[.string (bs l), .slice wa s.ws.length wc, .int .i64 1, .int .i64 (i : Int), .slice ba s.bt.length bc])) := HK.out.inRow (S := Sg n0 g) (Or.inl rfl) _
  have HB : Hid (Box (wk1.setRow g #[.string (bs l), .slice wa s.ws.length wc, .int .i64 1, .int .i64 (i : Int), .slice ba s.bt.length bc]) g 40 #[.string (bs l), .slice wa s.ws.length wc, .int .i64 1, .int .i64 (i : Int), .slice ba s.bt.length bc]) := HB.out.setRow _
  refine wp_storeW 3 _ _ rfl ⟨g, 3, none⟩ (.int .i64 (i : Int)) (by kernel_rfl) (by kernel_rfl) (wk1.setRow g #[.string (bs l), .slice wa s.ws.length wc, .int .i64 1, .int .i64 (i : Int), .slice ba s.bt.length bc]) hst (by kernel_rfl) ?_
  try simp only [pA, pB, p1, p2, p3]
  clear hst
  generalize wk1.setRow g #[.string (bs l), .slice wa s.ws.length wc, .int .i64 1, .int .i64 (i : Int), .slice ba s.bt.length bc] = wk2 at HW HY HK HB ⊢
  refine WL.nil ?_
  try simp only [pA, pB, p1, p2, p3]
  go_wp2
  go_end0
  rw [HC.out]
  exact ⟨rfl, by rw [HS.out]; exact CutA.of _ HB.out HW.out HY.out (Nat.le_trans HL.out HK.out.size) (by simp [strV, u8V]) (by simp [strV, u8V]) (by simp [strV, u8V]) (by simp [strV, u8V]) (by simp [strV, u8V]) (by simp [strV, u8V]), HK.out⟩
set_option maxRecDepth 100000 in
set_option maxHeartbeats 4000000 in
theorem plain_q (n0 g : Nat) (l : List UInt8) (s : Cs) (i : Nat) (r : Int) (w : World) (hcut : CutA n0 w g l s) (hi : i < l.length) (hl : l.length ≤ 1000000000000) (hfr : s.fr ≤ i) (hws : s.ws.length ≤ 1000000000000) (hbt : s.bt.length ≤ 1000000000000) (hr : r = 34) : Calls Try.prog 14 #[.pointer (some ⟨g, 0, none⟩), .int .i64 (i : Int), .int .i32 r] w (fun e w' => e = .returned (.tuple #[]) ∧ CutA n0 w' g l (plaS l s i r) ∧ Kept (Sg n0 g) w w') := by
  obtain ⟨C, hC⟩ : ∃ C : Ending → World → Prop, C = (fun e w' => e = .returned (.tuple #[]) ∧ CutA n0 w' g l (plaS l s i r) ∧ Kept (Sg n0 g) w w') := ⟨_, rfl⟩
  have HC : Hid (C = (fun e w' => e = .returned (.tuple #[]) ∧ CutA n0 w' g l (plaS l s i r) ∧ Kept (Sg n0 g) w w')) := hC
  rw [← hC]
  clear hC
  subst hr
  have HS : Hid (plaS l s i 34 = { s with pl := 7 }) := rfl
  obtain ⟨wa, wc, ba, bc, hC0⟩ := hcut
  have HB : Hid (Box w g 40 #[.string (bs l), .slice wa s.ws.length wc, .int .i64 (s.pl : Int), .int .i64 (s.fr : Int), .slice ba s.bt.length bc]) := hC0.box
  have HW : Hid (Own 9 1 w n0 wa wc s.ws.length (s.ws.map strV)) := hC0.hw
  have HY : Hid (Own 5 1 w n0 ba bc s.bt.length (s.bt.map u8V)) := hC0.hb
  have HL : Hid (n0 ≤ w.heap.size) := hC0.hn
  have HK : Hid (Kept (Sg n0 g) w w) := Kept.refl _ _
  clear hC0
  have HI : Hid (i < l.length ∧ l.length ≤ 1000000000000) := ⟨hi, hl⟩
  have HFr : Hid (s.fr ≤ i) := hfr
  have HWd : Hid (s.ws.length ≤ 1000000000000) := hws
  have HBd : Hid (s.bt.length ≤ 1000000000000) := hbt
  clear hi hl hfr hws hbt
  go_enter Try.func14, Try.ntmps14
  go_upto_region 0 with fail
  refine WL.start ?_
  refine tK (.int .i32 34) ?_
  try simp only [pA, pB, p1, p2, p3]
  refine tK (.bool true) ?_
  try simp only [pA, pB, p1, p2, p3]
  refine tK (.bool true) ?_
  try simp only [pA, pB, p1, p2, p3]
  refine WL.nil ?_
  try simp only [pA, pB, p1, p2, p3]
  go_upto_region 1 with fail
  refine WL.start ?_
  refine tK (.pointer (some ⟨g, 0, none⟩)) ?_
  try simp only [pA, pB, p1, p2, p3]
  refine tK (.pointer (some ⟨g, 0, none⟩)) ?_
  try simp only [pA, pB, p1, p2, p3]
  refine tK (.pointer (some ⟨g, 2, none⟩)) ?_
  try simp only [pA, pB, p1, p2, p3]
  have hst : (storeVar 38 ⟨g, 2, none⟩ (.int .i64 7)).run Try.prog w = .ok () (w.setRow g #[.string (bs l), .slice wa s.ws.length wc, .int .i64 7, .int .i64 (s.fr : Int), .slice ba s.bt.length bc]) := run_store_to (cur := [.string (bs l), .slice wa s.ws.length wc, .int .i64 (s.pl : Int), .int .i64 (s.fr : Int), .slice ba s.bt.length bc]) (vs := [.int .i64 7]) (new := [.string (bs l), .slice wa s.ws.length wc, .int .i64 7, .int .i64 (s.fr : Int), .slice ba s.bt.length bc]) HB.out (by kernel_rfl) S38 (Nat.le_of_ble_eq_true (by kernel_rfl)) (by simp [Value.oneCell', strV, u8V]) (by kernel_rfl)
  have HW : Hid (Own 9 1 (w.setRow g #[.string (bs l), .slice wa s.ws.length wc, .int .i64 7, .int .i64 (s.fr : Int), .slice ba s.bt.length bc]) n0 wa wc s.ws.length (s.ws.map strV)) := HW.out.kept (Kept.setRow _ _ _) (HW.out.notBox HB.out (by decide))
  have HY : Hid (Own 5 1 (w.setRow g #[.string (bs l), .slice wa s.ws.length wc, .int .i64 7, .int .i64 (s.fr : Int), .slice ba s.bt.length bc]) n0 ba bc s.bt.length (s.bt.map u8V)) := HY.out.kept (Kept.setRow _ _ _) (HY.out.notBox HB.out (by decide))
  have HK : Hid (Kept (Sg n0 g) w (w.setRow g #[.string (bs l), .slice wa s.ws.length wc, .int .i64 7, .int .i64 (s.fr : Int), .slice ba s.bt.length bc])) := HK.out.inRow (S := Sg n0 g) (Or.inl rfl) _
  have HB : Hid (Box (w.setRow g #[.string (bs l), .slice wa s.ws.length wc, .int .i64 7, .int .i64 (s.fr : Int), .slice ba s.bt.length bc]) g 40 #[.string (bs l), .slice wa s.ws.length wc, .int .i64 7, .int .i64 (s.fr : Int), .slice ba s.bt.length bc]) := HB.out.setRow _
  refine wp_storeW 38 _ _ rfl ⟨g, 2, none⟩ (.int .i64 7) (by kernel_rfl) (by kernel_rfl) (w.setRow g #[.string (bs l), .slice wa s.ws.length wc, .int .i64 7, .int .i64 (s.fr : Int), .slice ba s.bt.length bc]) hst (by kernel_rfl) ?_
  try simp only [pA, pB, p1, p2, p3]
  clear hst
  generalize w.setRow g #[.string (bs l), .slice wa s.ws.length wc, .int .i64 7, .int .i64 (s.fr : Int), .slice ba s.bt.length bc] = wk1 at HW HY HK HB ⊢
  refine WL.nil ?_
  try simp only [pA, pB, p1, p2, p3]
  go_wp2
  go_end0
  rw [HC.out]
  exact ⟨rfl, by rw [HS.out]; exact CutA.of _ HB.out HW.out HY.out (Nat.le_trans HL.out HK.out.size) (by simp [strV, u8V]) (by simp [strV, u8V]) (by simp [strV, u8V]) (by simp [strV, u8V]) (by simp [strV, u8V]) (by simp [strV, u8V]), HK.out⟩
set_option maxRecDepth 100000 in
set_option maxHeartbeats 4000000 in
theorem plain_n (n0 g : Nat) (l : List UInt8) (s : Cs) (i : Nat) (r : Int) (w : World) (hcut : CutA n0 w g l s) (hi : i < l.length) (hl : l.length ≤ 1000000000000) (hfr : s.fr ≤ i) (hws : s.ws.length ≤ 1000000000000) (hbt : s.bt.length ≤ 1000000000000) (hr : r ≠ 34) (hb : isB r = false) : Calls Try.prog 14 #[.pointer (some ⟨g, 0, none⟩), .int .i64 (i : Int), .int .i32 r] w (fun e w' => e = .returned (.tuple #[]) ∧ CutA n0 w' g l (plaS l s i r) ∧ Kept (Sg n0 g) w w') := by
  obtain ⟨C, hC⟩ : ∃ C : Ending → World → Prop, C = (fun e w' => e = .returned (.tuple #[]) ∧ CutA n0 w' g l (plaS l s i r) ∧ Kept (Sg n0 g) w w') := ⟨_, rfl⟩
  have HC : Hid (C = (fun e w' => e = .returned (.tuple #[]) ∧ CutA n0 w' g l (plaS l s i r) ∧ Kept (Sg n0 g) w w')) := hC
  rw [← hC]
  clear hC
  have hne : (r == 34) = false := by simpa using hr
  have HS : Hid (plaS l s i r = s) := by show _ = _; unfold plaS; rw [if_neg hr, if_neg (by rw [hb]; decide)]
  clear hr
  obtain ⟨wa, wc, ba, bc, hC0⟩ := hcut
  have HB : Hid (Box w g 40 #[.string (bs l), .slice wa s.ws.length wc, .int .i64 (s.pl : Int), .int .i64 (s.fr : Int), .slice ba s.bt.length bc]) := hC0.box
  have HW : Hid (Own 9 1 w n0 wa wc s.ws.length (s.ws.map strV)) := hC0.hw
  have HY : Hid (Own 5 1 w n0 ba bc s.bt.length (s.bt.map u8V)) := hC0.hb
  have HL : Hid (n0 ≤ w.heap.size) := hC0.hn
  have HK : Hid (Kept (Sg n0 g) w w) := Kept.refl _ _
  clear hC0
  have HI : Hid (i < l.length ∧ l.length ≤ 1000000000000) := ⟨hi, hl⟩
  have HFr : Hid (s.fr ≤ i) := hfr
  have HWd : Hid (s.ws.length ≤ 1000000000000) := hws
  have HBd : Hid (s.bt.length ≤ 1000000000000) := hbt
  clear hi hl hfr hws hbt
  go_enter Try.func14, Try.ntmps14
  go_upto_region 0 with fail
  refine WL.start ?_
  refine tK (.int .i32 r) ?_
  try simp only [pA, pB, p1, p2, p3]
  refine tW (.bool false) (exec_bin .eql 21 _ _ _ rfl (.int .i32 r) (.int .i32 34) (.bool false) (by kernel_rfl) (by kernel_rfl) (by kernel_rfl) (by rw [b_eq21, hne])) ?_
  try simp only [pA, pB, p1, p2, p3]
  refine tK (.bool false) ?_
  try simp only [pA, pB, p1, p2, p3]
  refine WL.nil ?_
  try simp only [pA, pB, p1, p2, p3]
  go_upto_region 2 with fail
  refine WL.start ?_
  refine tK (.int .i32 r) ?_
  try simp only [pA, pB, p1, p2, p3]
  refine wp_callW 22 #[.int .i32 r] (by kernel_rfl) _ (isBlank_any _ w) (by kernel_rfl) ?_
  rintro e wq ⟨rfl, hwq⟩
  rw [hwq]
  clear hwq wq
  refine ⟨.bool false, by rw [hb], ?_⟩
  try simp only [pA, pB, p1, p2, p3]
  refine tK (.bool false) ?_
  try simp only [pA, pB, p1, p2, p3]
  refine WL.nil ?_
  try simp only [pA, pB, p1, p2, p3]
  go_wp2
  go_end0
  rw [HC.out]
  exact ⟨rfl, by rw [HS.out]; exact CutA.of _ HB.out HW.out HY.out (Nat.le_trans HL.out HK.out.size) (by simp [strV, u8V]) (by simp [strV, u8V]) (by simp [strV, u8V]) (by simp [strV, u8V]) (by simp [strV, u8V]) (by simp [strV, u8V]), HK.out⟩
set_option maxRecDepth 100000 in
set_option maxHeartbeats 4000000 in
theorem plain_b (n0 g : Nat) (l : List UInt8) (s : Cs) (i : Nat) (r : Int) (w : World) (hcut : CutA n0 w g l s) (hi : i < l.length) (hl : l.length ≤ 1000000000000) (hfr : s.fr ≤ i) (hws : s.ws.length ≤ 1000000000000) (hbt : s.bt.length ≤ 1000000000000) (hr : r ≠ 34) (hb : isB r = true) : Calls Try.prog 14 #[.pointer (some ⟨g, 0, none⟩), .int .i64 (i : Int), .int .i32 r] w (fun e w' => e = .returned (.tuple #[]) ∧ CutA n0 w' g l (plaS l s i r) ∧ Kept (Sg n0 g) w w') := by
  obtain ⟨C, hC⟩ : ∃ C : Ending → World → Prop, C = (fun e w' => e = .returned (.tuple #[]) ∧ CutA n0 w' g l (plaS l s i r) ∧ Kept (Sg n0 g) w w') := ⟨_, rfl⟩
  have HC : Hid (C = (fun e w' => e = .returned (.tuple #[]) ∧ CutA n0 w' g l (plaS l s i r) ∧ Kept (Sg n0 g) w w')) := hC
  rw [← hC]
  clear hC
  have hne : (r == 34) = false := by simpa using hr
  have HS : Hid (plaS l s i r = { s with pl := 0, ws := s.ws ++ [cutL l s.fr i] }) := by show _ = _; unfold plaS; rw [if_neg hr, if_pos hb]
  clear hr
  obtain ⟨wa, wc, ba, bc, hC0⟩ := hcut
  have HB : Hid (Box w g 40 #[.string (bs l), .slice wa s.ws.length wc, .int .i64 (s.pl : Int), .int .i64 (s.fr : Int), .slice ba s.bt.length bc]) := hC0.box
  have HW : Hid (Own 9 1 w n0 wa wc s.ws.length (s.ws.map strV)) := hC0.hw
  have HY : Hid (Own 5 1 w n0 ba bc s.bt.length (s.bt.map u8V)) := hC0.hb
  have HL : Hid (n0 ≤ w.heap.size) := hC0.hn
  have HK : Hid (Kept (Sg n0 g) w w) := Kept.refl _ _
  clear hC0
  have HI : Hid (i < l.length ∧ l.length ≤ 1000000000000) := ⟨hi, hl⟩
  have HFr : Hid (s.fr ≤ i) := hfr
  have HWd : Hid (s.ws.length ≤ 1000000000000) := hws
  have HBd : Hid (s.bt.length ≤ 1000000000000) := hbt
  clear hi hl hfr hws hbt
  go_enter Try.func14, Try.ntmps14
  go_upto_region 0 with fail
  refine WL.start ?_
  refine tK (.int .i32 r) ?_
  try simp only [pA, pB, p1, p2, p3]
  refine tW (.bool false) (exec_bin .eql 21 _ _ _ rfl (.int .i32 r) (.int .i32 34) (.bool false) (by kernel_rfl) (by kernel_rfl) (by kernel_rfl) (by rw [b_eq21, hne])) ?_
  try simp only [pA, pB, p1, p2, p3]
  refine tK (.bool false) ?_
  try simp only [pA, pB, p1, p2, p3]
  refine WL.nil ?_
  try simp only [pA, pB, p1, p2, p3]
  go_upto_region 2 with fail
  refine WL.start ?_
  refine tK (.int .i32 r) ?_
  try simp only [pA, pB, p1, p2, p3]
  refine wp_callW 22 #[.int .i32 r] (by kernel_rfl) _ (isBlank_any _ w) (by kernel_rfl) ?_
  rintro e wq ⟨rfl, hwq⟩
  rw [hwq]
  clear hwq wq
  refine ⟨.bool true, by rw [hb], ?_⟩
  try simp only [pA, pB, p1, p2, p3]
  refine tK (.bool true) ?_
  try simp only [pA, pB, p1, p2, p3]
  refine WL.nil ?_
  try simp only [pA, pB, p1, p2, p3]
  go_upto_region 3 with fail
  have HW : Hid (Own 9 1 w.drew n0 wa wc s.ws.length (s.ws.map strV)) := HW.out.no (Kept.refl No _).drew
  have HY : Hid (Own 5 1 w.drew n0 ba bc s.bt.length (s.bt.map u8V)) := HY.out.no (Kept.refl No _).drew
  have HK : Hid (Kept (Sg n0 g) w w.drew) := HK.out.drew
  have HB : Hid (Box w.drew g 40 #[.string (bs l), .slice wa s.ws.length wc, .int .i64 (s.pl : Int), .int .i64 (s.fr : Int), .slice ba s.bt.length bc]) := HB.out.kept (Kept.refl No _).drew (fun e => e)
  refine wp_region_held_drew (S := fun w' => w'.cell? ⟨g, 0, none⟩ = some (.string (bs l)) ∧ w'.cell? ⟨g, 3, none⟩ = some (.int .i64 (s.fr : Int))) rfl ⟨(HB.out.cell 0), (HB.out.cell 3)⟩ (fun hH => ?_)
  generalize w.drew = wk1 at HW HY HK HB hH ⊢
  refine aT (i := 0) (oi := { dst := some 15, op := Op.move (Operand.tmp 0), type := 50, pos := "word.go:73", after := #[], guard := none }) (v := .pointer (some ⟨g, 0, none⟩)) (fun _ _ => by kernel_rfl) hH ?_
  try simp only [pA, pB, p1, p2, p3]
  refine aT (i := 1) (oi := { dst := some 16, op := Op.move (Operand.tmp 0), type := 50, pos := "word.go:73", after := #[{ on := 20, ground := Ground.gcOnly Departure.lateStores }], guard := none }) (v := .pointer (some ⟨g, 0, none⟩)) (fun _ _ => by kernel_rfl) hH ?_
  try simp only [pA, pB, p1, p2, p3]
  refine aT (i := 2) (oi := { dst := some 17, op := Op.move (Operand.tmp 0), type := 50, pos := "word.go:73", after := #[], guard := none }) (v := .pointer (some ⟨g, 0, none⟩)) (fun _ _ => by kernel_rfl) hH ?_
  try simp only [pA, pB, p1, p2, p3]
  refine aT (i := 3) (oi := { dst := some 18, op := Op.nilCheck (Operand.tmp 17), type := 0, pos := "word.go:73", after := #[{ on := 2, ground := Ground.data }], guard := none }) (v := .pointer (some ⟨g, 0, none⟩)) (fun _ _ => by kernel_rfl) hH ?_
  try simp only [pA, pB, p1, p2, p3]
  refine aT (i := 4) (oi := { dst := some 19, op := Op.fieldAddr 40 (Operand.tmp 18) 1, type := 0, pos := "word.go:73", after := #[{ on := 3, ground := Ground.data }], guard := none }) (v := .pointer (some ⟨g, 1, none⟩)) (fun _ _ => by kernel_rfl) hH ?_
  try simp only [pA, pB, p1, p2, p3]
  refine aT (i := 6) (oi := { dst := some 21, op := Op.move (Operand.tmp 0), type := 50, pos := "word.go:73", after := #[], guard := none }) (v := .pointer (some ⟨g, 0, none⟩)) (fun _ _ => by kernel_rfl) hH ?_
  try simp only [pA, pB, p1, p2, p3]
  refine aT (i := 7) (oi := { dst := some 22, op := Op.nilCheck (Operand.tmp 21), type := 0, pos := "word.go:73", after := #[{ on := 6, ground := Ground.data }], guard := none }) (v := .pointer (some ⟨g, 0, none⟩)) (fun _ _ => by kernel_rfl) hH ?_
  try simp only [pA, pB, p1, p2, p3]
  refine aT (i := 8) (oi := { dst := some 23, op := Op.fieldAddr 40 (Operand.tmp 22) 0, type := 0, pos := "word.go:73", after := #[{ on := 7, ground := Ground.data }], guard := none }) (v := .pointer (some ⟨g, 0, none⟩)) (fun _ _ => by kernel_rfl) hH ?_
  try simp only [pA, pB, p1, p2, p3]
  refine aT (i := 9) (oi := { dst := some 24, op := Op.load 9 (Operand.tmp 23), type := 9, pos := "word.go:73", after := #[{ on := 8, ground := Ground.data }], guard := none }) (v := .string (bs l)) (fun w' hw => exec_load 9 _ rfl ⟨g, 0, none⟩ (by kernel_rfl) (.string (bs l)) (load_one hw.1 U9 rfl)) hH ?_
  try simp only [pA, pB, p1, p2, p3]
  refine aT (i := 10) (oi := { dst := some 25, op := Op.move (Operand.tmp 0), type := 50, pos := "word.go:73", after := #[], guard := none }) (v := .pointer (some ⟨g, 0, none⟩)) (fun _ _ => by kernel_rfl) hH ?_
  try simp only [pA, pB, p1, p2, p3]
  refine aT (i := 11) (oi := { dst := some 26, op := Op.nilCheck (Operand.tmp 25), type := 0, pos := "word.go:73", after := #[{ on := 10, ground := Ground.data }], guard := none }) (v := .pointer (some ⟨g, 0, none⟩)) (fun _ _ => by kernel_rfl) hH ?_
  try simp only [pA, pB, p1, p2, p3]
  refine aT (i := 12) (oi := { dst := some 27, op := Op.fieldAddr 40 (Operand.tmp 26) 3, type := 0, pos := "word.go:73", after := #[{ on := 11, ground := Ground.data }], guard := none }) (v := .pointer (some ⟨g, 3, none⟩)) (fun _ _ => by kernel_rfl) hH ?_
  try simp only [pA, pB, p1, p2, p3]
  refine aT (i := 13) (oi := { dst := some 28, op := Op.load 3 (Operand.tmp 27), type := 3, pos := "word.go:73", after := #[{ on := 12, ground := Ground.data }], guard := none }) (v := .int .i64 (s.fr : Int)) (fun w' hw => exec_load 3 _ rfl ⟨g, 3, none⟩ (by kernel_rfl) (.int .i64 (s.fr : Int)) (load_one hw.2 U3 rfl)) hH ?_
  try simp only [pA, pB, p1, p2, p3]
  refine aT (i := 14) (oi := { dst := some 29, op := Op.move (Operand.tmp 1), type := 3, pos := "word.go:73", after := #[], guard := none }) (v := .int .i64 (i : Int)) (fun _ _ => by kernel_rfl) hH ?_
  try simp only [pA, pB, p1, p2, p3]
  refine aT (i := 15) (oi := { dst := some 30, op := Op.slice 9 (Operand.tmp 24) (some (Operand.tmp 28)) (some (Operand.tmp 29)) none, type := 9, pos := "word.go:73", after := #[{ on := 9, ground := Ground.data }, { on := 13, ground := Ground.data }, { on := 14, ground := Ground.data }], guard := none }) (v := .string (bs (cutL l s.fr i))) (fun w' hw => exec_sl _ _ _ rfl (.string (bs l)) (.string (bs (cutL l s.fr i))) (some (.int .i64 (s.fr : Int))) (some (.int .i64 (i : Int))) (by kernel_rfl) (by kernel_rfl) (by kernel_rfl) (run_cut l s.fr i HFr.out (by have := HI.out; omega))) hH ?_
  try simp only [pA, pB, p1, p2, p3]
  refine any_pick (rs := [5, 16]) (by kernel_rfl) (by simp) ?_
  intro i hi
  rcases pick2 hi with rfl | rfl
  ·skip
   clear hi
   refine step_run (i := 5) (o := { dst := some 20, op := Op.load 22 (Operand.tmp 19), type := 22, pos := "word.go:73", after := #[{ on := 4, ground := Ground.data }], guard := none }) (v := .slice wa s.ws.length wc) (w' := wk1) rfl (by kernel_rfl) (exec_load 22 _ rfl ⟨g, 1, none⟩ (by kernel_rfl) (.slice wa s.ws.length wc) (load_one (HB.out.cell 1) U22 rfl)) ⟨(HB.out.cell 0), (HB.out.cell 3)⟩ (fun hH => ?_)
   try simp only [pA, pB, p1, p2, p3]
   have HW : Hid (Own 9 1 (wk1.alloc (.cells [.string (bs (cutL l s.fr i))].toArray 9)) n0 wa wc s.ws.length (s.ws.map strV)) := HW.out.no ((Kept.refl No _).alloc _)
   have HY : Hid (Own 5 1 (wk1.alloc (.cells [.string (bs (cutL l s.fr i))].toArray 9)) n0 ba bc s.bt.length (s.bt.map u8V)) := HY.out.no ((Kept.refl No _).alloc _)
   have HK : Hid (Kept (Sg n0 g) w (wk1.alloc (.cells [.string (bs (cutL l s.fr i))].toArray 9))) := HK.out.alloc _
   have HB : Hid (Box (wk1.alloc (.cells [.string (bs (cutL l s.fr i))].toArray 9)) g 40 #[.string (bs l), .slice wa s.ws.length wc, .int .i64 (s.pl : Int), .int .i64 (s.fr : Int), .slice ba s.bt.length bc]) := HB.out.alloc _
   have HX : Hid (Box (wk1.alloc (.cells [.string (bs (cutL l s.fr i))].toArray 9)) wk1.heap.size 9 [.string (bs (cutL l s.fr i))].toArray) := Box.new _ _ _
   refine any_step (i := 16) (o := { dst := some 31, op := Op.buildSlice 22 1 #[(0, Operand.tmp 30)], type := 22, pos := "word.go:73", after := #[{ on := 15, ground := Ground.data }], guard := none }) (v := .slice (some ⟨wk1.heap.size, 0, none⟩) 1 1) (w' := wk1.alloc (.cells [.string (bs (cutL l s.fr i))].toArray 9)) rfl (by kernel_rfl) (by kernel_rfl) (exec_built (by kernel_rfl)) ⟨(HB.out.cell 0), (HB.out.cell 3)⟩ (fun hH => ?_)
   try simp only [pA, pB, p1, p2, p3]
   generalize wk1.alloc (.cells [.string (bs (cutL l s.fr i))].toArray 9) = wk2 at HW HY HK HX HB hH ⊢
   generalize wk1.heap.size = gk3 at HX ⊢
   obtain ⟨a_3, c_3, w_3, hrun, ho, hc⟩ := run_app 22 9 16 _ U22 I9 rfl HW.out 22 ⟨gk3, 0, none⟩ 1 1 [.string (bs (cutL l s.fr i))] rfl (box_news HX.out) (by simp [Value.oneCell', strV, u8V]) (by have h1 := HI.out; have h2 := HBd.out; have h3 := HWd.out; have h4 := cutL_len l s.fr i; omega) (by have h1 := HI.out; have h2 := HBd.out; have h3 := HWd.out; have h4 := cutL_len l s.fr i; omega) (Nat.le_trans HL.out HK.out.size)
   clear HX
   have HY : Hid (Own 5 1 w_3 n0 ba bc s.bt.length (s.bt.map u8V)) := HY.out.kept hc (own_apart HY.out HW.out (by decide))
   have HK : Hid (Kept (Sg n0 g) w w_3) := HK.out.trans hc (fun _ e => e) (fun _ _ e => Or.inr (HW.out.base e))
   have HB : Hid (Box w_3 g 40 #[.string (bs l), .slice wa s.ws.length wc, .int .i64 (s.pl : Int), .int .i64 (s.fr : Int), .slice ba s.bt.length bc]) := HB.out.kept hc (HW.out.offBox HB.out (by decide))
   have HW : Hid (Own 9 1 w_3 n0 a_3 c_3 (s.ws.length + 1) (s.ws.map strV ++ [.string (bs (cutL l s.fr i))])) := ho
   refine any_step (i := 17) (o := { dst := some 32, op := Op.call { callee := Callee.builtin Builtin.append, args := #[Operand.tmp 20, Operand.tmp 31], argTypes := #[22, 22] }, type := 22, pos := "word.go:73", after := #[{ on := 5, ground := Ground.data }, { on := 16, ground := Ground.data }], guard := none }) (v := .slice a_3 (s.ws.length + 1) c_3) (w' := w_3) rfl (by kernel_rfl) (by kernel_rfl) (exec_app _ _ 22 22 rfl _ _ _ (by kernel_rfl) (by kernel_rfl) hrun) ⟨(HB.out.cell 0), (HB.out.cell 3)⟩ (fun hH => ?_)
   try simp only [pA, pB, p1, p2, p3]
   clear hrun ho hc
   refine aT (i := 18) (oi := { dst := some 33, op := Op.nilCheck (Operand.tmp 15), type := 0, pos := "word.go:73", after := #[{ on := 0, ground := Ground.data }, { on := 0, ground := Ground.phase }, { on := 1, ground := Ground.textOnly Departure.lateStores }, { on := 2, ground := Ground.textOnly Departure.lateStores }, { on := 3, ground := Ground.textOnly Departure.lateStoresUnsure }, { on := 4, ground := Ground.textOnly Departure.lateStoresUnsure }, { on := 5, ground := Ground.phase }, { on := 6, ground := Ground.textOnly Departure.lateStores }, { on := 7, ground := Ground.textOnly Departure.lateStoresUnsure }, { on := 8, ground := Ground.textOnly Departure.lateStoresUnsure }, { on := 9, ground := Ground.phase }, { on := 10, ground := Ground.textOnly Departure.lateStores }, { on := 11, ground := Ground.textOnly Departure.lateStoresUnsure }, { on := 12, ground := Ground.textOnly Departure.lateStoresUnsure }, { on := 13, ground := Ground.phase }, { on := 14, ground := Ground.textOnly Departure.lateStores }, { on := 15, ground := Ground.textOnly Departure.lateStoresUnsure }, { on := 16, ground := Ground.textOnly Departure.lateStoresUnsure }, { on := 17, ground := Ground.phase }], guard := none }) (v := .pointer (some ⟨g, 0, none⟩)) (fun _ _ => by kernel_rfl) hH ?_
   try simp only [pA, pB, p1, p2, p3]
   refine aT (i := 19) (oi := { dst := some 34, op := Op.fieldAddr 40 (Operand.tmp 33) 2, type := 0, pos := "word.go:73", after := #[{ on := 18, ground := Ground.data }, { on := 0, ground := Ground.phase }, { on := 1, ground := Ground.textOnly Departure.lateStores }, { on := 2, ground := Ground.textOnly Departure.lateStores }, { on := 3, ground := Ground.textOnly Departure.lateStoresUnsure }, { on := 4, ground := Ground.textOnly Departure.lateStoresUnsure }, { on := 5, ground := Ground.phase }, { on := 6, ground := Ground.textOnly Departure.lateStores }, { on := 7, ground := Ground.textOnly Departure.lateStoresUnsure }, { on := 8, ground := Ground.textOnly Departure.lateStoresUnsure }, { on := 9, ground := Ground.phase }, { on := 10, ground := Ground.textOnly Departure.lateStores }, { on := 11, ground := Ground.textOnly Departure.lateStoresUnsure }, { on := 12, ground := Ground.textOnly Departure.lateStoresUnsure }, { on := 13, ground := Ground.phase }, { on := 14, ground := Ground.textOnly Departure.lateStores }, { on := 15, ground := Ground.textOnly Departure.lateStoresUnsure }, { on := 16, ground := Ground.textOnly Departure.lateStoresUnsure }, { on := 17, ground := Ground.phase }], guard := none }) (v := .pointer (some ⟨g, 2, none⟩)) (fun _ _ => by kernel_rfl) hH ?_
   try simp only [pA, pB, p1, p2, p3]
   have hst : (storeVar 38 ⟨g, 2, none⟩ (.int .i64 0)).run Try.prog w_3 = .ok () (w_3.setRow g #[.string (bs l), .slice wa s.ws.length wc, .int .i64 0, .int .i64 (s.fr : Int), .slice ba s.bt.length bc]) := run_store_to (cur := [.string (bs l), .slice wa s.ws.length wc, .int .i64 (s.pl : Int), .int .i64 (s.fr : Int), .slice ba s.bt.length bc]) (vs := [.int .i64 0]) (new := [.string (bs l), .slice wa s.ws.length wc, .int .i64 0, .int .i64 (s.fr : Int), .slice ba s.bt.length bc]) HB.out (by kernel_rfl) S38 (Nat.le_of_ble_eq_true (by kernel_rfl)) (by simp [Value.oneCell', strV, u8V]) (by kernel_rfl)
   have HW : Hid (Own 9 1 (w_3.setRow g #[.string (bs l), .slice wa s.ws.length wc, .int .i64 0, .int .i64 (s.fr : Int), .slice ba s.bt.length bc]) n0 a_3 c_3 (s.ws.length + 1) (s.ws.map strV ++ [.string (bs (cutL l s.fr i))])) := HW.out.kept (Kept.setRow _ _ _) (HW.out.notBox HB.out (by decide))
   have HY : Hid (Own 5 1 (w_3.setRow g #[.string (bs l), .slice wa s.ws.length wc, .int .i64 0, .int .i64 (s.fr : Int), .slice ba s.bt.length bc]) n0 ba bc s.bt.length (s.bt.map u8V)) := HY.out.kept (Kept.setRow _ _ _) (HY.out.notBox HB.out (by decide))
   have HK : Hid (Kept (Sg n0 g) w (w_3.setRow g #[.string (bs l), .slice wa s.ws.length wc, .int .i64 0, .int .i64 (s.fr : Int), .slice ba s.bt.length bc])) := HK.out.inRow (S := Sg n0 g) (Or.inl rfl) _
   have HB : Hid (Box (w_3.setRow g #[.string (bs l), .slice wa s.ws.length wc, .int .i64 0, .int .i64 (s.fr : Int), .slice ba s.bt.length bc]) g 40 #[.string (bs l), .slice wa s.ws.length wc, .int .i64 0, .int .i64 (s.fr : Int), .slice ba s.bt.length bc]) := HB.out.setRow _
   refine any_store (i := 20) (o := { dst := none, op := Op.store 38 (Operand.tmp 34) (Operand.const (Value.int IntKind.i64 0)), type := 0, pos := "word.go:73", after := #[{ on := 19, ground := Ground.data }, { on := 17, ground := Ground.chain }, { on := 0, ground := Ground.phase }, { on := 1, ground := Ground.textOnly Departure.lateStores }, { on := 2, ground := Ground.textOnly Departure.lateStores }, { on := 3, ground := Ground.textOnly Departure.lateStoresUnsure }, { on := 4, ground := Ground.textOnly Departure.lateStoresUnsure }, { on := 5, ground := Ground.phase }, { on := 6, ground := Ground.textOnly Departure.lateStores }, { on := 7, ground := Ground.textOnly Departure.lateStoresUnsure }, { on := 8, ground := Ground.textOnly Departure.lateStoresUnsure }, { on := 9, ground := Ground.phase }, { on := 10, ground := Ground.textOnly Departure.lateStores }, { on := 11, ground := Ground.textOnly Departure.lateStoresUnsure }, { on := 12, ground := Ground.textOnly Departure.lateStoresUnsure }, { on := 13, ground := Ground.phase }, { on := 14, ground := Ground.textOnly Departure.lateStores }, { on := 15, ground := Ground.textOnly Departure.lateStoresUnsure }, { on := 16, ground := Ground.textOnly Departure.lateStoresUnsure }, { on := 17, ground := Ground.phase }], guard := none }) (w' := w_3.setRow g #[.string (bs l), .slice wa s.ws.length wc, .int .i64 0, .int .i64 (s.fr : Int), .slice ba s.bt.length bc]) rfl (by kernel_rfl) (by kernel_rfl) 38 _ _ rfl ⟨g, 2, none⟩ (.int .i64 0) (by kernel_rfl) (by kernel_rfl) hst ⟨(HB.out.cell 0), (HB.out.cell 3)⟩ (fun hH => ?_)
   try simp only [pA, pB, p1, p2, p3]
   clear hst
   generalize w_3.setRow g #[.string (bs l), .slice wa s.ws.length wc, .int .i64 0, .int .i64 (s.fr : Int), .slice ba s.bt.length bc] = wk5 at HW HY HK HB hH ⊢
   refine aT (i := 21) (oi := { dst := some 35, op := Op.nilCheck (Operand.tmp 16), type := 0, pos := "word.go:73", after := #[{ on := 1, ground := Ground.data }, { on := 0, ground := Ground.phase }, { on := 1, ground := Ground.phase }, { on := 2, ground := Ground.phase }, { on := 3, ground := Ground.phase }, { on := 4, ground := Ground.phase }, { on := 5, ground := Ground.phase }, { on := 6, ground := Ground.phase }, { on := 7, ground := Ground.phase }, { on := 8, ground := Ground.phase }, { on := 9, ground := Ground.phase }, { on := 10, ground := Ground.phase }, { on := 11, ground := Ground.phase }, { on := 12, ground := Ground.phase }, { on := 13, ground := Ground.phase }, { on := 14, ground := Ground.phase }, { on := 15, ground := Ground.phase }, { on := 16, ground := Ground.phase }, { on := 17, ground := Ground.phase }, { on := 18, ground := Ground.phase }, { on := 19, ground := Ground.phase }, { on := 20, ground := Ground.phase }], guard := none }) (v := .pointer (some ⟨g, 0, none⟩)) (fun _ _ => by kernel_rfl) hH ?_
   try simp only [pA, pB, p1, p2, p3]
   refine aT (i := 22) (oi := { dst := some 36, op := Op.fieldAddr 40 (Operand.tmp 35) 1, type := 0, pos := "word.go:73", after := #[{ on := 21, ground := Ground.data }, { on := 0, ground := Ground.phase }, { on := 1, ground := Ground.phase }, { on := 2, ground := Ground.phase }, { on := 3, ground := Ground.phase }, { on := 4, ground := Ground.phase }, { on := 5, ground := Ground.phase }, { on := 6, ground := Ground.phase }, { on := 7, ground := Ground.phase }, { on := 8, ground := Ground.phase }, { on := 9, ground := Ground.phase }, { on := 10, ground := Ground.phase }, { on := 11, ground := Ground.phase }, { on := 12, ground := Ground.phase }, { on := 13, ground := Ground.phase }, { on := 14, ground := Ground.phase }, { on := 15, ground := Ground.phase }, { on := 16, ground := Ground.phase }, { on := 17, ground := Ground.phase }, { on := 18, ground := Ground.phase }, { on := 19, ground := Ground.phase }, { on := 20, ground := Ground.phase }], guard := none }) (v := .pointer (some ⟨g, 1, none⟩)) (fun _ _ => by kernel_rfl) hH ?_
   try simp only [pA, pB, p1, p2, p3]
   have hst : (storeVar 22 ⟨g, 1, none⟩ (.slice a_3 (s.ws.length + 1) c_3)).run Try.prog wk5 = .ok () (wk5.setRow g #[.string (bs l), .slice a_3 (s.ws.length + 1) c_3, .int .i64 0, .int .i64 (s.fr : Int), .slice ba s.bt.length bc]) := run_store_to (cur := [.string (bs l), .slice wa s.ws.length wc, .int .i64 0, .int .i64 (s.fr : Int), .slice ba s.bt.length bc]) (vs := [.slice a_3 (s.ws.length + 1) c_3]) (new := [.string (bs l), .slice a_3 (s.ws.length + 1) c_3, .int .i64 0, .int .i64 (s.fr : Int), .slice ba s.bt.length bc]) HB.out (by kernel_rfl) S22 (Nat.le_of_ble_eq_true (by kernel_rfl)) (by simp [Value.oneCell', strV, u8V]) (by kernel_rfl)
   have HW : Hid (Own 9 1 (wk5.setRow g #[.string (bs l), .slice a_3 (s.ws.length + 1) c_3, .int .i64 0, .int .i64 (s.fr : Int), .slice ba s.bt.length bc]) n0 a_3 c_3 (s.ws.length + 1) (s.ws.map strV ++ [.string (bs (cutL l s.fr i))])) := HW.out.kept (Kept.setRow _ _ _) (HW.out.notBox HB.out (by decide))
   have HY : Hid (Own 5 1 (wk5.setRow g #[.string (bs l), .slice a_3 (s.ws.length + 1) c_3, .int .i64 0, .int .i64 (s.fr : Int), .slice ba s.bt.length bc]) n0 ba bc s.bt.length (s.bt.map u8V)) := HY.out.kept (Kept.setRow _ _ _) (HY.out.notBox HB.out (by decide))
   have HK : Hid (Kept (Sg n0 g) w (wk5.setRow g #[.string (bs l), .slice a_3 (s.ws.length + 1) c_3, .int .i64 0, .int .i64 (s.fr : Int), .slice ba s.bt.length bc])) := HK.out.inRow (S := Sg n0 g) (Or.inl rfl) _
   have HB : Hid (Box (wk5.setRow g #[.string (bs l), .slice a_3 (s.ws.length + 1) c_3, .int .i64 0, .int .i64 (s.fr : Int), .slice ba s.bt.length bc]) g 40 #[.string (bs l), .slice a_3 (s.ws.length + 1) c_3, .int .i64 0, .int .i64 (s.fr : Int), .slice ba s.bt.length bc]) := HB.out.setRow _
   refine any_store (i := 23) (o := { dst := none, op := Op.store 22 (Operand.tmp 36) (Operand.tmp 32), type := 0, pos := "word.go:73", after := #[{ on := 22, ground := Ground.data }, { on := 17, ground := Ground.data }, { on := 20, ground := Ground.chain }, { on := 0, ground := Ground.phase }, { on := 1, ground := Ground.phase }, { on := 2, ground := Ground.phase }, { on := 3, ground := Ground.phase }, { on := 4, ground := Ground.phase }, { on := 5, ground := Ground.phase }, { on := 6, ground := Ground.phase }, { on := 7, ground := Ground.phase }, { on := 8, ground := Ground.phase }, { on := 9, ground := Ground.phase }, { on := 10, ground := Ground.phase }, { on := 11, ground := Ground.phase }, { on := 12, ground := Ground.phase }, { on := 13, ground := Ground.phase }, { on := 14, ground := Ground.phase }, { on := 15, ground := Ground.phase }, { on := 16, ground := Ground.phase }, { on := 17, ground := Ground.phase }, { on := 18, ground := Ground.phase }, { on := 19, ground := Ground.phase }, { on := 20, ground := Ground.phase }], guard := none }) (w' := wk5.setRow g #[.string (bs l), .slice a_3 (s.ws.length + 1) c_3, .int .i64 0, .int .i64 (s.fr : Int), .slice ba s.bt.length bc]) rfl (by kernel_rfl) (by kernel_rfl) 22 _ _ rfl ⟨g, 1, none⟩ (.slice a_3 (s.ws.length + 1) c_3) (by kernel_rfl) (by kernel_rfl) hst ⟨(HB.out.cell 0), (HB.out.cell 3)⟩ (fun hH => ?_)
   try simp only [pA, pB, p1, p2, p3]
   clear hst
   generalize wk5.setRow g #[.string (bs l), .slice a_3 (s.ws.length + 1) c_3, .int .i64 0, .int .i64 (s.fr : Int), .slice ba s.bt.length bc] = wk6 at HW HY HK HB hH ⊢
   refine wpAnyH_done (by kernel_rfl) ?_ _
   try simp only [pA, pB, p1, p2, p3]
   clear hH
   go_wp2
   go_end0
   rw [HC.out]
   exact ⟨rfl, by rw [HS.out]; exact CutA.of _ HB.out HW.out HY.out (Nat.le_trans HL.out HK.out.size) (by simp [strV, u8V]) (by simp [strV, u8V]) (by simp [strV, u8V]) (by simp [strV, u8V]) (by simp [strV, u8V]) (by simp [strV, u8V]), HK.out⟩
  ·skip
   clear hi
   have HW : Hid (Own 9 1 (wk1.alloc (.cells [.string (bs (cutL l s.fr i))].toArray 9)) n0 wa wc s.ws.length (s.ws.map strV)) := HW.out.no ((Kept.refl No _).alloc _)
   have HY : Hid (Own 5 1 (wk1.alloc (.cells [.string (bs (cutL l s.fr i))].toArray 9)) n0 ba bc s.bt.length (s.bt.map u8V)) := HY.out.no ((Kept.refl No _).alloc _)
   have HK : Hid (Kept (Sg n0 g) w (wk1.alloc (.cells [.string (bs (cutL l s.fr i))].toArray 9))) := HK.out.alloc _
   have HB : Hid (Box (wk1.alloc (.cells [.string (bs (cutL l s.fr i))].toArray 9)) g 40 #[.string (bs l), .slice wa s.ws.length wc, .int .i64 (s.pl : Int), .int .i64 (s.fr : Int), .slice ba s.bt.length bc]) := HB.out.alloc _
   have HX : Hid (Box (wk1.alloc (.cells [.string (bs (cutL l s.fr i))].toArray 9)) wk1.heap.size 9 [.string (bs (cutL l s.fr i))].toArray) := Box.new _ _ _
   refine step_run (i := 16) (o := { dst := some 31, op := Op.buildSlice 22 1 #[(0, Operand.tmp 30)], type := 22, pos := "word.go:73", after := #[{ on := 15, ground := Ground.data }], guard := none }) (v := .slice (some ⟨wk1.heap.size, 0, none⟩) 1 1) (w' := wk1.alloc (.cells [.string (bs (cutL l s.fr i))].toArray 9)) rfl (by kernel_rfl) (exec_built (by kernel_rfl)) ⟨(HB.out.cell 0), (HB.out.cell 3)⟩ (fun hH => ?_)
   try simp only [pA, pB, p1, p2, p3]
   generalize wk1.alloc (.cells [.string (bs (cutL l s.fr i))].toArray 9) = wk7 at HW HY HK HX HB hH ⊢
   generalize wk1.heap.size = gk8 at HX ⊢
   refine any_step (i := 5) (o := { dst := some 20, op := Op.load 22 (Operand.tmp 19), type := 22, pos := "word.go:73", after := #[{ on := 4, ground := Ground.data }], guard := none }) (v := .slice wa s.ws.length wc) (w' := wk7) rfl (by kernel_rfl) (by kernel_rfl) (exec_load 22 _ rfl ⟨g, 1, none⟩ (by kernel_rfl) (.slice wa s.ws.length wc) (load_one (HB.out.cell 1) U22 rfl)) ⟨(HB.out.cell 0), (HB.out.cell 3)⟩ (fun hH => ?_)
   try simp only [pA, pB, p1, p2, p3]
   obtain ⟨a_8, c_8, w_8, hrun, ho, hc⟩ := run_app 22 9 16 _ U22 I9 rfl HW.out 22 ⟨gk8, 0, none⟩ 1 1 [.string (bs (cutL l s.fr i))] rfl (box_news HX.out) (by simp [Value.oneCell', strV, u8V]) (by have h1 := HI.out; have h2 := HBd.out; have h3 := HWd.out; have h4 := cutL_len l s.fr i; omega) (by have h1 := HI.out; have h2 := HBd.out; have h3 := HWd.out; have h4 := cutL_len l s.fr i; omega) (Nat.le_trans HL.out HK.out.size)
   clear HX
   have HY : Hid (Own 5 1 w_8 n0 ba bc s.bt.length (s.bt.map u8V)) := HY.out.kept hc (own_apart HY.out HW.out (by decide))
   have HK : Hid (Kept (Sg n0 g) w w_8) := HK.out.trans hc (fun _ e => e) (fun _ _ e => Or.inr (HW.out.base e))
   have HB : Hid (Box w_8 g 40 #[.string (bs l), .slice wa s.ws.length wc, .int .i64 (s.pl : Int), .int .i64 (s.fr : Int), .slice ba s.bt.length bc]) := HB.out.kept hc (HW.out.offBox HB.out (by decide))
   have HW : Hid (Own 9 1 w_8 n0 a_8 c_8 (s.ws.length + 1) (s.ws.map strV ++ [.string (bs (cutL l s.fr i))])) := ho
   refine any_step (i := 17) (o := { dst := some 32, op := Op.call { callee := Callee.builtin Builtin.append, args := #[Operand.tmp 20, Operand.tmp 31], argTypes := #[22, 22] }, type := 22, pos := "word.go:73", after := #[{ on := 5, ground := Ground.data }, { on := 16, ground := Ground.data }], guard := none }) (v := .slice a_8 (s.ws.length + 1) c_8) (w' := w_8) rfl (by kernel_rfl) (by kernel_rfl) (exec_app _ _ 22 22 rfl _ _ _ (by kernel_rfl) (by kernel_rfl) hrun) ⟨(HB.out.cell 0), (HB.out.cell 3)⟩ (fun hH => ?_)
   try simp only [pA, pB, p1, p2, p3]
   clear hrun ho hc
   refine aT (i := 18) (oi := { dst := some 33, op := Op.nilCheck (Operand.tmp 15), type := 0, pos := "word.go:73", after := #[{ on := 0, ground := Ground.data }, { on := 0, ground := Ground.phase }, { on := 1, ground := Ground.textOnly Departure.lateStores }, { on := 2, ground := Ground.textOnly Departure.lateStores }, { on := 3, ground := Ground.textOnly Departure.lateStoresUnsure }, { on := 4, ground := Ground.textOnly Departure.lateStoresUnsure }, { on := 5, ground := Ground.phase }, { on := 6, ground := Ground.textOnly Departure.lateStores }, { on := 7, ground := Ground.textOnly Departure.lateStoresUnsure }, { on := 8, ground := Ground.textOnly Departure.lateStoresUnsure }, { on := 9, ground := Ground.phase }, { on := 10, ground := Ground.textOnly Departure.lateStores }, { on := 11, ground := Ground.textOnly Departure.lateStoresUnsure }, { on := 12, ground := Ground.textOnly Departure.lateStoresUnsure }, { on := 13, ground := Ground.phase }, { on := 14, ground := Ground.textOnly Departure.lateStores }, { on := 15, ground := Ground.textOnly Departure.lateStoresUnsure }, { on := 16, ground := Ground.textOnly Departure.lateStoresUnsure }, { on := 17, ground := Ground.phase }], guard := none }) (v := .pointer (some ⟨g, 0, none⟩)) (fun _ _ => by kernel_rfl) hH ?_
   try simp only [pA, pB, p1, p2, p3]
   refine aT (i := 19) (oi := { dst := some 34, op := Op.fieldAddr 40 (Operand.tmp 33) 2, type := 0, pos := "word.go:73", after := #[{ on := 18, ground := Ground.data }, { on := 0, ground := Ground.phase }, { on := 1, ground := Ground.textOnly Departure.lateStores }, { on := 2, ground := Ground.textOnly Departure.lateStores }, { on := 3, ground := Ground.textOnly Departure.lateStoresUnsure }, { on := 4, ground := Ground.textOnly Departure.lateStoresUnsure }, { on := 5, ground := Ground.phase }, { on := 6, ground := Ground.textOnly Departure.lateStores }, { on := 7, ground := Ground.textOnly Departure.lateStoresUnsure }, { on := 8, ground := Ground.textOnly Departure.lateStoresUnsure }, { on := 9, ground := Ground.phase }, { on := 10, ground := Ground.textOnly Departure.lateStores }, { on := 11, ground := Ground.textOnly Departure.lateStoresUnsure }, { on := 12, ground := Ground.textOnly Departure.lateStoresUnsure }, { on := 13, ground := Ground.phase }, { on := 14, ground := Ground.textOnly Departure.lateStores }, { on := 15, ground := Ground.textOnly Departure.lateStoresUnsure }, { on := 16, ground := Ground.textOnly Departure.lateStoresUnsure }, { on := 17, ground := Ground.phase }], guard := none }) (v := .pointer (some ⟨g, 2, none⟩)) (fun _ _ => by kernel_rfl) hH ?_
   try simp only [pA, pB, p1, p2, p3]
   have hst : (storeVar 38 ⟨g, 2, none⟩ (.int .i64 0)).run Try.prog w_8 = .ok () (w_8.setRow g #[.string (bs l), .slice wa s.ws.length wc, .int .i64 0, .int .i64 (s.fr : Int), .slice ba s.bt.length bc]) := run_store_to (cur := [.string (bs l), .slice wa s.ws.length wc, .int .i64 (s.pl : Int), .int .i64 (s.fr : Int), .slice ba s.bt.length bc]) (vs := [.int .i64 0]) (new := [.string (bs l), .slice wa s.ws.length wc, .int .i64 0, .int .i64 (s.fr : Int), .slice ba s.bt.length bc]) HB.out (by kernel_rfl) S38 (Nat.le_of_ble_eq_true (by kernel_rfl)) (by simp [Value.oneCell', strV, u8V]) (by kernel_rfl)
   have HW : Hid (Own 9 1 (w_8.setRow g #[.string (bs l), .slice wa s.ws.length wc, .int .i64 0, .int .i64 (s.fr : Int), .slice ba s.bt.length bc]) n0 a_8 c_8 (s.ws.length + 1) (s.ws.map strV ++ [.string (bs (cutL l s.fr i))])) := HW.out.kept (Kept.setRow _ _ _) (HW.out.notBox HB.out (by decide))
   have HY : Hid (Own 5 1 (w_8.setRow g #[.string (bs l), .slice wa s.ws.length wc, .int .i64 0, .int .i64 (s.fr : Int), .slice ba s.bt.length bc]) n0 ba bc s.bt.length (s.bt.map u8V)) := HY.out.kept (Kept.setRow _ _ _) (HY.out.notBox HB.out (by decide))
   have HK : Hid (Kept (Sg n0 g) w (w_8.setRow g #[.string (bs l), .slice wa s.ws.length wc, .int .i64 0, .int .i64 (s.fr : Int), .slice ba s.bt.length bc])) := HK.out.inRow (S := Sg n0 g) (Or.inl rfl) _
   have HB : Hid (Box (w_8.setRow g #[.string (bs l), .slice wa s.ws.length wc, .int .i64 0, .int .i64 (s.fr : Int), .slice ba s.bt.length bc]) g 40 #[.string (bs l), .slice wa s.ws.length wc, .int .i64 0, .int .i64 (s.fr : Int), .slice ba s.bt.length bc]) := HB.out.setRow _
   refine any_store (i := 20) (o := { dst := none, op := Op.store 38 (Operand.tmp 34) (Operand.const (Value.int IntKind.i64 0)), type := 0, pos := "word.go:73", after := #[{ on := 19, ground := Ground.data }, { on := 17, ground := Ground.chain }, { on := 0, ground := Ground.phase }, { on := 1, ground := Ground.textOnly Departure.lateStores }, { on := 2, ground := Ground.textOnly Departure.lateStores }, { on := 3, ground := Ground.textOnly Departure.lateStoresUnsure }, { on := 4, ground := Ground.textOnly Departure.lateStoresUnsure }, { on := 5, ground := Ground.phase }, { on := 6, ground := Ground.textOnly Departure.lateStores }, { on := 7, ground := Ground.textOnly Departure.lateStoresUnsure }, { on := 8, ground := Ground.textOnly Departure.lateStoresUnsure }, { on := 9, ground := Ground.phase }, { on := 10, ground := Ground.textOnly Departure.lateStores }, { on := 11, ground := Ground.textOnly Departure.lateStoresUnsure }, { on := 12, ground := Ground.textOnly Departure.lateStoresUnsure }, { on := 13, ground := Ground.phase }, { on := 14, ground := Ground.textOnly Departure.lateStores }, { on := 15, ground := Ground.textOnly Departure.lateStoresUnsure }, { on := 16, ground := Ground.textOnly Departure.lateStoresUnsure }, { on := 17, ground := Ground.phase }], guard := none }) (w' := w_8.setRow g #[.string (bs l), .slice wa s.ws.length wc, .int .i64 0, .int .i64 (s.fr : Int), .slice ba s.bt.length bc]) rfl (by kernel_rfl) (by kernel_rfl) 38 _ _ rfl ⟨g, 2, none⟩ (.int .i64 0) (by kernel_rfl) (by kernel_rfl) hst ⟨(HB.out.cell 0), (HB.out.cell 3)⟩ (fun hH => ?_)
   try simp only [pA, pB, p1, p2, p3]
   clear hst
   generalize w_8.setRow g #[.string (bs l), .slice wa s.ws.length wc, .int .i64 0, .int .i64 (s.fr : Int), .slice ba s.bt.length bc] = wk10 at HW HY HK HB hH ⊢
   refine aT (i := 21) (oi := { dst := some 35, op := Op.nilCheck (Operand.tmp 16), type := 0, pos := "word.go:73", after := #[{ on := 1, ground := Ground.data }, { on := 0, ground := Ground.phase }, { on := 1, ground := Ground.phase }, { on := 2, ground := Ground.phase }, { on := 3, ground := Ground.phase }, { on := 4, ground := Ground.phase }, { on := 5, ground := Ground.phase }, { on := 6, ground := Ground.phase }, { on := 7, ground := Ground.phase }, { on := 8, ground := Ground.phase }, { on := 9, ground := Ground.phase }, { on := 10, ground := Ground.phase }, { on := 11, ground := Ground.phase }, { on := 12, ground := Ground.phase }, { on := 13, ground := Ground.phase }, { on := 14, ground := Ground.phase }, { on := 15, ground := Ground.phase }, { on := 16, ground := Ground.phase }, { on := 17, ground := Ground.phase }, { on := 18, ground := Ground.phase }, { on := 19, ground := Ground.phase }, { on := 20, ground := Ground.phase }], guard := none }) (v := .pointer (some ⟨g, 0, none⟩)) (fun _ _ => by kernel_rfl) hH ?_
   try simp only [pA, pB, p1, p2, p3]
   refine aT (i := 22) (oi := { dst := some 36, op := Op.fieldAddr 40 (Operand.tmp 35) 1, type := 0, pos := "word.go:73", after := #[{ on := 21, ground := Ground.data }, { on := 0, ground := Ground.phase }, { on := 1, ground := Ground.phase }, { on := 2, ground := Ground.phase }, { on := 3, ground := Ground.phase }, { on := 4, ground := Ground.phase }, { on := 5, ground := Ground.phase }, { on := 6, ground := Ground.phase }, { on := 7, ground := Ground.phase }, { on := 8, ground := Ground.phase }, { on := 9, ground := Ground.phase }, { on := 10, ground := Ground.phase }, { on := 11, ground := Ground.phase }, { on := 12, ground := Ground.phase }, { on := 13, ground := Ground.phase }, { on := 14, ground := Ground.phase }, { on := 15, ground := Ground.phase }, { on := 16, ground := Ground.phase }, { on := 17, ground := Ground.phase }, { on := 18, ground := Ground.phase }, { on := 19, ground := Ground.phase }, { on := 20, ground := Ground.phase }], guard := none }) (v := .pointer (some ⟨g, 1, none⟩)) (fun _ _ => by kernel_rfl) hH ?_
   try simp only [pA, pB, p1, p2, p3]
   have hst : (storeVar 22 ⟨g, 1, none⟩ (.slice a_8 (s.ws.length + 1) c_8)).run Try.prog wk10 = .ok () (wk10.setRow g #[.string (bs l), .slice a_8 (s.ws.length + 1) c_8, .int .i64 0, .int .i64 (s.fr : Int), .slice ba s.bt.length bc]) := run_store_to (cur := [.string (bs l), .slice wa s.ws.length wc, .int .i64 0, .int .i64 (s.fr : Int), .slice ba s.bt.length bc]) (vs := [.slice a_8 (s.ws.length + 1) c_8]) (new := [.string (bs l), .slice a_8 (s.ws.length + 1) c_8, .int .i64 0, .int .i64 (s.fr : Int), .slice ba s.bt.length bc]) HB.out (by kernel_rfl) S22 (Nat.le_of_ble_eq_true (by kernel_rfl)) (by simp [Value.oneCell', strV, u8V]) (by kernel_rfl)
   have HW : Hid (Own 9 1 (wk10.setRow g #[.string (bs l), .slice a_8 (s.ws.length + 1) c_8, .int .i64 0, .int .i64 (s.fr : Int), .slice ba s.bt.length bc]) n0 a_8 c_8 (s.ws.length + 1) (s.ws.map strV ++ [.string (bs (cutL l s.fr i))])) := HW.out.kept (Kept.setRow _ _ _) (HW.out.notBox HB.out (by decide))
   have HY : Hid (Own 5 1 (wk10.setRow g #[.string (bs l), .slice a_8 (s.ws.length + 1) c_8, .int .i64 0, .int .i64 (s.fr : Int), .slice ba s.bt.length bc]) n0 ba bc s.bt.length (s.bt.map u8V)) := HY.out.kept (Kept.setRow _ _ _) (HY.out.notBox HB.out (by decide))
   have HK : Hid (Kept (Sg n0 g) w (wk10.setRow g #[.string (bs l), .slice a_8 (s.ws.length + 1) c_8, .int .i64 0, .int .i64 (s.fr : Int), .slice ba s.bt.length bc])) := HK.out.inRow (S := Sg n0 g) (Or.inl rfl) _
   have HB : Hid (Box (wk10.setRow g #[.string (bs l), .slice a_8 (s.ws.length + 1) c_8, .int .i64 0, .int .i64 (s.fr : Int), .slice ba s.bt.length bc]) g 40 #[.string (bs l), .slice a_8 (s.ws.length + 1) c_8, .int .i64 0, .int .i64 (s.fr : Int), .slice ba s.bt.length bc]) := HB.out.setRow _
   refine any_store (i := 23) (o := { dst := none, op := Op.store 22 (Operand.tmp 36) (Operand.tmp 32), type := 0, pos := "word.go:73", after := #[{ on := 22, ground := Ground.data }, { on := 17, ground := Ground.data }, { on := 20, ground := Ground.chain }, { on := 0, ground := Ground.phase }, { on := 1, ground := Ground.phase }, { on := 2, ground := Ground.phase }, { on := 3, ground := Ground.phase }, { on := 4, ground := Ground.phase }, { on := 5, ground := Ground.phase }, { on := 6, ground := Ground.phase }, { on := 7, ground := Ground.phase }, { on := 8, ground := Ground.phase }, { on := 9, ground := Ground.phase }, { on := 10, ground := Ground.phase }, { on := 11, ground := Ground.phase }, { on := 12, ground := Ground.phase }, { on := 13, ground := Ground.phase }, { on := 14, ground := Ground.phase }, { on := 15, ground := Ground.phase }, { on := 16, ground := Ground.phase }, { on := 17, ground := Ground.phase }, { on := 18, ground := Ground.phase }, { on := 19, ground := Ground.phase }, { on := 20, ground := Ground.phase }], guard := none }) (w' := wk10.setRow g #[.string (bs l), .slice a_8 (s.ws.length + 1) c_8, .int .i64 0, .int .i64 (s.fr : Int), .slice ba s.bt.length bc]) rfl (by kernel_rfl) (by kernel_rfl) 22 _ _ rfl ⟨g, 1, none⟩ (.slice a_8 (s.ws.length + 1) c_8) (by kernel_rfl) (by kernel_rfl) hst ⟨(HB.out.cell 0), (HB.out.cell 3)⟩ (fun hH => ?_)
   try simp only [pA, pB, p1, p2, p3]
   clear hst
   generalize wk10.setRow g #[.string (bs l), .slice a_8 (s.ws.length + 1) c_8, .int .i64 0, .int .i64 (s.fr : Int), .slice ba s.bt.length bc] = wk11 at HW HY HK HB hH ⊢
   refine wpAnyH_done (by kernel_rfl) ?_ _
   try simp only [pA, pB, p1, p2, p3]
   clear hH
   go_wp2
   go_end0
   rw [HC.out]
   exact ⟨rfl, by rw [HS.out]; exact CutA.of _ HB.out HW.out HY.out (Nat.le_trans HL.out HK.out.size) (by simp [strV, u8V]) (by simp [strV, u8V]) (by simp [strV, u8V]) (by simp [strV, u8V]) (by simp [strV, u8V]) (by simp [strV, u8V]), HK.out⟩

end Go.Proofs.Ytgnfeegnhdbnkaa
