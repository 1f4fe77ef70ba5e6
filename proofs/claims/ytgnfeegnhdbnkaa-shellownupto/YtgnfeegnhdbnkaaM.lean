import Derived.Test.YtgnfeegnhdbnkaaL
namespace Go.Proofs.Ytgnfeegnhdbnkaa
open Go.RowKit Go.Lib
set_option linter.unusedVariables false
set_option linter.unusedSimpArgs false

theorem hexI_le (r : Int) : -1 ≤ hexI r ∧ hexI r ≤ 15 := by
  unfold hexI
  cases h : hexD r with
  | none => simp
  | some x => have := hexD_le h; simp; omega
theorem u8V_of (x : Int) (h0 : 0 ≤ x) (h1 : x ≤ 255) : u8V (UInt8.ofNat x.toNat) = .int .u8 x := by
  unfold u8V
  rw [UInt8.toNat_ofNat']
  congr 1
  omega
theorem isB32 : isB 32 = true := by decide
theorem isB9 : isB 9 = true := by decide
theorem isB34 : isB 34 = false := by decide
theorem isB35 : isB 35 = false := by decide
theorem isB_of {r : Int} (h32 : (r == 32) = false) (h9 : (r == 9) = false) : isB r = false := by unfold isB; rw [h32, h9]; rfl
set_option maxRecDepth 100000 in
set_option maxHeartbeats 4000000 in
theorem nx_0s (n0 g : Nat) (word : List UInt8) (ws : List (List UInt8)) (dg : Int) (c : UInt8) (w : World) (hcut : RdA n0 w g ⟨0, word, ws, dg, false⟩) (hws : ws.length ≤ 1000000000000) (hbt : word.length ≤ 1000000000000) (h32 : bi c = 32)  : Calls Try.prog 20 #[.pointer (some ⟨g, 0, none⟩), .int .u8 (bi c)] w (PostR n0 g (nextS ⟨0, word, ws, dg, false⟩ c) w) := by
  obtain ⟨C, hC⟩ : ∃ C : Ending → World → Prop, C = (PostR n0 g (nextS ⟨0, word, ws, dg, false⟩ c) w) := ⟨_, rfl⟩
  have HC : Hid (C = (PostR n0 g (nextS ⟨0, word, ws, dg, false⟩ c) w)) := hC
  rw [← hC]
  clear hC
  have e32 : (bi c == 32) = true := by simp [h32]
  have hbl : isB (bi c) = true := by unfold isB; simp [e32]
  have HS : Hid (nextS ⟨0, word, ws, dg, false⟩ c = ⟨0, word, ws, dg, false⟩) := by show _ = _; unfold nextS; simp [h32, hbl, isB32, isB9, isB34, isB35]
  clear h32
  clear hbl
  obtain ⟨wa, wc, ba, bc, hC0⟩ := hcut
  have HB : Hid (Box w g 46 #[.int .i64 0, .slice ba word.length bc, .slice wa ws.length wc, .int .i64 dg, .bool false]) := hC0.box
  have HW : Hid (Own 9 1 w n0 wa wc ws.length (ws.map strV)) := hC0.hw
  have HY : Hid (Own 5 1 w n0 ba bc word.length (word.map u8V)) := hC0.hb
  have HL : Hid (n0 ≤ w.heap.size) := hC0.hn
  have HWd : Hid (ws.length ≤ 1000000000000) := hws
  have HBd : Hid (word.length ≤ 1000000000000) := hbt
  have HK : Hid (Kept (Sg n0 g) w w) := Kept.refl _ _
  clear hC0 hws hbt
  go_enter Try.func20, Try.ntmps20
  go_upto_region 0 with fail
  refine WL.start ?_
  refine tK (.int .u8 (bi c)) ?_
  try simp only [pA, pB, p1, p2, p3]
  refine tW (.bool true) (exec_bin .eql 5 _ _ _ rfl (.int .u8 (bi c)) (.int .u8 32) (.bool true) (by kernel_rfl) (by kernel_rfl) (by kernel_rfl) (by rw [b_eq5, e32])) ?_
  try simp only [pA, pB, p1, p2, p3]
  refine tK (.bool true) ?_
  try simp only [pA, pB, p1, p2, p3]
  refine sK ?_
  try simp only [pA, pB, p1, p2, p3]
  refine sK ?_
  try simp only [pA, pB, p1, p2, p3]
  refine tK (.bool true) ?_
  try simp only [pA, pB, p1, p2, p3]
  refine tK (.bool true) ?_
  try simp only [pA, pB, p1, p2, p3]
  refine WL.nil ?_
  try simp only [pA, pB, p1, p2, p3]
  go_upto_region 1 with fail
  refine WL.start ?_
  refine tK (.pointer (some ⟨g, 0, none⟩)) ?_
  try simp only [pA, pB, p1, p2, p3]
  refine tK (.pointer (some ⟨g, 0, none⟩)) ?_
  try simp only [pA, pB, p1, p2, p3]
  refine tK (.pointer (some ⟨g, 0, none⟩)) ?_
  try simp only [pA, pB, p1, p2, p3]
  refine tW (.int .i64 0) (exec_load 3 _ rfl ⟨g, 0, none⟩ (by kernel_rfl) (.int .i64 0) (load_one (HB.out.cell 0) U3 rfl)) ?_
  try simp only [pA, pB, p1, p2, p3]
  refine WL.nil ?_
  try simp only [pA, pB, p1, p2, p3]
  go_upto_region 2 with fail
  refine WL.start ?_
  refine tK (.bool true) ?_
  try simp only [pA, pB, p1, p2, p3]
  refine tK (.bool true) ?_
  try simp only [pA, pB, p1, p2, p3]
  refine WL.nil ?_
  try simp only [pA, pB, p1, p2, p3]
  go_upto_region 5 with fail
  refine WL.start ?_
  refine tK (.bool true) ?_
  try simp only [pA, pB, p1, p2, p3]
  refine tK (.bool true) ?_
  try simp only [pA, pB, p1, p2, p3]
  refine WL.nil ?_
  try simp only [pA, pB, p1, p2, p3]
  go_wp2
  go_end0
  rw [HC.out]
  exact ⟨rfl, by rw [HS.out]; exact RdA.of _ HB.out HW.out HY.out (Nat.le_trans HL.out HK.out.size) (by simp) (by simp [strV]) (by simp) (by simp) (by simp) (by simp [u8V, bi]) (by simp), HK.out⟩
set_option maxRecDepth 100000 in
set_option maxHeartbeats 4000000 in
theorem nx_0t (n0 g : Nat) (word : List UInt8) (ws : List (List UInt8)) (dg : Int) (c : UInt8) (w : World) (hcut : RdA n0 w g ⟨0, word, ws, dg, false⟩) (hws : ws.length ≤ 1000000000000) (hbt : word.length ≤ 1000000000000) (h32 : bi c ≠ 32) (h9 : bi c = 9)  : Calls Try.prog 20 #[.pointer (some ⟨g, 0, none⟩), .int .u8 (bi c)] w (PostR n0 g (nextS ⟨0, word, ws, dg, false⟩ c) w) := by
  obtain ⟨C, hC⟩ : ∃ C : Ending → World → Prop, C = (PostR n0 g (nextS ⟨0, word, ws, dg, false⟩ c) w) := ⟨_, rfl⟩
  have HC : Hid (C = (PostR n0 g (nextS ⟨0, word, ws, dg, false⟩ c) w)) := hC
  rw [← hC]
  clear hC
  have e32 : (bi c == 32) = false := by simp [h32]
  have e9 : (bi c == 9) = true := by simp [h9]
  have hbl : isB (bi c) = true := by unfold isB; simp [e32, e9]
  have HS : Hid (nextS ⟨0, word, ws, dg, false⟩ c = ⟨0, word, ws, dg, false⟩) := by show _ = _; unfold nextS; simp [h32, h9, hbl, isB32, isB9, isB34, isB35]
  clear h32 h9
  clear hbl
  obtain ⟨wa, wc, ba, bc, hC0⟩ := hcut
  have HB : Hid (Box w g 46 #[.int .i64 0, .slice ba word.length bc, .slice wa ws.length wc, .int .i64 dg, .bool false]) := hC0.box
  have HW : Hid (Own 9 1 w n0 wa wc ws.length (ws.map strV)) := hC0.hw
  have HY : Hid (Own 5 1 w n0 ba bc word.length (word.map u8V)) := hC0.hb
  have HL : Hid (n0 ≤ w.heap.size) := hC0.hn
  have HWd : Hid (ws.length ≤ 1000000000000) := hws
  have HBd : Hid (word.length ≤ 1000000000000) := hbt
  have HK : Hid (Kept (Sg n0 g) w w) := Kept.refl _ _
  clear hC0 hws hbt
  go_enter Try.func20, Try.ntmps20
  go_upto_region 0 with fail
  refine WL.start ?_
  refine tK (.int .u8 (bi c)) ?_
  try simp only [pA, pB, p1, p2, p3]
  refine tW (.bool false) (exec_bin .eql 5 _ _ _ rfl (.int .u8 (bi c)) (.int .u8 32) (.bool false) (by kernel_rfl) (by kernel_rfl) (by kernel_rfl) (by rw [b_eq5, e32])) ?_
  try simp only [pA, pB, p1, p2, p3]
  refine tK (.bool false) ?_
  try simp only [pA, pB, p1, p2, p3]
  refine tK (.int .u8 (bi c)) ?_
  try simp only [pA, pB, p1, p2, p3]
  refine tW (.bool true) (exec_bin .eql 5 _ _ _ rfl (.int .u8 (bi c)) (.int .u8 9) (.bool true) (by kernel_rfl) (by kernel_rfl) (by kernel_rfl) (by rw [b_eq5, e9])) ?_
  try simp only [pA, pB, p1, p2, p3]
  refine tK (.bool true) ?_
  try simp only [pA, pB, p1, p2, p3]
  refine tK (.bool true) ?_
  try simp only [pA, pB, p1, p2, p3]
  refine WL.nil ?_
  try simp only [pA, pB, p1, p2, p3]
  go_upto_region 1 with fail
  refine WL.start ?_
  refine tK (.pointer (some ⟨g, 0, none⟩)) ?_
  try simp only [pA, pB, p1, p2, p3]
  refine tK (.pointer (some ⟨g, 0, none⟩)) ?_
  try simp only [pA, pB, p1, p2, p3]
  refine tK (.pointer (some ⟨g, 0, none⟩)) ?_
  try simp only [pA, pB, p1, p2, p3]
  refine tW (.int .i64 0) (exec_load 3 _ rfl ⟨g, 0, none⟩ (by kernel_rfl) (.int .i64 0) (load_one (HB.out.cell 0) U3 rfl)) ?_
  try simp only [pA, pB, p1, p2, p3]
  refine WL.nil ?_
  try simp only [pA, pB, p1, p2, p3]
  go_upto_region 2 with fail
  refine WL.start ?_
  refine tK (.bool true) ?_
  try simp only [pA, pB, p1, p2, p3]
  refine tK (.bool true) ?_
  try simp only [pA, pB, p1, p2, p3]
  refine WL.nil ?_
  try simp only [pA, pB, p1, p2, p3]
  go_upto_region 5 with fail
  refine WL.start ?_
  refine tK (.bool true) ?_
  try simp only [pA, pB, p1, p2, p3]
  refine tK (.bool true) ?_
  try simp only [pA, pB, p1, p2, p3]
  refine WL.nil ?_
  try simp only [pA, pB, p1, p2, p3]
  go_wp2
  go_end0
  rw [HC.out]
  exact ⟨rfl, by rw [HS.out]; exact RdA.of _ HB.out HW.out HY.out (Nat.le_trans HL.out HK.out.size) (by simp) (by simp [strV]) (by simp) (by simp) (by simp) (by simp [u8V, bi]) (by simp), HK.out⟩
set_option maxRecDepth 100000 in
set_option maxHeartbeats 4000000 in
theorem nx_0r (n0 g : Nat) (word : List UInt8) (ws : List (List UInt8)) (dg : Int) (c : UInt8) (w : World) (hcut : RdA n0 w g ⟨0, word, ws, dg, false⟩) (hws : ws.length ≤ 1000000000000) (hbt : word.length ≤ 1000000000000) (h32 : bi c ≠ 32) (h9 : bi c ≠ 9) (h35 : bi c = 35)  : Calls Try.prog 20 #[.pointer (some ⟨g, 0, none⟩), .int .u8 (bi c)] w (PostR n0 g (nextS ⟨0, word, ws, dg, false⟩ c) w) := by
  obtain ⟨C, hC⟩ : ∃ C : Ending → World → Prop, C = (PostR n0 g (nextS ⟨0, word, ws, dg, false⟩ c) w) := ⟨_, rfl⟩
  have HC : Hid (C = (PostR n0 g (nextS ⟨0, word, ws, dg, false⟩ c) w)) := hC
  rw [← hC]
  clear hC
  have e32 : (bi c == 32) = false := by simp [h32]
  have e9 : (bi c == 9) = false := by simp [h9]
  have e35 : (bi c == 35) = true := by simp [h35]
  have hbl : isB (bi c) = false := isB_of e32 e9
  have HS : Hid (nextS ⟨0, word, ws, dg, false⟩ c = ⟨7, word, ws, dg, false⟩) := by show _ = _; unfold nextS; simp [h32, h9, h35, hbl, isB32, isB9, isB34, isB35]
  clear h32 h9 h35
  clear hbl
  obtain ⟨wa, wc, ba, bc, hC0⟩ := hcut
  have HB : Hid (Box w g 46 #[.int .i64 0, .slice ba word.length bc, .slice wa ws.length wc, .int .i64 dg, .bool false]) := hC0.box
  have HW : Hid (Own 9 1 w n0 wa wc ws.length (ws.map strV)) := hC0.hw
  have HY : Hid (Own 5 1 w n0 ba bc word.length (word.map u8V)) := hC0.hb
  have HL : Hid (n0 ≤ w.heap.size) := hC0.hn
  have HWd : Hid (ws.length ≤ 1000000000000) := hws
  have HBd : Hid (word.length ≤ 1000000000000) := hbt
  have HK : Hid (Kept (Sg n0 g) w w) := Kept.refl _ _
  clear hC0 hws hbt
  go_enter Try.func20, Try.ntmps20
  go_upto_region 0 with fail
  refine WL.start ?_
  refine tK (.int .u8 (bi c)) ?_
  try simp only [pA, pB, p1, p2, p3]
  refine tW (.bool false) (exec_bin .eql 5 _ _ _ rfl (.int .u8 (bi c)) (.int .u8 32) (.bool false) (by kernel_rfl) (by kernel_rfl) (by kernel_rfl) (by rw [b_eq5, e32])) ?_
  try simp only [pA, pB, p1, p2, p3]
  refine tK (.bool false) ?_
  try simp only [pA, pB, p1, p2, p3]
  refine tK (.int .u8 (bi c)) ?_
  try simp only [pA, pB, p1, p2, p3]
  refine tW (.bool false) (exec_bin .eql 5 _ _ _ rfl (.int .u8 (bi c)) (.int .u8 9) (.bool false) (by kernel_rfl) (by kernel_rfl) (by kernel_rfl) (by rw [b_eq5, e9])) ?_
  try simp only [pA, pB, p1, p2, p3]
  refine tK (.bool false) ?_
  try simp only [pA, pB, p1, p2, p3]
  refine tK (.bool false) ?_
  try simp only [pA, pB, p1, p2, p3]
  refine WL.nil ?_
  try simp only [pA, pB, p1, p2, p3]
  go_upto_region 1 with fail
  refine WL.start ?_
  refine tK (.pointer (some ⟨g, 0, none⟩)) ?_
  try simp only [pA, pB, p1, p2, p3]
  refine tK (.pointer (some ⟨g, 0, none⟩)) ?_
  try simp only [pA, pB, p1, p2, p3]
  refine tK (.pointer (some ⟨g, 0, none⟩)) ?_
  try simp only [pA, pB, p1, p2, p3]
  refine tW (.int .i64 0) (exec_load 3 _ rfl ⟨g, 0, none⟩ (by kernel_rfl) (.int .i64 0) (load_one (HB.out.cell 0) U3 rfl)) ?_
  try simp only [pA, pB, p1, p2, p3]
  refine WL.nil ?_
  try simp only [pA, pB, p1, p2, p3]
  go_upto_region 2 with fail
  refine WL.start ?_
  refine tK (.bool true) ?_
  try simp only [pA, pB, p1, p2, p3]
  refine tK (.bool true) ?_
  try simp only [pA, pB, p1, p2, p3]
  refine WL.nil ?_
  try simp only [pA, pB, p1, p2, p3]
  go_upto_region 5 with fail
  refine WL.start ?_
  refine tK (.bool false) ?_
  try simp only [pA, pB, p1, p2, p3]
  refine tK (.bool false) ?_
  try simp only [pA, pB, p1, p2, p3]
  refine WL.nil ?_
  try simp only [pA, pB, p1, p2, p3]
  go_upto_region 6 with fail
  refine WL.start ?_
  refine tK (.int .u8 (bi c)) ?_
  try simp only [pA, pB, p1, p2, p3]
  refine tW (.bool true) (exec_bin .eql 5 _ _ _ rfl (.int .u8 (bi c)) (.int .u8 35) (.bool true) (by kernel_rfl) (by kernel_rfl) (by kernel_rfl) (by rw [b_eq5, e35])) ?_
  try simp only [pA, pB, p1, p2, p3]
  refine tK (.bool true) ?_
  try simp only [pA, pB, p1, p2, p3]
  refine WL.nil ?_
  try simp only [pA, pB, p1, p2, p3]
  go_upto_region 7 with fail
  refine WL.start ?_
  refine tK (.pointer (some ⟨g, 0, none⟩)) ?_
  try simp only [pA, pB, p1, p2, p3]
  refine tK (.pointer (some ⟨g, 0, none⟩)) ?_
  try simp only [pA, pB, p1, p2, p3]
  refine tK (.pointer (some ⟨g, 0, none⟩)) ?_
  try simp only [pA, pB, p1, p2, p3]
  have hst : (storeVar 3 ⟨g, 0, none⟩ (.int .i64 7)).run Try.prog w = .ok () (w.setRow g #[.int .i64 7, .slice ba word.length bc, .slice wa ws.length wc, .int .i64 dg, .bool false]) := run_store_to (cur := [.int .i64 0, .slice ba word.length bc, .slice wa ws.length wc, .int .i64 dg, .bool false]) (vs := [.int .i64 7]) (new := [.int .i64 7, .slice ba word.length bc, .slice wa ws.length wc, .int .i64 dg, .bool false]) HB.out (by kernel_rfl) S3 (Nat.le_of_ble_eq_true (by kernel_rfl)) (by simp [Value.oneCell', strV, u8V]) (by kernel_rfl)
  have HW : Hid (Own 9 1 (w.setRow g #[.int .i64 7, .slice ba word.length bc, .slice wa ws.length wc, .int .i64 dg, .bool false]) n0 wa wc ws.length (ws.map strV)) := HW.out.kept (Kept.setRow _ _ _) (HW.out.notBox HB.out (by decide))
  have HY : Hid (Own 5 1 (w.setRow g #[.int .i64 7, .slice ba word.length bc, .slice wa ws.length wc, .int .i64 dg, .bool false]) n0 ba bc word.length (word.map u8V)) := HY.out.kept (Kept.setRow _ _ _) (HY.out.notBox HB.out (by decide))
  have HK : Hid (Kept (Sg n0 g) w (w.setRow g #[.int .i64 7, .slice ba word.length bc, .slice wa ws.length wc, .int .i64 dg, .bool false])) := HK.out.inRow (S := Sg n0 g) (Or.inl rfl) _
  have HB : Hid (Box (w.setRow g #[.int .i64 7, .slice ba word.length bc, .slice wa ws.length wc, .int .i64 dg, .bool false]) g 46 #[.int .i64 7, .slice ba word.length bc, .slice wa ws.length wc, .int .i64 dg, .bool false]) := HB.out.setRow _
  refine wp_storeW 3 _ _ rfl ⟨g, 0, none⟩ (.int .i64 7) (by kernel_rfl) (by kernel_rfl) (w.setRow g #[.int .i64 7, .slice ba word.length bc, .slice wa ws.length wc, .int .i64 dg, .bool false]) hst (by kernel_rfl) ?_
  try simp only [pA, pB, p1, p2, p3]
  clear hst
  generalize w.setRow g #[.int .i64 7, .slice ba word.length bc, .slice wa ws.length wc, .int .i64 dg, .bool false] = wk1 at HW HY HK HB ⊢
  refine WL.nil ?_
  try simp only [pA, pB, p1, p2, p3]
  go_wp2
  go_end0
  rw [HC.out]
  exact ⟨rfl, by rw [HS.out]; exact RdA.of _ HB.out HW.out HY.out (Nat.le_trans HL.out HK.out.size) (by simp) (by simp [strV]) (by simp) (by simp) (by simp) (by simp [u8V, bi]) (by simp), HK.out⟩
set_option maxRecDepth 100000 in
set_option maxHeartbeats 4000000 in
theorem nx_0q (n0 g : Nat) (word : List UInt8) (ws : List (List UInt8)) (dg : Int) (c : UInt8) (w : World) (hcut : RdA n0 w g ⟨0, word, ws, dg, false⟩) (hws : ws.length ≤ 1000000000000) (hbt : word.length ≤ 1000000000000) (h32 : bi c ≠ 32) (h9 : bi c ≠ 9) (h35 : bi c ≠ 35) (h34 : bi c = 34)  : Calls Try.prog 20 #[.pointer (some ⟨g, 0, none⟩), .int .u8 (bi c)] w (PostR n0 g (nextS ⟨0, word, ws, dg, false⟩ c) w) := by
  obtain ⟨C, hC⟩ : ∃ C : Ending → World → Prop, C = (PostR n0 g (nextS ⟨0, word, ws, dg, false⟩ c) w) := ⟨_, rfl⟩
  have HC : Hid (C = (PostR n0 g (nextS ⟨0, word, ws, dg, false⟩ c) w)) := hC
  rw [← hC]
  clear hC
  have e32 : (bi c == 32) = false := by simp [h32]
  have e9 : (bi c == 9) = false := by simp [h9]
  have e35 : (bi c == 35) = false := by simp [h35]
  have e34 : (bi c == 34) = true := by simp [h34]
  have hbl : isB (bi c) = false := isB_of e32 e9
  have HS : Hid (nextS ⟨0, word, ws, dg, false⟩ c = ⟨2, word, ws, dg, false⟩) := by show _ = _; unfold nextS; simp [h32, h9, h35, h34, hbl, isB32, isB9, isB34, isB35]
  clear h32 h9 h35 h34
  clear hbl
  obtain ⟨wa, wc, ba, bc, hC0⟩ := hcut
  have HB : Hid (Box w g 46 #[.int .i64 0, .slice ba word.length bc, .slice wa ws.length wc, .int .i64 dg, .bool false]) := hC0.box
  have HW : Hid (Own 9 1 w n0 wa wc ws.length (ws.map strV)) := hC0.hw
  have HY : Hid (Own 5 1 w n0 ba bc word.length (word.map u8V)) := hC0.hb
  have HL : Hid (n0 ≤ w.heap.size) := hC0.hn
  have HWd : Hid (ws.length ≤ 1000000000000) := hws
  have HBd : Hid (word.length ≤ 1000000000000) := hbt
  have HK : Hid (Kept (Sg n0 g) w w) := Kept.refl _ _
  clear hC0 hws hbt
  go_enter Try.func20, Try.ntmps20
  go_upto_region 0 with fail
  refine WL.start ?_
  refine tK (.int .u8 (bi c)) ?_
  try simp only [pA, pB, p1, p2, p3]
  refine tW (.bool false) (exec_bin .eql 5 _ _ _ rfl (.int .u8 (bi c)) (.int .u8 32) (.bool false) (by kernel_rfl) (by kernel_rfl) (by kernel_rfl) (by rw [b_eq5, e32])) ?_
  try simp only [pA, pB, p1, p2, p3]
  refine tK (.bool false) ?_
  try simp only [pA, pB, p1, p2, p3]
  refine tK (.int .u8 (bi c)) ?_
  try simp only [pA, pB, p1, p2, p3]
  refine tW (.bool false) (exec_bin .eql 5 _ _ _ rfl (.int .u8 (bi c)) (.int .u8 9) (.bool false) (by kernel_rfl) (by kernel_rfl) (by kernel_rfl) (by rw [b_eq5, e9])) ?_
  try simp only [pA, pB, p1, p2, p3]
  refine tK (.bool false) ?_
  try simp only [pA, pB, p1, p2, p3]
  refine tK (.bool false) ?_
  try simp only [pA, pB, p1, p2, p3]
  refine WL.nil ?_
  try simp only [pA, pB, p1, p2, p3]
  go_upto_region 1 with fail
  refine WL.start ?_
  refine tK (.pointer (some ⟨g, 0, none⟩)) ?_
  try simp only [pA, pB, p1, p2, p3]
  refine tK (.pointer (some ⟨g, 0, none⟩)) ?_
  try simp only [pA, pB, p1, p2, p3]
  refine tK (.pointer (some ⟨g, 0, none⟩)) ?_
  try simp only [pA, pB, p1, p2, p3]
  refine tW (.int .i64 0) (exec_load 3 _ rfl ⟨g, 0, none⟩ (by kernel_rfl) (.int .i64 0) (load_one (HB.out.cell 0) U3 rfl)) ?_
  try simp only [pA, pB, p1, p2, p3]
  refine WL.nil ?_
  try simp only [pA, pB, p1, p2, p3]
  go_upto_region 2 with fail
  refine WL.start ?_
  refine tK (.bool true) ?_
  try simp only [pA, pB, p1, p2, p3]
  refine tK (.bool true) ?_
  try simp only [pA, pB, p1, p2, p3]
  refine WL.nil ?_
  try simp only [pA, pB, p1, p2, p3]
  go_upto_region 5 with fail
  refine WL.start ?_
  refine tK (.bool false) ?_
  try simp only [pA, pB, p1, p2, p3]
  refine tK (.bool false) ?_
  try simp only [pA, pB, p1, p2, p3]
  refine WL.nil ?_
  try simp only [pA, pB, p1, p2, p3]
  go_upto_region 6 with fail
  refine WL.start ?_
  refine tK (.int .u8 (bi c)) ?_
  try simp only [pA, pB, p1, p2, p3]
  refine tW (.bool false) (exec_bin .eql 5 _ _ _ rfl (.int .u8 (bi c)) (.int .u8 35) (.bool false) (by kernel_rfl) (by kernel_rfl) (by kernel_rfl) (by rw [b_eq5, e35])) ?_
  try simp only [pA, pB, p1, p2, p3]
  refine tK (.bool false) ?_
  try simp only [pA, pB, p1, p2, p3]
  refine WL.nil ?_
  try simp only [pA, pB, p1, p2, p3]
  go_upto_region 8 with fail
  refine WL.start ?_
  refine tK (.int .u8 (bi c)) ?_
  try simp only [pA, pB, p1, p2, p3]
  refine tW (.bool true) (exec_bin .eql 5 _ _ _ rfl (.int .u8 (bi c)) (.int .u8 34) (.bool true) (by kernel_rfl) (by kernel_rfl) (by kernel_rfl) (by rw [b_eq5, e34])) ?_
  try simp only [pA, pB, p1, p2, p3]
  refine tK (.bool true) ?_
  try simp only [pA, pB, p1, p2, p3]
  refine WL.nil ?_
  try simp only [pA, pB, p1, p2, p3]
  go_upto_region 9 with fail
  refine WL.start ?_
  refine tK (.pointer (some ⟨g, 0, none⟩)) ?_
  try simp only [pA, pB, p1, p2, p3]
  refine tK (.pointer (some ⟨g, 0, none⟩)) ?_
  try simp only [pA, pB, p1, p2, p3]
  refine tK (.pointer (some ⟨g, 0, none⟩)) ?_
  try simp only [pA, pB, p1, p2, p3]
  have hst : (storeVar 3 ⟨g, 0, none⟩ (.int .i64 2)).run Try.prog w = .ok () (w.setRow g #[.int .i64 2, .slice ba word.length bc, .slice wa ws.length wc, .int .i64 dg, .bool false]) := run_store_to (cur := [.int .i64 0, .slice ba word.length bc, .slice wa ws.length wc, .int .i64 dg, .bool false]) (vs := [.int .i64 2]) (new := [.int .i64 2, .slice ba word.length bc, .slice wa ws.length wc, .int .i64 dg, .bool false]) HB.out (by kernel_rfl) S3 (Nat.le_of_ble_eq_true (by kernel_rfl)) (by simp [Value.oneCell', strV, u8V]) (by kernel_rfl)
  have HW : Hid (Own 9 1 (w.setRow g #[.int .i64 2, .slice ba word.length bc, .slice wa ws.length wc, .int .i64 dg, .bool false]) n0 wa wc ws.length (ws.map strV)) := HW.out.kept (Kept.setRow _ _ _) (HW.out.notBox HB.out (by decide))
  have HY : Hid (Own 5 1 (w.setRow g #[.int .i64 2, .slice ba word.length bc, .slice wa ws.length wc, .int .i64 dg, .bool false]) n0 ba bc word.length (word.map u8V)) := HY.out.kept (Kept.setRow _ _ _) (HY.out.notBox HB.out (by decide))
  have HK : Hid (Kept (Sg n0 g) w (w.setRow g #[.int .i64 2, .slice ba word.length bc, .slice wa ws.length wc, .int .i64 dg, .bool false])) := HK.out.inRow (S := Sg n0 g) (Or.inl rfl) _
  have HB : Hid (Box (w.setRow g #[.int .i64 2, .slice ba word.length bc, .slice wa ws.length wc, .int .i64 dg, .bool false]) g 46 #[.int .i64 2, .slice ba word.length bc, .slice wa ws.length wc, .int .i64 dg, .bool false]) := HB.out.setRow _
  refine wp_storeW 3 _ _ rfl ⟨g, 0, none⟩ (.int .i64 2) (by kernel_rfl) (by kernel_rfl) (w.setRow g #[.int .i64 2, .slice ba word.length bc, .slice wa ws.length wc, .int .i64 dg, .bool false]) hst (by kernel_rfl) ?_
  try simp only [pA, pB, p1, p2, p3]
  clear hst
  generalize w.setRow g #[.int .i64 2, .slice ba word.length bc, .slice wa ws.length wc, .int .i64 dg, .bool false] = wk1 at HW HY HK HB ⊢
  refine WL.nil ?_
  try simp only [pA, pB, p1, p2, p3]
  go_wp2
  go_end0
  rw [HC.out]
  exact ⟨rfl, by rw [HS.out]; exact RdA.of _ HB.out HW.out HY.out (Nat.le_trans HL.out HK.out.size) (by simp) (by simp [strV]) (by simp) (by simp) (by simp) (by simp [u8V, bi]) (by simp), HK.out⟩
set_option maxRecDepth 100000 in
set_option maxHeartbeats 4000000 in
theorem nx_0p (n0 g : Nat) (word : List UInt8) (ws : List (List UInt8)) (dg : Int) (c : UInt8) (w : World) (hcut : RdA n0 w g ⟨0, word, ws, dg, false⟩) (hws : ws.length ≤ 1000000000000) (hbt : word.length ≤ 1000000000000) (h32 : bi c ≠ 32) (h9 : bi c ≠ 9) (h35 : bi c ≠ 35) (h34 : bi c ≠ 34)  : Calls Try.prog 20 #[.pointer (some ⟨g, 0, none⟩), .int .u8 (bi c)] w (PostR n0 g (nextS ⟨0, word, ws, dg, false⟩ c) w) := by
  obtain ⟨C, hC⟩ : ∃ C : Ending → World → Prop, C = (PostR n0 g (nextS ⟨0, word, ws, dg, false⟩ c) w) := ⟨_, rfl⟩
  have HC : Hid (C = (PostR n0 g (nextS ⟨0, word, ws, dg, false⟩ c) w)) := hC
  rw [← hC]
  clear hC
  have e32 : (bi c == 32) = false := by simp [h32]
  have e9 : (bi c == 9) = false := by simp [h9]
  have e35 : (bi c == 35) = false := by simp [h35]
  have e34 : (bi c == 34) = false := by simp [h34]
  have hbl : isB (bi c) = false := isB_of e32 e9
  have HS : Hid (nextS ⟨0, word, ws, dg, false⟩ c = ⟨1, word ++ [c], ws, dg, false⟩) := by show _ = _; unfold nextS; simp [h32, h9, h35, h34, hbl, isB32, isB9, isB34, isB35]
  clear h32 h9 h35 h34
  clear hbl
  obtain ⟨wa, wc, ba, bc, hC0⟩ := hcut
  have HB : Hid (Box w g 46 #[.int .i64 0, .slice ba word.length bc, .slice wa ws.length wc, .int .i64 dg, .bool false]) := hC0.box
  have HW : Hid (Own 9 1 w n0 wa wc ws.length (ws.map strV)) := hC0.hw
  have HY : Hid (Own 5 1 w n0 ba bc word.length (word.map u8V)) := hC0.hb
  have HL : Hid (n0 ≤ w.heap.size) := hC0.hn
  have HWd : Hid (ws.length ≤ 1000000000000) := hws
  have HBd : Hid (word.length ≤ 1000000000000) := hbt
  have HK : Hid (Kept (Sg n0 g) w w) := Kept.refl _ _
  clear hC0 hws hbt
  go_enter Try.func20, Try.ntmps20
  go_upto_region 0 with fail
  refine WL.start ?_
  refine tK (.int .u8 (bi c)) ?_
  try simp only [pA, pB, p1, p2, p3]
  refine tW (.bool false) (exec_bin .eql 5 _ _ _ rfl (.int .u8 (bi c)) (.int .u8 32) (.bool false) (by kernel_rfl) (by kernel_rfl) (by kernel_rfl) (by rw [b_eq5, e32])) ?_
  try simp only [pA, pB, p1, p2, p3]
  refine tK (.bool false) ?_
  try simp only [pA, pB, p1, p2, p3]
  refine tK (.int .u8 (bi c)) ?_
  try simp only [pA, pB, p1, p2, p3]
  refine tW (.bool false) (exec_bin .eql 5 _ _ _ rfl (.int .u8 (bi c)) (.int .u8 9) (.bool false) (by kernel_rfl) (by kernel_rfl) (by kernel_rfl) (by rw [b_eq5, e9])) ?_
  try simp only [pA, pB, p1, p2, p3]
  refine tK (.bool false) ?_
  try simp only [pA, pB, p1, p2, p3]
  refine tK (.bool false) ?_
  try simp only [pA, pB, p1, p2, p3]
  refine WL.nil ?_
  try simp only [pA, pB, p1, p2, p3]
  go_upto_region 1 with fail
  refine WL.start ?_
  refine tK (.pointer (some ⟨g, 0, none⟩)) ?_
  try simp only [pA, pB, p1, p2, p3]
  refine tK (.pointer (some ⟨g, 0, none⟩)) ?_
  try simp only [pA, pB, p1, p2, p3]
  refine tK (.pointer (some ⟨g, 0, none⟩)) ?_
  try simp only [pA, pB, p1, p2, p3]
  refine tW (.int .i64 0) (exec_load 3 _ rfl ⟨g, 0, none⟩ (by kernel_rfl) (.int .i64 0) (load_one (HB.out.cell 0) U3 rfl)) ?_
  try simp only [pA, pB, p1, p2, p3]
  refine WL.nil ?_
  try simp only [pA, pB, p1, p2, p3]
  go_upto_region 2 with fail
  refine WL.start ?_
  refine tK (.bool true) ?_
  try simp only [pA, pB, p1, p2, p3]
  refine tK (.bool true) ?_
  try simp only [pA, pB, p1, p2, p3]
  refine WL.nil ?_
  try simp only [pA, pB, p1, p2, p3]
  go_upto_region 5 with fail
  refine WL.start ?_
  refine tK (.bool false) ?_
  try simp only [pA, pB, p1, p2, p3]
  refine tK (.bool false) ?_
  try simp only [pA, pB, p1, p2, p3]
  refine WL.nil ?_
  try simp only [pA, pB, p1, p2, p3]
  go_upto_region 6 with fail
  refine WL.start ?_
  refine tK (.int .u8 (bi c)) ?_
  try simp only [pA, pB, p1, p2, p3]
  refine tW (.bool false) (exec_bin .eql 5 _ _ _ rfl (.int .u8 (bi c)) (.int .u8 35) (.bool false) (by kernel_rfl) (by kernel_rfl) (by kernel_rfl) (by rw [b_eq5, e35])) ?_
  try simp only [pA, pB, p1, p2, p3]
  refine tK (.bool false) ?_
  try simp only [pA, pB, p1, p2, p3]
  refine WL.nil ?_
  try simp only [pA, pB, p1, p2, p3]
  go_upto_region 8 with fail
  refine WL.start ?_
  refine tK (.int .u8 (bi c)) ?_
  try simp only [pA, pB, p1, p2, p3]
  refine tW (.bool false) (exec_bin .eql 5 _ _ _ rfl (.int .u8 (bi c)) (.int .u8 34) (.bool false) (by kernel_rfl) (by kernel_rfl) (by kernel_rfl) (by rw [b_eq5, e34])) ?_
  try simp only [pA, pB, p1, p2, p3]
  refine tK (.bool false) ?_
  try simp only [pA, pB, p1, p2, p3]
  refine WL.nil ?_
  try simp only [pA, pB, p1, p2, p3]
  go_upto_region 3 with fail
  refine WL.start ?_
  refine tK (.pointer (some ⟨g, 0, none⟩)) ?_
  try simp only [pA, pB, p1, p2, p3]
  refine tK (.pointer (some ⟨g, 0, none⟩)) ?_
  try simp only [pA, pB, p1, p2, p3]
  refine tK (.pointer (some ⟨g, 0, none⟩)) ?_
  try simp only [pA, pB, p1, p2, p3]
  have hst : (storeVar 3 ⟨g, 0, none⟩ (.int .i64 1)).run Try.prog w = .ok () (w.setRow g #[.int .i64 1, .slice ba word.length bc, .slice wa ws.length wc, .int .i64 dg, .bool false]) := run_store_to (cur := [.int .i64 0, .slice ba word.length bc, .slice wa ws.length wc, .int .i64 dg, .bool false]) (vs := [.int .i64 1]) (new := [.int .i64 1, .slice ba word.length bc, .slice wa ws.length wc, .int .i64 dg, .bool false]) HB.out (by kernel_rfl) S3 (Nat.le_of_ble_eq_true (by kernel_rfl)) (by simp [Value.oneCell', strV, u8V]) (by kernel_rfl)
  have HW : Hid (Own 9 1 (w.setRow g #[.int .i64 1, .slice ba word.length bc, .slice wa ws.length wc, .int .i64 dg, .bool false]) n0 wa wc ws.length (ws.map strV)) := HW.out.kept (Kept.setRow _ _ _) (HW.out.notBox HB.out (by decide))
  have HY : Hid (Own 5 1 (w.setRow g #[.int .i64 1, .slice ba word.length bc, .slice wa ws.length wc, .int .i64 dg, .bool false]) n0 ba bc word.length (word.map u8V)) := HY.out.kept (Kept.setRow _ _ _) (HY.out.notBox HB.out (by decide))
  have HK : Hid (Kept (Sg n0 g) w (w.setRow g #[.int .i64 1, .slice ba word.length bc, .slice wa ws.length wc, .int .i64 dg, .bool false])) := HK.out.inRow (S := Sg n0 g) (Or.inl rfl) _
  have HB : Hid (Box (w.setRow g #[.int .i64 1, .slice ba word.length bc, .slice wa ws.length wc, .int .i64 dg, .bool false]) g 46 #[.int .i64 1, .slice ba word.length bc, .slice wa ws.length wc, .int .i64 dg, .bool false]) := HB.out.setRow _
  refine wp_storeW 3 _ _ rfl ⟨g, 0, none⟩ (.int .i64 1) (by kernel_rfl) (by kernel_rfl) (w.setRow g #[.int .i64 1, .slice ba word.length bc, .slice wa ws.length wc, .int .i64 dg, .bool false]) hst (by kernel_rfl) ?_
  try simp only [pA, pB, p1, p2, p3]
  clear hst
  generalize w.setRow g #[.int .i64 1, .slice ba word.length bc, .slice wa ws.length wc, .int .i64 dg, .bool false] = wk1 at HW HY HK HB ⊢
  refine WL.nil ?_
  try simp only [pA, pB, p1, p2, p3]
  go_upto_region 4 with fail
  refine WL.start ?_
  refine tK (.pointer (some ⟨g, 0, none⟩)) ?_
  try simp only [pA, pB, p1, p2, p3]
  refine tK (.pointer (some ⟨g, 0, none⟩)) ?_
  try simp only [pA, pB, p1, p2, p3]
  refine tK (.pointer (some ⟨g, 0, none⟩)) ?_
  try simp only [pA, pB, p1, p2, p3]
  refine tK (.pointer (some ⟨g, 1, none⟩)) ?_
  try simp only [pA, pB, p1, p2, p3]
  refine tW (.slice ba word.length bc) (exec_load 30 _ rfl ⟨g, 1, none⟩ (by kernel_rfl) (.slice ba word.length bc) (load_one (HB.out.cell 1) U30 rfl)) ?_
  try simp only [pA, pB, p1, p2, p3]
  refine tK (.int .u8 (bi c)) ?_
  try simp only [pA, pB, p1, p2, p3]
  have HW : Hid (Own 9 1 (wk1.alloc (.cells [.int .u8 (bi c)].toArray 5)) n0 wa wc ws.length (ws.map strV)) := HW.out.no ((Kept.refl No _).alloc _)
  have HY : Hid (Own 5 1 (wk1.alloc (.cells [.int .u8 (bi c)].toArray 5)) n0 ba bc word.length (word.map u8V)) := HY.out.no ((Kept.refl No _).alloc _)
  have HK : Hid (Kept (Sg n0 g) w (wk1.alloc (.cells [.int .u8 (bi c)].toArray 5))) := HK.out.alloc _
  have HB : Hid (Box (wk1.alloc (.cells [.int .u8 (bi c)].toArray 5)) g 46 #[.int .i64 1, .slice ba word.length bc, .slice wa ws.length wc, .int .i64 dg, .bool false]) := HB.out.alloc _
  have HX : Hid (Box (wk1.alloc (.cells [.int .u8 (bi c)].toArray 5)) wk1.heap.size 5 [.int .u8 (bi c)].toArray) := Box.new _ _ _
  refine wp_runW (.slice (some ⟨wk1.heap.size, 0, none⟩) 1 1) (wk1.alloc (.cells [.int .u8 (bi c)].toArray 5)) (exec_built (by kernel_rfl)) (by kernel_rfl) ?_
  try simp only [pA, pB, p1, p2, p3]
  generalize wk1.alloc (.cells [.int .u8 (bi c)].toArray 5) = wk2 at HW HY HK HX HB ⊢
  generalize wk1.heap.size = gk3 at HX ⊢
  obtain ⟨a_3, c_3, w_3, hrun, ho, hc⟩ := run_app 30 5 1 _ U30 I5 rfl HY.out 30 ⟨gk3, 0, none⟩ 1 1 [.int .u8 (bi c)] rfl (box_news HX.out) (by simp [Value.oneCell', strV, u8V]) (by have h2 := HBd.out; have h3 := HWd.out; omega) (by have h2 := HBd.out; have h3 := HWd.out; omega) (Nat.le_trans HL.out HK.out.size)
  clear HX
  have HW : Hid (Own 9 1 w_3 n0 wa wc ws.length (ws.map strV)) := HW.out.kept hc (own_apart HW.out HY.out (by decide))
  have HK : Hid (Kept (Sg n0 g) w w_3) := HK.out.trans hc (fun _ e => e) (fun _ _ e => Or.inr (HY.out.base e))
  have HB : Hid (Box w_3 g 46 #[.int .i64 1, .slice ba word.length bc, .slice wa ws.length wc, .int .i64 dg, .bool false]) := HB.out.kept hc (HY.out.offBox HB.out (by decide))
  have HY : Hid (Own 5 1 w_3 n0 a_3 c_3 (word.length + 1) (word.map u8V ++ [.int .u8 (bi c)])) := ho
  refine wp_runW (.slice a_3 (word.length + 1) c_3) (w_3) (exec_app _ _ 30 30 rfl _ _ _ (by kernel_rfl) (by kernel_rfl) hrun) (by kernel_rfl) ?_
  try simp only [pA, pB, p1, p2, p3]
  clear hrun ho hc
  refine tK (.pointer (some ⟨g, 0, none⟩)) ?_
  try simp only [pA, pB, p1, p2, p3]
  refine tK (.pointer (some ⟨g, 1, none⟩)) ?_
  try simp only [pA, pB, p1, p2, p3]
  have hst : (storeVar 30 ⟨g, 1, none⟩ (.slice a_3 (word.length + 1) c_3)).run Try.prog w_3 = .ok () (w_3.setRow g #[.int .i64 1, .slice a_3 (word.length + 1) c_3, .slice wa ws.length wc, .int .i64 dg, .bool false]) := run_store_to (cur := [.int .i64 1, .slice ba word.length bc, .slice wa ws.length wc, .int .i64 dg, .bool false]) (vs := [.slice a_3 (word.length + 1) c_3]) (new := [.int .i64 1, .slice a_3 (word.length + 1) c_3, .slice wa ws.length wc, .int .i64 dg, .bool false]) HB.out (by kernel_rfl) S30 (Nat.le_of_ble_eq_true (by kernel_rfl)) (by simp [Value.oneCell', strV, u8V]) (by kernel_rfl)
  have HW : Hid (Own 9 1 (w_3.setRow g #[.int .i64 1, .slice a_3 (word.length + 1) c_3, .slice wa ws.length wc, .int .i64 dg, .bool false]) n0 wa wc ws.length (ws.map strV)) := HW.out.kept (Kept.setRow _ _ _) (HW.out.notBox HB.out (by decide))
  have HY : Hid (Own 5 1 (w_3.setRow g #[.int .i64 1, .slice a_3 (word.length + 1) c_3, .slice wa ws.length wc, .int .i64 dg, .bool false]) n0 a_3 c_3 (word.length + 1) (word.map u8V ++ [.int .u8 (bi c)])) := HY.out.kept (Kept.setRow _ _ _) (HY.out.notBox HB.out (by decide))
  have HK : Hid (Kept (Sg n0 g) w (w_3.setRow g #[.int .i64 1, .slice a_3 (word.length + 1) c_3, .slice wa ws.length wc, .int .i64 dg, .bool false])) := HK.out.inRow (S := Sg n0 g) (Or.inl rfl) _
  have HB : Hid (Box (w_3.setRow g #[.int .i64 1, .slice a_3 (word.length + 1) c_3, .slice wa ws.length wc, .int .i64 dg, .bool false]) g 46 #[.int .i64 1, .slice a_3 (word.length + 1) c_3, .slice wa ws.length wc, .int .i64 dg, .bool false]) := HB.out.setRow _
  refine wp_storeW 30 _ _ rfl ⟨g, 1, none⟩ (.slice a_3 (word.length + 1) c_3) (by kernel_rfl) (by kernel_rfl) (w_3.setRow g #[.int .i64 1, .slice a_3 (word.length + 1) c_3, .slice wa ws.length wc, .int .i64 dg, .bool false]) hst (by kernel_rfl) ?_
  try simp only [pA, pB, p1, p2, p3]
  clear hst
  generalize w_3.setRow g #[.int .i64 1, .slice a_3 (word.length + 1) c_3, .slice wa ws.length wc, .int .i64 dg, .bool false] = wk5 at HW HY HK HB ⊢
  refine WL.nil ?_
  try simp only [pA, pB, p1, p2, p3]
  go_wp2
  go_end0
  rw [HC.out]
  exact ⟨rfl, by rw [HS.out]; exact RdA.of _ HB.out HW.out HY.out (Nat.le_trans HL.out HK.out.size) (by simp) (by simp [strV]) (by simp) (by simp) (by simp) (by simp [u8V, bi]) (by simp), HK.out⟩
set_option maxRecDepth 100000 in
set_option maxHeartbeats 4000000 in
theorem nx_1s (n0 g : Nat) (word : List UInt8) (ws : List (List UInt8)) (dg : Int) (c : UInt8) (w : World) (hcut : RdA n0 w g ⟨1, word, ws, dg, false⟩) (hws : ws.length ≤ 1000000000000) (hbt : word.length ≤ 1000000000000) (h32 : bi c = 32)  : Calls Try.prog 20 #[.pointer (some ⟨g, 0, none⟩), .int .u8 (bi c)] w (PostR n0 g (nextS ⟨1, word, ws, dg, false⟩ c) w) := by
  obtain ⟨C, hC⟩ : ∃ C : Ending → World → Prop, C = (PostR n0 g (nextS ⟨1, word, ws, dg, false⟩ c) w) := ⟨_, rfl⟩
  have HC : Hid (C = (PostR n0 g (nextS ⟨1, word, ws, dg, false⟩ c) w)) := hC
  rw [← hC]
  clear hC
  have e32 : (bi c == 32) = true := by simp [h32]
  have hbl : isB (bi c) = true := by unfold isB; simp [e32]
  have HS : Hid (nextS ⟨1, word, ws, dg, false⟩ c = endS ⟨1, word, ws, dg, false⟩ 0) := by show _ = _; unfold nextS; simp [h32, hbl, isB32, isB9, isB34, isB35, endS]
  clear h32
  clear hbl
  obtain ⟨wa, wc, ba, bc, hC0⟩ := hcut
  have HB : Hid (Box w g 46 #[.int .i64 1, .slice ba word.length bc, .slice wa ws.length wc, .int .i64 dg, .bool false]) := hC0.box
  have HW : Hid (Own 9 1 w n0 wa wc ws.length (ws.map strV)) := hC0.hw
  have HY : Hid (Own 5 1 w n0 ba bc word.length (word.map u8V)) := hC0.hb
  have HL : Hid (n0 ≤ w.heap.size) := hC0.hn
  have HWd : Hid (ws.length ≤ 1000000000000) := hws
  have HBd : Hid (word.length ≤ 1000000000000) := hbt
  have HK : Hid (Kept (Sg n0 g) w w) := Kept.refl _ _
  clear hC0 hws hbt
  go_enter Try.func20, Try.ntmps20
  go_upto_region 0 with fail
  refine WL.start ?_
  refine tK (.int .u8 (bi c)) ?_
  try simp only [pA, pB, p1, p2, p3]
  refine tW (.bool true) (exec_bin .eql 5 _ _ _ rfl (.int .u8 (bi c)) (.int .u8 32) (.bool true) (by kernel_rfl) (by kernel_rfl) (by kernel_rfl) (by rw [b_eq5, e32])) ?_
  try simp only [pA, pB, p1, p2, p3]
  refine tK (.bool true) ?_
  try simp only [pA, pB, p1, p2, p3]
  refine sK ?_
  try simp only [pA, pB, p1, p2, p3]
  refine sK ?_
  try simp only [pA, pB, p1, p2, p3]
  refine tK (.bool true) ?_
  try simp only [pA, pB, p1, p2, p3]
  refine tK (.bool true) ?_
  try simp only [pA, pB, p1, p2, p3]
  refine WL.nil ?_
  try simp only [pA, pB, p1, p2, p3]
  go_upto_region 1 with fail
  refine WL.start ?_
  refine tK (.pointer (some ⟨g, 0, none⟩)) ?_
  try simp only [pA, pB, p1, p2, p3]
  refine tK (.pointer (some ⟨g, 0, none⟩)) ?_
  try simp only [pA, pB, p1, p2, p3]
  refine tK (.pointer (some ⟨g, 0, none⟩)) ?_
  try simp only [pA, pB, p1, p2, p3]
  refine tW (.int .i64 1) (exec_load 3 _ rfl ⟨g, 0, none⟩ (by kernel_rfl) (.int .i64 1) (load_one (HB.out.cell 0) U3 rfl)) ?_
  try simp only [pA, pB, p1, p2, p3]
  refine WL.nil ?_
  try simp only [pA, pB, p1, p2, p3]
  go_upto_region 2 with fail
  refine WL.start ?_
  refine tK (.bool false) ?_
  try simp only [pA, pB, p1, p2, p3]
  refine tK (.bool false) ?_
  try simp only [pA, pB, p1, p2, p3]
  refine WL.nil ?_
  try simp only [pA, pB, p1, p2, p3]
  go_upto_region 10 with fail
  refine WL.start ?_
  refine tK (.bool true) ?_
  try simp only [pA, pB, p1, p2, p3]
  refine tK (.bool true) ?_
  try simp only [pA, pB, p1, p2, p3]
  refine WL.nil ?_
  try simp only [pA, pB, p1, p2, p3]
  go_upto_region 12 with fail
  refine WL.start ?_
  refine tK (.bool true) ?_
  try simp only [pA, pB, p1, p2, p3]
  refine tK (.bool true) ?_
  try simp only [pA, pB, p1, p2, p3]
  refine WL.nil ?_
  try simp only [pA, pB, p1, p2, p3]
  go_upto_region 13 with fail
  refine WL.start ?_
  refine tK (.pointer (some ⟨g, 0, none⟩)) ?_
  try simp only [pA, pB, p1, p2, p3]
  refine wp_callW 21 #[.pointer (some ⟨g, 0, none⟩), .int .i64 0] (by kernel_rfl) _ (ends_any n0 g ⟨1, word, ws, dg, false⟩ 0 w ⟨_, _, _, _, HB.out, HW.out, HY.out, Nat.le_trans HL.out HK.out.size⟩ HWd.out HBd.out) (by kernel_rfl) ?_
  rintro e W9 ⟨rfl, hc9, hk9⟩
  have HCe : Hid (RdA n0 W9 g (endS ⟨1, word, ws, dg, false⟩ 0)) := hc9
  have HKe : Hid (Kept (Sg n0 g) w W9) := HK.out.then hk9
  clear hc9 hk9
  refine ⟨.tuple #[], rfl, ?_⟩
  try simp only [pA, pB, p1, p2, p3]
  refine WL.nil ?_
  try simp only [pA, pB, p1, p2, p3]
  go_wp2
  go_end0
  rw [HC.out]
  exact ⟨rfl, by rw [HS.out]; exact HCe.out, HKe.out⟩
set_option maxRecDepth 100000 in
set_option maxHeartbeats 4000000 in
theorem nx_1t (n0 g : Nat) (word : List UInt8) (ws : List (List UInt8)) (dg : Int) (c : UInt8) (w : World) (hcut : RdA n0 w g ⟨1, word, ws, dg, false⟩) (hws : ws.length ≤ 1000000000000) (hbt : word.length ≤ 1000000000000) (h32 : bi c ≠ 32) (h9 : bi c = 9)  : Calls Try.prog 20 #[.pointer (some ⟨g, 0, none⟩), .int .u8 (bi c)] w (PostR n0 g (nextS ⟨1, word, ws, dg, false⟩ c) w) := by
  obtain ⟨C, hC⟩ : ∃ C : Ending → World → Prop, C = (PostR n0 g (nextS ⟨1, word, ws, dg, false⟩ c) w) := ⟨_, rfl⟩
  have HC : Hid (C = (PostR n0 g (nextS ⟨1, word, ws, dg, false⟩ c) w)) := hC
  rw [← hC]
  clear hC
  have e32 : (bi c == 32) = false := by simp [h32]
  have e9 : (bi c == 9) = true := by simp [h9]
  have hbl : isB (bi c) = true := by unfold isB; simp [e32, e9]
  have HS : Hid (nextS ⟨1, word, ws, dg, false⟩ c = endS ⟨1, word, ws, dg, false⟩ 0) := by show _ = _; unfold nextS; simp [h32, h9, hbl, isB32, isB9, isB34, isB35, endS]
  clear h32 h9
  clear hbl
  obtain ⟨wa, wc, ba, bc, hC0⟩ := hcut
  have HB : Hid (Box w g 46 #[.int .i64 1, .slice ba word.length bc, .slice wa ws.length wc, .int .i64 dg, .bool false]) := hC0.box
  have HW : Hid (Own 9 1 w n0 wa wc ws.length (ws.map strV)) := hC0.hw
  have HY : Hid (Own 5 1 w n0 ba bc word.length (word.map u8V)) := hC0.hb
  have HL : Hid (n0 ≤ w.heap.size) := hC0.hn
  have HWd : Hid (ws.length ≤ 1000000000000) := hws
  have HBd : Hid (word.length ≤ 1000000000000) := hbt
  have HK : Hid (Kept (Sg n0 g) w w) := Kept.refl _ _
  clear hC0 hws hbt
  go_enter Try.func20, Try.ntmps20
  go_upto_region 0 with fail
  refine WL.start ?_
  refine tK (.int .u8 (bi c)) ?_
  try simp only [pA, pB, p1, p2, p3]
  refine tW (.bool false) (exec_bin .eql 5 _ _ _ rfl (.int .u8 (bi c)) (.int .u8 32) (.bool false) (by kernel_rfl) (by kernel_rfl) (by kernel_rfl) (by rw [b_eq5, e32])) ?_
  try simp only [pA, pB, p1, p2, p3]
  refine tK (.bool false) ?_
  try simp only [pA, pB, p1, p2, p3]
  refine tK (.int .u8 (bi c)) ?_
  try simp only [pA, pB, p1, p2, p3]
  refine tW (.bool true) (exec_bin .eql 5 _ _ _ rfl (.int .u8 (bi c)) (.int .u8 9) (.bool true) (by kernel_rfl) (by kernel_rfl) (by kernel_rfl) (by rw [b_eq5, e9])) ?_
  try simp only [pA, pB, p1, p2, p3]
  refine tK (.bool true) ?_
  try simp only [pA, pB, p1, p2, p3]
  refine tK (.bool true) ?_
  try simp only [pA, pB, p1, p2, p3]
  refine WL.nil ?_
  try simp only [pA, pB, p1, p2, p3]
  go_upto_region 1 with fail
  refine WL.start ?_
  refine tK (.pointer (some ⟨g, 0, none⟩)) ?_
  try simp only [pA, pB, p1, p2, p3]
  refine tK (.pointer (some ⟨g, 0, none⟩)) ?_
  try simp only [pA, pB, p1, p2, p3]
  refine tK (.pointer (some ⟨g, 0, none⟩)) ?_
  try simp only [pA, pB, p1, p2, p3]
  refine tW (.int .i64 1) (exec_load 3 _ rfl ⟨g, 0, none⟩ (by kernel_rfl) (.int .i64 1) (load_one (HB.out.cell 0) U3 rfl)) ?_
  try simp only [pA, pB, p1, p2, p3]
  refine WL.nil ?_
  try simp only [pA, pB, p1, p2, p3]
  go_upto_region 2 with fail
  refine WL.start ?_
  refine tK (.bool false) ?_
  try simp only [pA, pB, p1, p2, p3]
  refine tK (.bool false) ?_
  try simp only [pA, pB, p1, p2, p3]
  refine WL.nil ?_
  try simp only [pA, pB, p1, p2, p3]
  go_upto_region 10 with fail
  refine WL.start ?_
  refine tK (.bool true) ?_
  try simp only [pA, pB, p1, p2, p3]
  refine tK (.bool true) ?_
  try simp only [pA, pB, p1, p2, p3]
  refine WL.nil ?_
  try simp only [pA, pB, p1, p2, p3]
  go_upto_region 12 with fail
  refine WL.start ?_
  refine tK (.bool true) ?_
  try simp only [pA, pB, p1, p2, p3]
  refine tK (.bool true) ?_
  try simp only [pA, pB, p1, p2, p3]
  refine WL.nil ?_
  try simp only [pA, pB, p1, p2, p3]
  go_upto_region 13 with fail
  refine WL.start ?_
  refine tK (.pointer (some ⟨g, 0, none⟩)) ?_
  try simp only [pA, pB, p1, p2, p3]
  refine wp_callW 21 #[.pointer (some ⟨g, 0, none⟩), .int .i64 0] (by kernel_rfl) _ (ends_any n0 g ⟨1, word, ws, dg, false⟩ 0 w ⟨_, _, _, _, HB.out, HW.out, HY.out, Nat.le_trans HL.out HK.out.size⟩ HWd.out HBd.out) (by kernel_rfl) ?_
  rintro e W9 ⟨rfl, hc9, hk9⟩
  have HCe : Hid (RdA n0 W9 g (endS ⟨1, word, ws, dg, false⟩ 0)) := hc9
  have HKe : Hid (Kept (Sg n0 g) w W9) := HK.out.then hk9
  clear hc9 hk9
  refine ⟨.tuple #[], rfl, ?_⟩
  try simp only [pA, pB, p1, p2, p3]
  refine WL.nil ?_
  try simp only [pA, pB, p1, p2, p3]
  go_wp2
  go_end0
  rw [HC.out]
  exact ⟨rfl, by rw [HS.out]; exact HCe.out, HKe.out⟩
set_option maxRecDepth 100000 in
set_option maxHeartbeats 4000000 in
theorem nx_1q (n0 g : Nat) (word : List UInt8) (ws : List (List UInt8)) (dg : Int) (c : UInt8) (w : World) (hcut : RdA n0 w g ⟨1, word, ws, dg, false⟩) (hws : ws.length ≤ 1000000000000) (hbt : word.length ≤ 1000000000000) (h32 : bi c ≠ 32) (h9 : bi c ≠ 9) (h34 : bi c = 34)  : Calls Try.prog 20 #[.pointer (some ⟨g, 0, none⟩), .int .u8 (bi c)] w (PostR n0 g (nextS ⟨1, word, ws, dg, false⟩ c) w) := by
  obtain ⟨C, hC⟩ : ∃ C : Ending → World → Prop, C = (PostR n0 g (nextS ⟨1, word, ws, dg, false⟩ c) w) := ⟨_, rfl⟩
  have HC : Hid (C = (PostR n0 g (nextS ⟨1, word, ws, dg, false⟩ c) w)) := hC
  rw [← hC]
  clear hC
  have e32 : (bi c == 32) = false := by simp [h32]
  have e9 : (bi c == 9) = false := by simp [h9]
  have e34 : (bi c == 34) = true := by simp [h34]
  have hbl : isB (bi c) = false := isB_of e32 e9
  have HS : Hid (nextS ⟨1, word, ws, dg, false⟩ c = ⟨1, word, ws, dg, true⟩) := by show _ = _; unfold nextS; simp [h32, h9, h34, hbl, isB32, isB9, isB34, isB35]
  clear h32 h9 h34
  clear hbl
  obtain ⟨wa, wc, ba, bc, hC0⟩ := hcut
  have HB : Hid (Box w g 46 #[.int .i64 1, .slice ba word.length bc, .slice wa ws.length wc, .int .i64 dg, .bool false]) := hC0.box
  have HW : Hid (Own 9 1 w n0 wa wc ws.length (ws.map strV)) := hC0.hw
  have HY : Hid (Own 5 1 w n0 ba bc word.length (word.map u8V)) := hC0.hb
  have HL : Hid (n0 ≤ w.heap.size) := hC0.hn
  have HWd : Hid (ws.length ≤ 1000000000000) := hws
  have HBd : Hid (word.length ≤ 1000000000000) := hbt
  have HK : Hid (Kept (Sg n0 g) w w) := Kept.refl _ _
  clear hC0 hws hbt
  go_enter Try.func20, Try.ntmps20
  go_upto_region 0 with fail
  refine WL.start ?_
  refine tK (.int .u8 (bi c)) ?_
  try simp only [pA, pB, p1, p2, p3]
  refine tW (.bool false) (exec_bin .eql 5 _ _ _ rfl (.int .u8 (bi c)) (.int .u8 32) (.bool false) (by kernel_rfl) (by kernel_rfl) (by kernel_rfl) (by rw [b_eq5, e32])) ?_
  try simp only [pA, pB, p1, p2, p3]
  refine tK (.bool false) ?_
  try simp only [pA, pB, p1, p2, p3]
  refine tK (.int .u8 (bi c)) ?_
  try simp only [pA, pB, p1, p2, p3]
  refine tW (.bool false) (exec_bin .eql 5 _ _ _ rfl (.int .u8 (bi c)) (.int .u8 9) (.bool false) (by kernel_rfl) (by kernel_rfl) (by kernel_rfl) (by rw [b_eq5, e9])) ?_
  try simp only [pA, pB, p1, p2, p3]
  refine tK (.bool false) ?_
  try simp only [pA, pB, p1, p2, p3]
  refine tK (.bool false) ?_
  try simp only [pA, pB, p1, p2, p3]
  refine WL.nil ?_
  try simp only [pA, pB, p1, p2, p3]
  go_upto_region 1 with fail
  refine WL.start ?_
  refine tK (.pointer (some ⟨g, 0, none⟩)) ?_
  try simp only [pA, pB, p1, p2, p3]
  refine tK (.pointer (some ⟨g, 0, none⟩)) ?_
  try simp only [pA, pB, p1, p2, p3]
  refine tK (.pointer (some ⟨g, 0, none⟩)) ?_
  try simp only [pA, pB, p1, p2, p3]
  refine tW (.int .i64 1) (exec_load 3 _ rfl ⟨g, 0, none⟩ (by kernel_rfl) (.int .i64 1) (load_one (HB.out.cell 0) U3 rfl)) ?_
  try simp only [pA, pB, p1, p2, p3]
  refine WL.nil ?_
  try simp only [pA, pB, p1, p2, p3]
  go_upto_region 2 with fail
  refine WL.start ?_
  refine tK (.bool false) ?_
  try simp only [pA, pB, p1, p2, p3]
  refine tK (.bool false) ?_
  try simp only [pA, pB, p1, p2, p3]
  refine WL.nil ?_
  try simp only [pA, pB, p1, p2, p3]
  go_upto_region 10 with fail
  refine WL.start ?_
  refine tK (.bool true) ?_
  try simp only [pA, pB, p1, p2, p3]
  refine tK (.bool true) ?_
  try simp only [pA, pB, p1, p2, p3]
  refine WL.nil ?_
  try simp only [pA, pB, p1, p2, p3]
  go_upto_region 12 with fail
  refine WL.start ?_
  refine tK (.bool false) ?_
  try simp only [pA, pB, p1, p2, p3]
  refine tK (.bool false) ?_
  try simp only [pA, pB, p1, p2, p3]
  refine WL.nil ?_
  try simp only [pA, pB, p1, p2, p3]
  go_upto_region 14 with fail
  refine WL.start ?_
  refine tK (.int .u8 (bi c)) ?_
  try simp only [pA, pB, p1, p2, p3]
  refine tW (.bool true) (exec_bin .eql 5 _ _ _ rfl (.int .u8 (bi c)) (.int .u8 34) (.bool true) (by kernel_rfl) (by kernel_rfl) (by kernel_rfl) (by rw [b_eq5, e34])) ?_
  try simp only [pA, pB, p1, p2, p3]
  refine tK (.bool true) ?_
  try simp only [pA, pB, p1, p2, p3]
  refine WL.nil ?_
  try simp only [pA, pB, p1, p2, p3]
  go_upto_region 15 with fail
  refine WL.start ?_
  refine tK (.pointer (some ⟨g, 0, none⟩)) ?_
  try simp only [pA, pB, p1, p2, p3]
  refine tK (.pointer (some ⟨g, 0, none⟩)) ?_
  try simp only [pA, pB, p1, p2, p3]
  refine tK (.pointer (some ⟨g, 4, none⟩)) ?_
  try simp only [pA, pB, p1, p2, p3]
  have hst : (storeVar 4 ⟨g, 4, none⟩ (.bool true)).run Try.prog w = .ok () (w.setRow g #[.int .i64 1, .slice ba word.length bc, .slice wa ws.length wc, .int .i64 dg, .bool true]) := run_store_to (cur := [.int .i64 1, .slice ba word.length bc, .slice wa ws.length wc, .int .i64 dg, .bool false]) (vs := [.bool true]) (new := [.int .i64 1, .slice ba word.length bc, .slice wa ws.length wc, .int .i64 dg, .bool true]) HB.out (by kernel_rfl) S4 (Nat.le_of_ble_eq_true (by kernel_rfl)) (by simp [Value.oneCell', strV, u8V]) (by kernel_rfl)
  have HW : Hid (Own 9 1 (w.setRow g #[.int .i64 1, .slice ba word.length bc, .slice wa ws.length wc, .int .i64 dg, .bool true]) n0 wa wc ws.length (ws.map strV)) := HW.out.kept (Kept.setRow _ _ _) (HW.out.notBox HB.out (by decide))
  have HY : Hid (Own 5 1 (w.setRow g #[.int .i64 1, .slice ba word.length bc, .slice wa ws.length wc, .int .i64 dg, .bool true]) n0 ba bc word.length (word.map u8V)) := HY.out.kept (Kept.setRow _ _ _) (HY.out.notBox HB.out (by decide))
  have HK : Hid (Kept (Sg n0 g) w (w.setRow g #[.int .i64 1, .slice ba word.length bc, .slice wa ws.length wc, .int .i64 dg, .bool true])) := HK.out.inRow (S := Sg n0 g) (Or.inl rfl) _
  have HB : Hid (Box (w.setRow g #[.int .i64 1, .slice ba word.length bc, .slice wa ws.length wc, .int .i64 dg, .bool true]) g 46 #[.int .i64 1, .slice ba word.length bc, .slice wa ws.length wc, .int .i64 dg, .bool true]) := HB.out.setRow _
  refine wp_storeW 4 _ _ rfl ⟨g, 4, none⟩ (.bool true) (by kernel_rfl) (by kernel_rfl) (w.setRow g #[.int .i64 1, .slice ba word.length bc, .slice wa ws.length wc, .int .i64 dg, .bool true]) hst (by kernel_rfl) ?_
  try simp only [pA, pB, p1, p2, p3]
  clear hst
  generalize w.setRow g #[.int .i64 1, .slice ba word.length bc, .slice wa ws.length wc, .int .i64 dg, .bool true] = wk1 at HW HY HK HB ⊢
  refine WL.nil ?_
  try simp only [pA, pB, p1, p2, p3]
  go_wp2
  go_end0
  rw [HC.out]
  exact ⟨rfl, by rw [HS.out]; exact RdA.of _ HB.out HW.out HY.out (Nat.le_trans HL.out HK.out.size) (by simp) (by simp [strV]) (by simp) (by simp) (by simp) (by simp [u8V, bi]) (by simp), HK.out⟩
set_option maxRecDepth 100000 in
set_option maxHeartbeats 4000000 in
theorem nx_1p (n0 g : Nat) (word : List UInt8) (ws : List (List UInt8)) (dg : Int) (c : UInt8) (w : World) (hcut : RdA n0 w g ⟨1, word, ws, dg, false⟩) (hws : ws.length ≤ 1000000000000) (hbt : word.length ≤ 1000000000000) (h32 : bi c ≠ 32) (h9 : bi c ≠ 9) (h34 : bi c ≠ 34)  : Calls Try.prog 20 #[.pointer (some ⟨g, 0, none⟩), .int .u8 (bi c)] w (PostR n0 g (nextS ⟨1, word, ws, dg, false⟩ c) w) := by
  obtain ⟨C, hC⟩ : ∃ C : Ending → World → Prop, C = (PostR n0 g (nextS ⟨1, word, ws, dg, false⟩ c) w) := ⟨_, rfl⟩
  have HC : Hid (C = (PostR n0 g (nextS ⟨1, word, ws, dg, false⟩ c) w)) := hC
  rw [← hC]
  clear hC
  have e32 : (bi c == 32) = false := by simp [h32]
  have e9 : (bi c == 9) = false := by simp [h9]
  have e34 : (bi c == 34) = false := by simp [h34]
  have hbl : isB (bi c) = false := isB_of e32 e9
  have HS : Hid (nextS ⟨1, word, ws, dg, false⟩ c = ⟨1, word ++ [c], ws, dg, false⟩) := by show _ = _; unfold nextS; simp [h32, h9, h34, hbl, isB32, isB9, isB34, isB35]
  clear h32 h9 h34
  clear hbl
  obtain ⟨wa, wc, ba, bc, hC0⟩ := hcut
  have HB : Hid (Box w g 46 #[.int .i64 1, .slice ba word.length bc, .slice wa ws.length wc, .int .i64 dg, .bool false]) := hC0.box
  have HW : Hid (Own 9 1 w n0 wa wc ws.length (ws.map strV)) := hC0.hw
  have HY : Hid (Own 5 1 w n0 ba bc word.length (word.map u8V)) := hC0.hb
  have HL : Hid (n0 ≤ w.heap.size) := hC0.hn
  have HWd : Hid (ws.length ≤ 1000000000000) := hws
  have HBd : Hid (word.length ≤ 1000000000000) := hbt
  have HK : Hid (Kept (Sg n0 g) w w) := Kept.refl _ _
  clear hC0 hws hbt
  go_enter Try.func20, Try.ntmps20
  go_upto_region 0 with fail
  refine WL.start ?_
  refine tK (.int .u8 (bi c)) ?_
  try simp only [pA, pB, p1, p2, p3]
  refine tW (.bool false) (exec_bin .eql 5 _ _ _ rfl (.int .u8 (bi c)) (.int .u8 32) (.bool false) (by kernel_rfl) (by kernel_rfl) (by kernel_rfl) (by rw [b_eq5, e32])) ?_
  try simp only [pA, pB, p1, p2, p3]
  refine tK (.bool false) ?_
  try simp only [pA, pB, p1, p2, p3]
  refine tK (.int .u8 (bi c)) ?_
  try simp only [pA, pB, p1, p2, p3]
  refine tW (.bool false) (exec_bin .eql 5 _ _ _ rfl (.int .u8 (bi c)) (.int .u8 9) (.bool false) (by kernel_rfl) (by kernel_rfl) (by kernel_rfl) (by rw [b_eq5, e9])) ?_
  try simp only [pA, pB, p1, p2, p3]
  refine tK (.bool false) ?_
  try simp only [pA, pB, p1, p2, p3]
  refine tK (.bool false) ?_
  try simp only [pA, pB, p1, p2, p3]
  refine WL.nil ?_
  try simp only [pA, pB, p1, p2, p3]
  go_upto_region 1 with fail
  refine WL.start ?_
  refine tK (.pointer (some ⟨g, 0, none⟩)) ?_
  try simp only [pA, pB, p1, p2, p3]
  refine tK (.pointer (some ⟨g, 0, none⟩)) ?_
  try simp only [pA, pB, p1, p2, p3]
  refine tK (.pointer (some ⟨g, 0, none⟩)) ?_
  try simp only [pA, pB, p1, p2, p3]
  refine tW (.int .i64 1) (exec_load 3 _ rfl ⟨g, 0, none⟩ (by kernel_rfl) (.int .i64 1) (load_one (HB.out.cell 0) U3 rfl)) ?_
  try simp only [pA, pB, p1, p2, p3]
  refine WL.nil ?_
  try simp only [pA, pB, p1, p2, p3]
  go_upto_region 2 with fail
  refine WL.start ?_
  refine tK (.bool false) ?_
  try simp only [pA, pB, p1, p2, p3]
  refine tK (.bool false) ?_
  try simp only [pA, pB, p1, p2, p3]
  refine WL.nil ?_
  try simp only [pA, pB, p1, p2, p3]
  go_upto_region 10 with fail
  refine WL.start ?_
  refine tK (.bool true) ?_
  try simp only [pA, pB, p1, p2, p3]
  refine tK (.bool true) ?_
  try simp only [pA, pB, p1, p2, p3]
  refine WL.nil ?_
  try simp only [pA, pB, p1, p2, p3]
  go_upto_region 12 with fail
  refine WL.start ?_
  refine tK (.bool false) ?_
  try simp only [pA, pB, p1, p2, p3]
  refine tK (.bool false) ?_
  try simp only [pA, pB, p1, p2, p3]
  refine WL.nil ?_
  try simp only [pA, pB, p1, p2, p3]
  go_upto_region 14 with fail
  refine WL.start ?_
  refine tK (.int .u8 (bi c)) ?_
  try simp only [pA, pB, p1, p2, p3]
  refine tW (.bool false) (exec_bin .eql 5 _ _ _ rfl (.int .u8 (bi c)) (.int .u8 34) (.bool false) (by kernel_rfl) (by kernel_rfl) (by kernel_rfl) (by rw [b_eq5, e34])) ?_
  try simp only [pA, pB, p1, p2, p3]
  refine tK (.bool false) ?_
  try simp only [pA, pB, p1, p2, p3]
  refine WL.nil ?_
  try simp only [pA, pB, p1, p2, p3]
  go_upto_region 11 with fail
  refine WL.start ?_
  refine tK (.pointer (some ⟨g, 0, none⟩)) ?_
  try simp only [pA, pB, p1, p2, p3]
  refine tK (.pointer (some ⟨g, 0, none⟩)) ?_
  try simp only [pA, pB, p1, p2, p3]
  refine tK (.pointer (some ⟨g, 0, none⟩)) ?_
  try simp only [pA, pB, p1, p2, p3]
  refine tK (.pointer (some ⟨g, 1, none⟩)) ?_
  try simp only [pA, pB, p1, p2, p3]
  refine tW (.slice ba word.length bc) (exec_load 30 _ rfl ⟨g, 1, none⟩ (by kernel_rfl) (.slice ba word.length bc) (load_one (HB.out.cell 1) U30 rfl)) ?_
  try simp only [pA, pB, p1, p2, p3]
  refine tK (.int .u8 (bi c)) ?_
  try simp only [pA, pB, p1, p2, p3]
  have HW : Hid (Own 9 1 (w.alloc (.cells [.int .u8 (bi c)].toArray 5)) n0 wa wc ws.length (ws.map strV)) := HW.out.no ((Kept.refl No _).alloc _)
  have HY : Hid (Own 5 1 (w.alloc (.cells [.int .u8 (bi c)].toArray 5)) n0 ba bc word.length (word.map u8V)) := HY.out.no ((Kept.refl No _).alloc _)
  have HK : Hid (Kept (Sg n0 g) w (w.alloc (.cells [.int .u8 (bi c)].toArray 5))) := HK.out.alloc _
  have HB : Hid (Box (w.alloc (.cells [.int .u8 (bi c)].toArray 5)) g 46 #[.int .i64 1, .slice ba word.length bc, .slice wa ws.length wc, .int .i64 dg, .bool false]) := HB.out.alloc _
  have HX : Hid (Box (w.alloc (.cells [.int .u8 (bi c)].toArray 5)) w.heap.size 5 [.int .u8 (bi c)].toArray) := Box.new _ _ _
  refine wp_runW (.slice (some ⟨w.heap.size, 0, none⟩) 1 1) (w.alloc (.cells [.int .u8 (bi c)].toArray 5)) (exec_built (by kernel_rfl)) (by kernel_rfl) ?_
  try simp only [pA, pB, p1, p2, p3]
  generalize w.alloc (.cells [.int .u8 (bi c)].toArray 5) = wk1 at HW HY HK HX HB ⊢
  generalize w.heap.size = gk2 at HX ⊢
  obtain ⟨a_2, c_2, w_2, hrun, ho, hc⟩ := run_app 30 5 1 _ U30 I5 rfl HY.out 30 ⟨gk2, 0, none⟩ 1 1 [.int .u8 (bi c)] rfl (box_news HX.out) (by simp [Value.oneCell', strV, u8V]) (by have h2 := HBd.out; have h3 := HWd.out; omega) (by have h2 := HBd.out; have h3 := HWd.out; omega) (Nat.le_trans HL.out HK.out.size)
  clear HX
  have HW : Hid (Own 9 1 w_2 n0 wa wc ws.length (ws.map strV)) := HW.out.kept hc (own_apart HW.out HY.out (by decide))
  have HK : Hid (Kept (Sg n0 g) w w_2) := HK.out.trans hc (fun _ e => e) (fun _ _ e => Or.inr (HY.out.base e))
  have HB : Hid (Box w_2 g 46 #[.int .i64 1, .slice ba word.length bc, .slice wa ws.length wc, .int .i64 dg, .bool false]) := HB.out.kept hc (HY.out.offBox HB.out (by decide))
  have HY : Hid (Own 5 1 w_2 n0 a_2 c_2 (word.length + 1) (word.map u8V ++ [.int .u8 (bi c)])) := ho
  refine wp_runW (.slice a_2 (word.length + 1) c_2) (w_2) (exec_app _ _ 30 30 rfl _ _ _ (by kernel_rfl) (by kernel_rfl) hrun) (by kernel_rfl) ?_
  try simp only [pA, pB, p1, p2, p3]
  clear hrun ho hc
  refine tK (.pointer (some ⟨g, 0, none⟩)) ?_
  try simp only [pA, pB, p1, p2, p3]
  refine tK (.pointer (some ⟨g, 1, none⟩)) ?_
  try simp only [pA, pB, p1, p2, p3]
  have hst : (storeVar 30 ⟨g, 1, none⟩ (.slice a_2 (word.length + 1) c_2)).run Try.prog w_2 = .ok () (w_2.setRow g #[.int .i64 1, .slice a_2 (word.length + 1) c_2, .slice wa ws.length wc, .int .i64 dg, .bool false]) := run_store_to (cur := [.int .i64 1, .slice ba word.length bc, .slice wa ws.length wc, .int .i64 dg, .bool false]) (vs := [.slice a_2 (word.length + 1) c_2]) (new := [.int .i64 1, .slice a_2 (word.length + 1) c_2, .slice wa ws.length wc, .int .i64 dg, .bool false]) HB.out (by kernel_rfl) S30 (Nat.le_of_ble_eq_true (by kernel_rfl)) (by simp [Value.oneCell', strV, u8V]) (by kernel_rfl)
  have HW : Hid (Own 9 1 (w_2.setRow g #[.int .i64 1, .slice a_2 (word.length + 1) c_2, .slice wa ws.length wc, .int .i64 dg, .bool false]) n0 wa wc ws.length (ws.map strV)) := HW.out.kept (Kept.setRow _ _ _) (HW.out.notBox HB.out (by decide))
  have HY : Hid (Own 5 1 (w_2.setRow g #[.int .i64 1, .slice a_2 (word.length + 1) c_2, .slice wa ws.length wc, .int .i64 dg, .bool false]) n0 a_2 c_2 (word.length + 1) (word.map u8V ++ [.int .u8 (bi c)])) := HY.out.kept (Kept.setRow _ _ _) (HY.out.notBox HB.out (by decide))
  have HK : Hid (Kept (Sg n0 g) w (w_2.setRow g #[.int .i64 1, .slice a_2 (word.length + 1) c_2, .slice wa ws.length wc, .int .i64 dg, .bool false])) := HK.out.inRow (S := Sg n0 g) (Or.inl rfl) _
  have HB : Hid (Box (w_2.setRow g #[.int .i64 1, .slice a_2 (word.length + 1) c_2, .slice wa ws.length wc, .int .i64 dg, .bool false]) g 46 #[.int .i64 1, .slice a_2 (word.length + 1) c_2, .slice wa ws.length wc, .int .i64 dg, .bool false]) := HB.out.setRow _
  refine wp_storeW 30 _ _ rfl ⟨g, 1, none⟩ (.slice a_2 (word.length + 1) c_2) (by kernel_rfl) (by kernel_rfl) (w_2.setRow g #[.int .i64 1, .slice a_2 (word.length + 1) c_2, .slice wa ws.length wc, .int .i64 dg, .bool false]) hst (by kernel_rfl) ?_
  try simp only [pA, pB, p1, p2, p3]
  clear hst
  generalize w_2.setRow g #[.int .i64 1, .slice a_2 (word.length + 1) c_2, .slice wa ws.length wc, .int .i64 dg, .bool false] = wk4 at HW HY HK HB ⊢
  refine WL.nil ?_
  try simp only [pA, pB, p1, p2, p3]
  go_wp2
  go_end0
  rw [HC.out]
  exact ⟨rfl, by rw [HS.out]; exact RdA.of _ HB.out HW.out HY.out (Nat.le_trans HL.out HK.out.size) (by simp) (by simp [strV]) (by simp) (by simp) (by simp) (by simp [u8V, bi]) (by simp), HK.out⟩
set_option maxRecDepth 100000 in
set_option maxHeartbeats 4000000 in
theorem nx_2q (n0 g : Nat) (word : List UInt8) (ws : List (List UInt8)) (dg : Int) (c : UInt8) (w : World) (hcut : RdA n0 w g ⟨2, word, ws, dg, false⟩) (hws : ws.length ≤ 1000000000000) (hbt : word.length ≤ 1000000000000) (h32 : bi c ≠ 32) (h9 : bi c ≠ 9) (h34 : bi c = 34)  : Calls Try.prog 20 #[.pointer (some ⟨g, 0, none⟩), .int .u8 (bi c)] w (PostR n0 g (nextS ⟨2, word, ws, dg, false⟩ c) w) := by
  obtain ⟨C, hC⟩ : ∃ C : Ending → World → Prop, C = (PostR n0 g (nextS ⟨2, word, ws, dg, false⟩ c) w) := ⟨_, rfl⟩
  have HC : Hid (C = (PostR n0 g (nextS ⟨2, word, ws, dg, false⟩ c) w)) := hC
  rw [← hC]
  clear hC
  have e32 : (bi c == 32) = false := by simp [h32]
  have e9 : (bi c == 9) = false := by simp [h9]
  have e34 : (bi c == 34) = true := by simp [h34]
  have HS : Hid (nextS ⟨2, word, ws, dg, false⟩ c = endS ⟨2, word, ws, dg, false⟩ 6) := by show _ = _; unfold nextS; simp [h32, h9, h34, endS]
  clear h32 h9 h34
  obtain ⟨wa, wc, ba, bc, hC0⟩ := hcut
  have HB : Hid (Box w g 46 #[.int .i64 2, .slice ba word.length bc, .slice wa ws.length wc, .int .i64 dg, .bool false]) := hC0.box
  have HW : Hid (Own 9 1 w n0 wa wc ws.length (ws.map strV)) := hC0.hw
  have HY : Hid (Own 5 1 w n0 ba bc word.length (word.map u8V)) := hC0.hb
  have HL : Hid (n0 ≤ w.heap.size) := hC0.hn
  have HWd : Hid (ws.length ≤ 1000000000000) := hws
  have HBd : Hid (word.length ≤ 1000000000000) := hbt
  have HK : Hid (Kept (Sg n0 g) w w) := Kept.refl _ _
  clear hC0 hws hbt
  go_enter Try.func20, Try.ntmps20
  go_upto_region 0 with fail
  refine WL.start ?_
  refine tK (.int .u8 (bi c)) ?_
  try simp only [pA, pB, p1, p2, p3]
  refine tW (.bool false) (exec_bin .eql 5 _ _ _ rfl (.int .u8 (bi c)) (.int .u8 32) (.bool false) (by kernel_rfl) (by kernel_rfl) (by kernel_rfl) (by rw [b_eq5, e32])) ?_
  try simp only [pA, pB, p1, p2, p3]
  refine tK (.bool false) ?_
  try simp only [pA, pB, p1, p2, p3]
  refine tK (.int .u8 (bi c)) ?_
  try simp only [pA, pB, p1, p2, p3]
  refine tW (.bool false) (exec_bin .eql 5 _ _ _ rfl (.int .u8 (bi c)) (.int .u8 9) (.bool false) (by kernel_rfl) (by kernel_rfl) (by kernel_rfl) (by rw [b_eq5, e9])) ?_
  try simp only [pA, pB, p1, p2, p3]
  refine tK (.bool false) ?_
  try simp only [pA, pB, p1, p2, p3]
  refine tK (.bool false) ?_
  try simp only [pA, pB, p1, p2, p3]
  refine WL.nil ?_
  try simp only [pA, pB, p1, p2, p3]
  go_upto_region 1 with fail
  refine WL.start ?_
  refine tK (.pointer (some ⟨g, 0, none⟩)) ?_
  try simp only [pA, pB, p1, p2, p3]
  refine tK (.pointer (some ⟨g, 0, none⟩)) ?_
  try simp only [pA, pB, p1, p2, p3]
  refine tK (.pointer (some ⟨g, 0, none⟩)) ?_
  try simp only [pA, pB, p1, p2, p3]
  refine tW (.int .i64 2) (exec_load 3 _ rfl ⟨g, 0, none⟩ (by kernel_rfl) (.int .i64 2) (load_one (HB.out.cell 0) U3 rfl)) ?_
  try simp only [pA, pB, p1, p2, p3]
  refine WL.nil ?_
  try simp only [pA, pB, p1, p2, p3]
  go_upto_region 2 with fail
  refine WL.start ?_
  refine tK (.bool false) ?_
  try simp only [pA, pB, p1, p2, p3]
  refine tK (.bool false) ?_
  try simp only [pA, pB, p1, p2, p3]
  refine WL.nil ?_
  try simp only [pA, pB, p1, p2, p3]
  go_upto_region 10 with fail
  refine WL.start ?_
  refine tK (.bool false) ?_
  try simp only [pA, pB, p1, p2, p3]
  refine tK (.bool false) ?_
  try simp only [pA, pB, p1, p2, p3]
  refine WL.nil ?_
  try simp only [pA, pB, p1, p2, p3]
  go_upto_region 16 with fail
  refine WL.start ?_
  refine tK (.bool true) ?_
  try simp only [pA, pB, p1, p2, p3]
  refine tK (.bool true) ?_
  try simp only [pA, pB, p1, p2, p3]
  refine WL.nil ?_
  try simp only [pA, pB, p1, p2, p3]
  go_upto_region 17 with fail
  refine WL.start ?_
  refine tK (.int .u8 (bi c)) ?_
  try simp only [pA, pB, p1, p2, p3]
  refine WL.nil ?_
  try simp only [pA, pB, p1, p2, p3]
  go_upto_region 19 with fail
  refine WL.start ?_
  refine tW (.bool true) (exec_bin .eql 5 _ _ _ rfl (.int .u8 (bi c)) (.int .u8 34) (.bool true) (by kernel_rfl) (by kernel_rfl) (by kernel_rfl) (by rw [b_eq5, e34])) ?_
  try simp only [pA, pB, p1, p2, p3]
  refine tK (.bool true) ?_
  try simp only [pA, pB, p1, p2, p3]
  refine WL.nil ?_
  try simp only [pA, pB, p1, p2, p3]
  go_upto_region 20 with fail
  refine WL.start ?_
  refine tK (.pointer (some ⟨g, 0, none⟩)) ?_
  try simp only [pA, pB, p1, p2, p3]
  refine wp_callW 21 #[.pointer (some ⟨g, 0, none⟩), .int .i64 6] (by kernel_rfl) _ (ends_any n0 g ⟨2, word, ws, dg, false⟩ 6 w ⟨_, _, _, _, HB.out, HW.out, HY.out, Nat.le_trans HL.out HK.out.size⟩ HWd.out HBd.out) (by kernel_rfl) ?_
  rintro e W9 ⟨rfl, hc9, hk9⟩
  have HCe : Hid (RdA n0 W9 g (endS ⟨2, word, ws, dg, false⟩ 6)) := hc9
  have HKe : Hid (Kept (Sg n0 g) w W9) := HK.out.then hk9
  clear hc9 hk9
  refine ⟨.tuple #[], rfl, ?_⟩
  try simp only [pA, pB, p1, p2, p3]
  refine WL.nil ?_
  try simp only [pA, pB, p1, p2, p3]
  go_wp2
  go_end0
  rw [HC.out]
  exact ⟨rfl, by rw [HS.out]; exact HCe.out, HKe.out⟩
set_option maxRecDepth 100000 in
set_option maxHeartbeats 4000000 in
theorem nx_2e (n0 g : Nat) (word : List UInt8) (ws : List (List UInt8)) (dg : Int) (c : UInt8) (w : World) (hcut : RdA n0 w g ⟨2, word, ws, dg, false⟩) (hws : ws.length ≤ 1000000000000) (hbt : word.length ≤ 1000000000000) (h32 : bi c ≠ 32) (h9 : bi c ≠ 9) (h34 : bi c ≠ 34) (h92 : bi c = 92)  : Calls Try.prog 20 #[.pointer (some ⟨g, 0, none⟩), .int .u8 (bi c)] w (PostR n0 g (nextS ⟨2, word, ws, dg, false⟩ c) w) := by
  obtain ⟨C, hC⟩ : ∃ C : Ending → World → Prop, C = (PostR n0 g (nextS ⟨2, word, ws, dg, false⟩ c) w) := ⟨_, rfl⟩
  have HC : Hid (C = (PostR n0 g (nextS ⟨2, word, ws, dg, false⟩ c) w)) := hC
  rw [← hC]
  clear hC
  have e32 : (bi c == 32) = false := by simp [h32]
  have e9 : (bi c == 9) = false := by simp [h9]
  have e34 : (bi c == 34) = false := by simp [h34]
  have e92 : (bi c == 92) = true := by simp [h92]
  have HS : Hid (nextS ⟨2, word, ws, dg, false⟩ c = ⟨3, word, ws, dg, false⟩) := by show _ = _; unfold nextS; simp [h32, h9, h34, h92]
  clear h32 h9 h34 h92
  obtain ⟨wa, wc, ba, bc, hC0⟩ := hcut
  have HB : Hid (Box w g 46 #[.int .i64 2, .slice ba word.length bc, .slice wa ws.length wc, .int .i64 dg, .bool false]) := hC0.box
  have HW : Hid (Own 9 1 w n0 wa wc ws.length (ws.map strV)) := hC0.hw
  have HY : Hid (Own 5 1 w n0 ba bc word.length (word.map u8V)) := hC0.hb
  have HL : Hid (n0 ≤ w.heap.size) := hC0.hn
  have HWd : Hid (ws.length ≤ 1000000000000) := hws
  have HBd : Hid (word.length ≤ 1000000000000) := hbt
  have HK : Hid (Kept (Sg n0 g) w w) := Kept.refl _ _
  clear hC0 hws hbt
  go_enter Try.func20, Try.ntmps20
  go_upto_region 0 with fail
  refine WL.start ?_
  refine tK (.int .u8 (bi c)) ?_
  try simp only [pA, pB, p1, p2, p3]
  refine tW (.bool false) (exec_bin .eql 5 _ _ _ rfl (.int .u8 (bi c)) (.int .u8 32) (.bool false) (by kernel_rfl) (by kernel_rfl) (by kernel_rfl) (by rw [b_eq5, e32])) ?_
  try simp only [pA, pB, p1, p2, p3]
  refine tK (.bool false) ?_
  try simp only [pA, pB, p1, p2, p3]
  refine tK (.int .u8 (bi c)) ?_
  try simp only [pA, pB, p1, p2, p3]
  refine tW (.bool false) (exec_bin .eql 5 _ _ _ rfl (.int .u8 (bi c)) (.int .u8 9) (.bool false) (by kernel_rfl) (by kernel_rfl) (by kernel_rfl) (by rw [b_eq5, e9])) ?_
  try simp only [pA, pB, p1, p2, p3]
  refine tK (.bool false) ?_
  try simp only [pA, pB, p1, p2, p3]
  refine tK (.bool false) ?_
  try simp only [pA, pB, p1, p2, p3]
  refine WL.nil ?_
  try simp only [pA, pB, p1, p2, p3]
  go_upto_region 1 with fail
  refine WL.start ?_
  refine tK (.pointer (some ⟨g, 0, none⟩)) ?_
  try simp only [pA, pB, p1, p2, p3]
  refine tK (.pointer (some ⟨g, 0, none⟩)) ?_
  try simp only [pA, pB, p1, p2, p3]
  refine tK (.pointer (some ⟨g, 0, none⟩)) ?_
  try simp only [pA, pB, p1, p2, p3]
  refine tW (.int .i64 2) (exec_load 3 _ rfl ⟨g, 0, none⟩ (by kernel_rfl) (.int .i64 2) (load_one (HB.out.cell 0) U3 rfl)) ?_
  try simp only [pA, pB, p1, p2, p3]
  refine WL.nil ?_
  try simp only [pA, pB, p1, p2, p3]
  go_upto_region 2 with fail
  refine WL.start ?_
  refine tK (.bool false) ?_
  try simp only [pA, pB, p1, p2, p3]
  refine tK (.bool false) ?_
  try simp only [pA, pB, p1, p2, p3]
  refine WL.nil ?_
  try simp only [pA, pB, p1, p2, p3]
  go_upto_region 10 with fail
  refine WL.start ?_
  refine tK (.bool false) ?_
  try simp only [pA, pB, p1, p2, p3]
  refine tK (.bool false) ?_
  try simp only [pA, pB, p1, p2, p3]
  refine WL.nil ?_
  try simp only [pA, pB, p1, p2, p3]
  go_upto_region 16 with fail
  refine WL.start ?_
  refine tK (.bool true) ?_
  try simp only [pA, pB, p1, p2, p3]
  refine tK (.bool true) ?_
  try simp only [pA, pB, p1, p2, p3]
  refine WL.nil ?_
  try simp only [pA, pB, p1, p2, p3]
  go_upto_region 17 with fail
  refine WL.start ?_
  refine tK (.int .u8 (bi c)) ?_
  try simp only [pA, pB, p1, p2, p3]
  refine WL.nil ?_
  try simp only [pA, pB, p1, p2, p3]
  go_upto_region 19 with fail
  refine WL.start ?_
  refine tW (.bool false) (exec_bin .eql 5 _ _ _ rfl (.int .u8 (bi c)) (.int .u8 34) (.bool false) (by kernel_rfl) (by kernel_rfl) (by kernel_rfl) (by rw [b_eq5, e34])) ?_
  try simp only [pA, pB, p1, p2, p3]
  refine tK (.bool false) ?_
  try simp only [pA, pB, p1, p2, p3]
  refine WL.nil ?_
  try simp only [pA, pB, p1, p2, p3]
  go_upto_region 21 with fail
  refine WL.start ?_
  refine tW (.bool true) (exec_bin .eql 5 _ _ _ rfl (.int .u8 (bi c)) (.int .u8 92) (.bool true) (by kernel_rfl) (by kernel_rfl) (by kernel_rfl) (by rw [b_eq5, e92])) ?_
  try simp only [pA, pB, p1, p2, p3]
  refine tK (.bool true) ?_
  try simp only [pA, pB, p1, p2, p3]
  refine WL.nil ?_
  try simp only [pA, pB, p1, p2, p3]
  go_upto_region 22 with fail
  refine WL.start ?_
  refine tK (.pointer (some ⟨g, 0, none⟩)) ?_
  try simp only [pA, pB, p1, p2, p3]
  refine tK (.pointer (some ⟨g, 0, none⟩)) ?_
  try simp only [pA, pB, p1, p2, p3]
  refine tK (.pointer (some ⟨g, 0, none⟩)) ?_
  try simp only [pA, pB, p1, p2, p3]
  have hst : (storeVar 3 ⟨g, 0, none⟩ (.int .i64 3)).run Try.prog w = .ok () (w.setRow g #[.int .i64 3, .slice ba word.length bc, .slice wa ws.length wc, .int .i64 dg, .bool false]) := run_store_to (cur := [.int .i64 2, .slice ba word.length bc, .slice wa ws.length wc, .int .i64 dg, .bool false]) (vs := [.int .i64 3]) (new := [.int .i64 3, .slice ba word.length bc, .slice wa ws.length wc, .int .i64 dg, .bool false]) HB.out (by kernel_rfl) S3 (Nat.le_of_ble_eq_true (by kernel_rfl)) (by simp [Value.oneCell', strV, u8V]) (by kernel_rfl)
  have HW : Hid (Own 9 1 (w.setRow g #[.int .i64 3, .slice ba word.length bc, .slice wa ws.length wc, .int .i64 dg, .bool false]) n0 wa wc ws.length (ws.map strV)) := HW.out.kept (Kept.setRow _ _ _) (HW.out.notBox HB.out (by decide))
  have HY : Hid (Own 5 1 (w.setRow g #[.int .i64 3, .slice ba word.length bc, .slice wa ws.length wc, .int .i64 dg, .bool false]) n0 ba bc word.length (word.map u8V)) := HY.out.kept (Kept.setRow _ _ _) (HY.out.notBox HB.out (by decide))
  have HK : Hid (Kept (Sg n0 g) w (w.setRow g #[.int .i64 3, .slice ba word.length bc, .slice wa ws.length wc, .int .i64 dg, .bool false])) := HK.out.inRow (S := Sg n0 g) (Or.inl rfl) _
  have HB : Hid (Box (w.setRow g #[.int .i64 3, .slice ba word.length bc, .slice wa ws.length wc, .int .i64 dg, .bool false]) g 46 #[.int .i64 3, .slice ba word.length bc, .slice wa ws.length wc, .int .i64 dg, .bool false]) := HB.out.setRow _
  refine wp_storeW 3 _ _ rfl ⟨g, 0, none⟩ (.int .i64 3) (by kernel_rfl) (by kernel_rfl) (w.setRow g #[.int .i64 3, .slice ba word.length bc, .slice wa ws.length wc, .int .i64 dg, .bool false]) hst (by kernel_rfl) ?_
  try simp only [pA, pB, p1, p2, p3]
  clear hst
  generalize w.setRow g #[.int .i64 3, .slice ba word.length bc, .slice wa ws.length wc, .int .i64 dg, .bool false] = wk1 at HW HY HK HB ⊢
  refine WL.nil ?_
  try simp only [pA, pB, p1, p2, p3]
  go_wp2
  go_end0
  rw [HC.out]
  exact ⟨rfl, by rw [HS.out]; exact RdA.of _ HB.out HW.out HY.out (Nat.le_trans HL.out HK.out.size) (by simp) (by simp [strV]) (by simp) (by simp) (by simp) (by simp [u8V, bi]) (by simp), HK.out⟩
set_option maxRecDepth 100000 in
set_option maxHeartbeats 4000000 in
theorem nx_2ps (n0 g : Nat) (word : List UInt8) (ws : List (List UInt8)) (dg : Int) (c : UInt8) (w : World) (hcut : RdA n0 w g ⟨2, word, ws, dg, false⟩) (hws : ws.length ≤ 1000000000000) (hbt : word.length ≤ 1000000000000) (h32 : bi c = 32) (h34 : bi c ≠ 34) (h92 : bi c ≠ 92)  : Calls Try.prog 20 #[.pointer (some ⟨g, 0, none⟩), .int .u8 (bi c)] w (PostR n0 g (nextS ⟨2, word, ws, dg, false⟩ c) w) := by
  obtain ⟨C, hC⟩ : ∃ C : Ending → World → Prop, C = (PostR n0 g (nextS ⟨2, word, ws, dg, false⟩ c) w) := ⟨_, rfl⟩
  have HC : Hid (C = (PostR n0 g (nextS ⟨2, word, ws, dg, false⟩ c) w)) := hC
  rw [← hC]
  clear hC
  have e32 : (bi c == 32) = true := by simp [h32]
  have e34 : (bi c == 34) = false := by simp [h34]
  have e92 : (bi c == 92) = false := by simp [h92]
  have HS : Hid (nextS ⟨2, word, ws, dg, false⟩ c = ⟨2, word ++ [c], ws, dg, false⟩) := by show _ = _; unfold nextS; simp [h32, h34, h92]
  clear h32 h34 h92
  obtain ⟨wa, wc, ba, bc, hC0⟩ := hcut
  have HB : Hid (Box w g 46 #[.int .i64 2, .slice ba word.length bc, .slice wa ws.length wc, .int .i64 dg, .bool false]) := hC0.box
  have HW : Hid (Own 9 1 w n0 wa wc ws.length (ws.map strV)) := hC0.hw
  have HY : Hid (Own 5 1 w n0 ba bc word.length (word.map u8V)) := hC0.hb
  have HL : Hid (n0 ≤ w.heap.size) := hC0.hn
  have HWd : Hid (ws.length ≤ 1000000000000) := hws
  have HBd : Hid (word.length ≤ 1000000000000) := hbt
  have HK : Hid (Kept (Sg n0 g) w w) := Kept.refl _ _
  clear hC0 hws hbt
  go_enter Try.func20, Try.ntmps20
  go_upto_region 0 with fail
  refine WL.start ?_
  refine tK (.int .u8 (bi c)) ?_
  try simp only [pA, pB, p1, p2, p3]
  refine tW (.bool true) (exec_bin .eql 5 _ _ _ rfl (.int .u8 (bi c)) (.int .u8 32) (.bool true) (by kernel_rfl) (by kernel_rfl) (by kernel_rfl) (by rw [b_eq5, e32])) ?_
  try simp only [pA, pB, p1, p2, p3]
  refine tK (.bool true) ?_
  try simp only [pA, pB, p1, p2, p3]
  refine sK ?_
  try simp only [pA, pB, p1, p2, p3]
  refine sK ?_
  try simp only [pA, pB, p1, p2, p3]
  refine tK (.bool true) ?_
  try simp only [pA, pB, p1, p2, p3]
  refine tK (.bool true) ?_
  try simp only [pA, pB, p1, p2, p3]
  refine WL.nil ?_
  try simp only [pA, pB, p1, p2, p3]
  go_upto_region 1 with fail
  refine WL.start ?_
  refine tK (.pointer (some ⟨g, 0, none⟩)) ?_
  try simp only [pA, pB, p1, p2, p3]
  refine tK (.pointer (some ⟨g, 0, none⟩)) ?_
  try simp only [pA, pB, p1, p2, p3]
  refine tK (.pointer (some ⟨g, 0, none⟩)) ?_
  try simp only [pA, pB, p1, p2, p3]
  refine tW (.int .i64 2) (exec_load 3 _ rfl ⟨g, 0, none⟩ (by kernel_rfl) (.int .i64 2) (load_one (HB.out.cell 0) U3 rfl)) ?_
  try simp only [pA, pB, p1, p2, p3]
  refine WL.nil ?_
  try simp only [pA, pB, p1, p2, p3]
  go_upto_region 2 with fail
  refine WL.start ?_
  refine tK (.bool false) ?_
  try simp only [pA, pB, p1, p2, p3]
  refine tK (.bool false) ?_
  try simp only [pA, pB, p1, p2, p3]
  refine WL.nil ?_
  try simp only [pA, pB, p1, p2, p3]
  go_upto_region 10 with fail
  refine WL.start ?_
  refine tK (.bool false) ?_
  try simp only [pA, pB, p1, p2, p3]
  refine tK (.bool false) ?_
  try simp only [pA, pB, p1, p2, p3]
  refine WL.nil ?_
  try simp only [pA, pB, p1, p2, p3]
  go_upto_region 16 with fail
  refine WL.start ?_
  refine tK (.bool true) ?_
  try simp only [pA, pB, p1, p2, p3]
  refine tK (.bool true) ?_
  try simp only [pA, pB, p1, p2, p3]
  refine WL.nil ?_
  try simp only [pA, pB, p1, p2, p3]
  go_upto_region 17 with fail
  refine WL.start ?_
  refine tK (.int .u8 (bi c)) ?_
  try simp only [pA, pB, p1, p2, p3]
  refine WL.nil ?_
  try simp only [pA, pB, p1, p2, p3]
  go_upto_region 19 with fail
  refine WL.start ?_
  refine tW (.bool false) (exec_bin .eql 5 _ _ _ rfl (.int .u8 (bi c)) (.int .u8 34) (.bool false) (by kernel_rfl) (by kernel_rfl) (by kernel_rfl) (by rw [b_eq5, e34])) ?_
  try simp only [pA, pB, p1, p2, p3]
  refine tK (.bool false) ?_
  try simp only [pA, pB, p1, p2, p3]
  refine WL.nil ?_
  try simp only [pA, pB, p1, p2, p3]
  go_upto_region 21 with fail
  refine WL.start ?_
  refine tW (.bool false) (exec_bin .eql 5 _ _ _ rfl (.int .u8 (bi c)) (.int .u8 92) (.bool false) (by kernel_rfl) (by kernel_rfl) (by kernel_rfl) (by rw [b_eq5, e92])) ?_
  try simp only [pA, pB, p1, p2, p3]
  refine tK (.bool false) ?_
  try simp only [pA, pB, p1, p2, p3]
  refine WL.nil ?_
  try simp only [pA, pB, p1, p2, p3]
  go_upto_region 18 with fail
  refine WL.start ?_
  refine tK (.pointer (some ⟨g, 0, none⟩)) ?_
  try simp only [pA, pB, p1, p2, p3]
  refine tK (.pointer (some ⟨g, 0, none⟩)) ?_
  try simp only [pA, pB, p1, p2, p3]
  refine tK (.pointer (some ⟨g, 0, none⟩)) ?_
  try simp only [pA, pB, p1, p2, p3]
  refine tK (.pointer (some ⟨g, 1, none⟩)) ?_
  try simp only [pA, pB, p1, p2, p3]
  refine tW (.slice ba word.length bc) (exec_load 30 _ rfl ⟨g, 1, none⟩ (by kernel_rfl) (.slice ba word.length bc) (load_one (HB.out.cell 1) U30 rfl)) ?_
  try simp only [pA, pB, p1, p2, p3]
  refine tK (.int .u8 (bi c)) ?_
  try simp only [pA, pB, p1, p2, p3]
  have HW : Hid (Own 9 1 (w.alloc (.cells [.int .u8 (bi c)].toArray 5)) n0 wa wc ws.length (ws.map strV)) := HW.out.no ((Kept.refl No _).alloc _)
  have HY : Hid (Own 5 1 (w.alloc (.cells [.int .u8 (bi c)].toArray 5)) n0 ba bc word.length (word.map u8V)) := HY.out.no ((Kept.refl No _).alloc _)
  have HK : Hid (Kept (Sg n0 g) w (w.alloc (.cells [.int .u8 (bi c)].toArray 5))) := HK.out.alloc _
  have HB : Hid (Box (w.alloc (.cells [.int .u8 (bi c)].toArray 5)) g 46 #[.int .i64 2, .slice ba word.length bc, .slice wa ws.length wc, .int .i64 dg, .bool false]) := HB.out.alloc _
  have HX : Hid (Box (w.alloc (.cells [.int .u8 (bi c)].toArray 5)) w.heap.size 5 [.int .u8 (bi c)].toArray) := Box.new _ _ _
  refine wp_runW (.slice (some ⟨w.heap.size, 0, none⟩) 1 1) (w.alloc (.cells [.int .u8 (bi c)].toArray 5)) (exec_built (by kernel_rfl)) (by kernel_rfl) ?_
  try simp only [pA, pB, p1, p2, p3]
  generalize w.alloc (.cells [.int .u8 (bi c)].toArray 5) = wk1 at HW HY HK HX HB ⊢
  generalize w.heap.size = gk2 at HX ⊢
  obtain ⟨a_2, c_2, w_2, hrun, ho, hc⟩ := run_app 30 5 1 _ U30 I5 rfl HY.out 30 ⟨gk2, 0, none⟩ 1 1 [.int .u8 (bi c)] rfl (box_news HX.out) (by simp [Value.oneCell', strV, u8V]) (by have h2 := HBd.out; have h3 := HWd.out; omega) (by have h2 := HBd.out; have h3 := HWd.out; omega) (Nat.le_trans HL.out HK.out.size)
  clear HX
  have HW : Hid (Own 9 1 w_2 n0 wa wc ws.length (ws.map strV)) := HW.out.kept hc (own_apart HW.out HY.out (by decide))
  have HK : Hid (Kept (Sg n0 g) w w_2) := HK.out.trans hc (fun _ e => e) (fun _ _ e => Or.inr (HY.out.base e))
  have HB : Hid (Box w_2 g 46 #[.int .i64 2, .slice ba word.length bc, .slice wa ws.length wc, .int .i64 dg, .bool false]) := HB.out.kept hc (HY.out.offBox HB.out (by decide))
  have HY : Hid (Own 5 1 w_2 n0 a_2 c_2 (word.length + 1) (word.map u8V ++ [.int .u8 (bi c)])) := ho
  refine wp_runW (.slice a_2 (word.length + 1) c_2) (w_2) (exec_app _ _ 30 30 rfl _ _ _ (by kernel_rfl) (by kernel_rfl) hrun) (by kernel_rfl) ?_
  try simp only [pA, pB, p1, p2, p3]
  clear hrun ho hc
  refine tK (.pointer (some ⟨g, 0, none⟩)) ?_
  try simp only [pA, pB, p1, p2, p3]
  refine tK (.pointer (some ⟨g, 1, none⟩)) ?_
  try simp only [pA, pB, p1, p2, p3]
  have hst : (storeVar 30 ⟨g, 1, none⟩ (.slice a_2 (word.length + 1) c_2)).run Try.prog w_2 = .ok () (w_2.setRow g #[.int .i64 2, .slice a_2 (word.length + 1) c_2, .slice wa ws.length wc, .int .i64 dg, .bool false]) := run_store_to (cur := [.int .i64 2, .slice ba word.length bc, .slice wa ws.length wc, .int .i64 dg, .bool false]) (vs := [.slice a_2 (word.length + 1) c_2]) (new := [.int .i64 2, .slice a_2 (word.length + 1) c_2, .slice wa ws.length wc, .int .i64 dg, .bool false]) HB.out (by kernel_rfl) S30 (Nat.le_of_ble_eq_true (by kernel_rfl)) (by simp [Value.oneCell', strV, u8V]) (by kernel_rfl)
  have HW : Hid (Own 9 1 (w_2.setRow g #[.int .i64 2, .slice a_2 (word.length + 1) c_2, .slice wa ws.length wc, .int .i64 dg, .bool false]) n0 wa wc ws.length (ws.map strV)) := HW.out.kept (Kept.setRow _ _ _) (HW.out.notBox HB.out (by decide))
  have HY : Hid (Own 5 1 (w_2.setRow g #[.int .i64 2, .slice a_2 (word.length + 1) c_2, .slice wa ws.length wc, .int .i64 dg, .bool false]) n0 a_2 c_2 (word.length + 1) (word.map u8V ++ [.int .u8 (bi c)])) := HY.out.kept (Kept.setRow _ _ _) (HY.out.notBox HB.out (by decide))
  have HK : Hid (Kept (Sg n0 g) w (w_2.setRow g #[.int .i64 2, .slice a_2 (word.length + 1) c_2, .slice wa ws.length wc, .int .i64 dg, .bool false])) := HK.out.inRow (S := Sg n0 g) (Or.inl rfl) _
  have HB : Hid (Box (w_2.setRow g #[.int .i64 2, .slice a_2 (word.length + 1) c_2, .slice wa ws.length wc, .int .i64 dg, .bool false]) g 46 #[.int .i64 2, .slice a_2 (word.length + 1) c_2, .slice wa ws.length wc, .int .i64 dg, .bool false]) := HB.out.setRow _
  refine wp_storeW 30 _ _ rfl ⟨g, 1, none⟩ (.slice a_2 (word.length + 1) c_2) (by kernel_rfl) (by kernel_rfl) (w_2.setRow g #[.int .i64 2, .slice a_2 (word.length + 1) c_2, .slice wa ws.length wc, .int .i64 dg, .bool false]) hst (by kernel_rfl) ?_
  try simp only [pA, pB, p1, p2, p3]
  clear hst
  generalize w_2.setRow g #[.int .i64 2, .slice a_2 (word.length + 1) c_2, .slice wa ws.length wc, .int .i64 dg, .bool false] = wk4 at HW HY HK HB ⊢
  refine WL.nil ?_
  try simp only [pA, pB, p1, p2, p3]
  go_wp2
  go_end0
  rw [HC.out]
  exact ⟨rfl, by rw [HS.out]; exact RdA.of _ HB.out HW.out HY.out (Nat.le_trans HL.out HK.out.size) (by simp) (by simp [strV]) (by simp) (by simp) (by simp) (by simp [u8V, bi]) (by simp), HK.out⟩
set_option maxRecDepth 100000 in
set_option maxHeartbeats 4000000 in
theorem nx_2pt (n0 g : Nat) (word : List UInt8) (ws : List (List UInt8)) (dg : Int) (c : UInt8) (w : World) (hcut : RdA n0 w g ⟨2, word, ws, dg, false⟩) (hws : ws.length ≤ 1000000000000) (hbt : word.length ≤ 1000000000000) (h32 : bi c ≠ 32) (h9 : bi c = 9) (h34 : bi c ≠ 34) (h92 : bi c ≠ 92)  : Calls Try.prog 20 #[.pointer (some ⟨g, 0, none⟩), .int .u8 (bi c)] w (PostR n0 g (nextS ⟨2, word, ws, dg, false⟩ c) w) := by
  obtain ⟨C, hC⟩ : ∃ C : Ending → World → Prop, C = (PostR n0 g (nextS ⟨2, word, ws, dg, false⟩ c) w) := ⟨_, rfl⟩
  have HC : Hid (C = (PostR n0 g (nextS ⟨2, word, ws, dg, false⟩ c) w)) := hC
  rw [← hC]
  clear hC
  have e32 : (bi c == 32) = false := by simp [h32]
  have e9 : (bi c == 9) = true := by simp [h9]
  have e34 : (bi c == 34) = false := by simp [h34]
  have e92 : (bi c == 92) = false := by simp [h92]
  have HS : Hid (nextS ⟨2, word, ws, dg, false⟩ c = ⟨2, word ++ [c], ws, dg, false⟩) := by show _ = _; unfold nextS; simp [h32, h9, h34, h92]
  clear h32 h9 h34 h92
  obtain ⟨wa, wc, ba, bc, hC0⟩ := hcut
  have HB : Hid (Box w g 46 #[.int .i64 2, .slice ba word.length bc, .slice wa ws.length wc, .int .i64 dg, .bool false]) := hC0.box
  have HW : Hid (Own 9 1 w n0 wa wc ws.length (ws.map strV)) := hC0.hw
  have HY : Hid (Own 5 1 w n0 ba bc word.length (word.map u8V)) := hC0.hb
  have HL : Hid (n0 ≤ w.heap.size) := hC0.hn
  have HWd : Hid (ws.length ≤ 1000000000000) := hws
  have HBd : Hid (word.length ≤ 1000000000000) := hbt
  have HK : Hid (Kept (Sg n0 g) w w) := Kept.refl _ _
  clear hC0 hws hbt
  go_enter Try.func20, Try.ntmps20
  go_upto_region 0 with fail
  refine WL.start ?_
  refine tK (.int .u8 (bi c)) ?_
  try simp only [pA, pB, p1, p2, p3]
  refine tW (.bool false) (exec_bin .eql 5 _ _ _ rfl (.int .u8 (bi c)) (.int .u8 32) (.bool false) (by kernel_rfl) (by kernel_rfl) (by kernel_rfl) (by rw [b_eq5, e32])) ?_
  try simp only [pA, pB, p1, p2, p3]
  refine tK (.bool false) ?_
  try simp only [pA, pB, p1, p2, p3]
  refine tK (.int .u8 (bi c)) ?_
  try simp only [pA, pB, p1, p2, p3]
  refine tW (.bool true) (exec_bin .eql 5 _ _ _ rfl (.int .u8 (bi c)) (.int .u8 9) (.bool true) (by kernel_rfl) (by kernel_rfl) (by kernel_rfl) (by rw [b_eq5, e9])) ?_
  try simp only [pA, pB, p1, p2, p3]
  refine tK (.bool true) ?_
  try simp only [pA, pB, p1, p2, p3]
  refine tK (.bool true) ?_
  try simp only [pA, pB, p1, p2, p3]
  refine WL.nil ?_
  try simp only [pA, pB, p1, p2, p3]
  go_upto_region 1 with fail
  refine WL.start ?_
  refine tK (.pointer (some ⟨g, 0, none⟩)) ?_
  try simp only [pA, pB, p1, p2, p3]
  refine tK (.pointer (some ⟨g, 0, none⟩)) ?_
  try simp only [pA, pB, p1, p2, p3]
  refine tK (.pointer (some ⟨g, 0, none⟩)) ?_
  try simp only [pA, pB, p1, p2, p3]
  refine tW (.int .i64 2) (exec_load 3 _ rfl ⟨g, 0, none⟩ (by kernel_rfl) (.int .i64 2) (load_one (HB.out.cell 0) U3 rfl)) ?_
  try simp only [pA, pB, p1, p2, p3]
  refine WL.nil ?_
  try simp only [pA, pB, p1, p2, p3]
  go_upto_region 2 with fail
  refine WL.start ?_
  refine tK (.bool false) ?_
  try simp only [pA, pB, p1, p2, p3]
  refine tK (.bool false) ?_
  try simp only [pA, pB, p1, p2, p3]
  refine WL.nil ?_
  try simp only [pA, pB, p1, p2, p3]
  go_upto_region 10 with fail
  refine WL.start ?_
  refine tK (.bool false) ?_
  try simp only [pA, pB, p1, p2, p3]
  refine tK (.bool false) ?_
  try simp only [pA, pB, p1, p2, p3]
  refine WL.nil ?_
  try simp only [pA, pB, p1, p2, p3]
  go_upto_region 16 with fail
  refine WL.start ?_
  refine tK (.bool true) ?_
  try simp only [pA, pB, p1, p2, p3]
  refine tK (.bool true) ?_
  try simp only [pA, pB, p1, p2, p3]
  refine WL.nil ?_
  try simp only [pA, pB, p1, p2, p3]
  go_upto_region 17 with fail
  refine WL.start ?_
  refine tK (.int .u8 (bi c)) ?_
  try simp only [pA, pB, p1, p2, p3]
  refine WL.nil ?_
  try simp only [pA, pB, p1, p2, p3]
  go_upto_region 19 with fail
  refine WL.start ?_
  refine tW (.bool false) (exec_bin .eql 5 _ _ _ rfl (.int .u8 (bi c)) (.int .u8 34) (.bool false) (by kernel_rfl) (by kernel_rfl) (by kernel_rfl) (by rw [b_eq5, e34])) ?_
  try simp only [pA, pB, p1, p2, p3]
  refine tK (.bool false) ?_
  try simp only [pA, pB, p1, p2, p3]
  refine WL.nil ?_
  try simp only [pA, pB, p1, p2, p3]
  go_upto_region 21 with fail
  refine WL.start ?_
  refine tW (.bool false) (exec_bin .eql 5 _ _ _ rfl (.int .u8 (bi c)) (.int .u8 92) (.bool false) (by kernel_rfl) (by kernel_rfl) (by kernel_rfl) (by rw [b_eq5, e92])) ?_
  try simp only [pA, pB, p1, p2, p3]
  refine tK (.bool false) ?_
  try simp only [pA, pB, p1, p2, p3]
  refine WL.nil ?_
  try simp only [pA, pB, p1, p2, p3]
  go_upto_region 18 with fail
  refine WL.start ?_
  refine tK (.pointer (some ⟨g, 0, none⟩)) ?_
  try simp only [pA, pB, p1, p2, p3]
  refine tK (.pointer (some ⟨g, 0, none⟩)) ?_
  try simp only [pA, pB, p1, p2, p3]
  refine tK (.pointer (some ⟨g, 0, none⟩)) ?_
  try simp only [pA, pB, p1, p2, p3]
  refine tK (.pointer (some ⟨g, 1, none⟩)) ?_
  try simp only [pA, pB, p1, p2, p3]
  refine tW (.slice ba word.length bc) (exec_load 30 _ rfl ⟨g, 1, none⟩ (by kernel_rfl) (.slice ba word.length bc) (load_one (HB.out.cell 1) U30 rfl)) ?_
  try simp only [pA, pB, p1, p2, p3]
  refine tK (.int .u8 (bi c)) ?_
  try simp only [pA, pB, p1, p2, p3]
  have HW : Hid (Own 9 1 (w.alloc (.cells [.int .u8 (bi c)].toArray 5)) n0 wa wc ws.length (ws.map strV)) := HW.out.no ((Kept.refl No _).alloc _)
  have HY : Hid (Own 5 1 (w.alloc (.cells [.int .u8 (bi c)].toArray 5)) n0 ba bc word.length (word.map u8V)) := HY.out.no ((Kept.refl No _).alloc _)
  have HK : Hid (Kept (Sg n0 g) w (w.alloc (.cells [.int .u8 (bi c)].toArray 5))) := HK.out.alloc _
  have HB : Hid (Box (w.alloc (.cells [.int .u8 (bi c)].toArray 5)) g 46 #[.int .i64 2, .slice ba word.length bc, .slice wa ws.length wc, .int .i64 dg, .bool false]) := HB.out.alloc _
  have HX : Hid (Box (w.alloc (.cells [.int .u8 (bi c)].toArray 5)) w.heap.size 5 [.int .u8 (bi c)].toArray) := Box.new _ _ _
  refine wp_runW (.slice (some ⟨w.heap.size, 0, none⟩) 1 1) (w.alloc (.cells [.int .u8 (bi c)].toArray 5)) (exec_built (by kernel_rfl)) (by kernel_rfl) ?_
  try simp only [pA, pB, p1, p2, p3]
  generalize w.alloc (.cells [.int .u8 (bi c)].toArray 5) = wk1 at HW HY HK HX HB ⊢
  generalize w.heap.size = gk2 at HX ⊢
  obtain ⟨a_2, c_2, w_2, hrun, ho, hc⟩ := run_app 30 5 1 _ U30 I5 rfl HY.out 30 ⟨gk2, 0, none⟩ 1 1 [.int .u8 (bi c)] rfl (box_news HX.out) (by simp [Value.oneCell', strV, u8V]) (by have h2 := HBd.out; have h3 := HWd.out; omega) (by have h2 := HBd.out; have h3 := HWd.out; omega) (Nat.le_trans HL.out HK.out.size)
  clear HX
  have HW : Hid (Own 9 1 w_2 n0 wa wc ws.length (ws.map strV)) := HW.out.kept hc (own_apart HW.out HY.out (by decide))
  have HK : Hid (Kept (Sg n0 g) w w_2) := HK.out.trans hc (fun _ e => e) (fun _ _ e => Or.inr (HY.out.base e))
  have HB : Hid (Box w_2 g 46 #[.int .i64 2, .slice ba word.length bc, .slice wa ws.length wc, .int .i64 dg, .bool false]) := HB.out.kept hc (HY.out.offBox HB.out (by decide))
  have HY : Hid (Own 5 1 w_2 n0 a_2 c_2 (word.length + 1) (word.map u8V ++ [.int .u8 (bi c)])) := ho
  refine wp_runW (.slice a_2 (word.length + 1) c_2) (w_2) (exec_app _ _ 30 30 rfl _ _ _ (by kernel_rfl) (by kernel_rfl) hrun) (by kernel_rfl) ?_
  try simp only [pA, pB, p1, p2, p3]
  clear hrun ho hc
  refine tK (.pointer (some ⟨g, 0, none⟩)) ?_
  try simp only [pA, pB, p1, p2, p3]
  refine tK (.pointer (some ⟨g, 1, none⟩)) ?_
  try simp only [pA, pB, p1, p2, p3]
  have hst : (storeVar 30 ⟨g, 1, none⟩ (.slice a_2 (word.length + 1) c_2)).run Try.prog w_2 = .ok () (w_2.setRow g #[.int .i64 2, .slice a_2 (word.length + 1) c_2, .slice wa ws.length wc, .int .i64 dg, .bool false]) := run_store_to (cur := [.int .i64 2, .slice ba word.length bc, .slice wa ws.length wc, .int .i64 dg, .bool false]) (vs := [.slice a_2 (word.length + 1) c_2]) (new := [.int .i64 2, .slice a_2 (word.length + 1) c_2, .slice wa ws.length wc, .int .i64 dg, .bool false]) HB.out (by kernel_rfl) S30 (Nat.le_of_ble_eq_true (by kernel_rfl)) (by simp [Value.oneCell', strV, u8V]) (by kernel_rfl)
  have HW : Hid (Own 9 1 (w_2.setRow g #[.int .i64 2, .slice a_2 (word.length + 1) c_2, .slice wa ws.length wc, .int .i64 dg, .bool false]) n0 wa wc ws.length (ws.map strV)) := HW.out.kept (Kept.setRow _ _ _) (HW.out.notBox HB.out (by decide))
  have HY : Hid (Own 5 1 (w_2.setRow g #[.int .i64 2, .slice a_2 (word.length + 1) c_2, .slice wa ws.length wc, .int .i64 dg, .bool false]) n0 a_2 c_2 (word.length + 1) (word.map u8V ++ [.int .u8 (bi c)])) := HY.out.kept (Kept.setRow _ _ _) (HY.out.notBox HB.out (by decide))
  have HK : Hid (Kept (Sg n0 g) w (w_2.setRow g #[.int .i64 2, .slice a_2 (word.length + 1) c_2, .slice wa ws.length wc, .int .i64 dg, .bool false])) := HK.out.inRow (S := Sg n0 g) (Or.inl rfl) _
  have HB : Hid (Box (w_2.setRow g #[.int .i64 2, .slice a_2 (word.length + 1) c_2, .slice wa ws.length wc, .int .i64 dg, .bool false]) g 46 #[.int .i64 2, .slice a_2 (word.length + 1) c_2, .slice wa ws.length wc, .int .i64 dg, .bool false]) := HB.out.setRow _
  refine wp_storeW 30 _ _ rfl ⟨g, 1, none⟩ (.slice a_2 (word.length + 1) c_2) (by kernel_rfl) (by kernel_rfl) (w_2.setRow g #[.int .i64 2, .slice a_2 (word.length + 1) c_2, .slice wa ws.length wc, .int .i64 dg, .bool false]) hst (by kernel_rfl) ?_
  try simp only [pA, pB, p1, p2, p3]
  clear hst
  generalize w_2.setRow g #[.int .i64 2, .slice a_2 (word.length + 1) c_2, .slice wa ws.length wc, .int .i64 dg, .bool false] = wk4 at HW HY HK HB ⊢
  refine WL.nil ?_
  try simp only [pA, pB, p1, p2, p3]
  go_wp2
  go_end0
  rw [HC.out]
  exact ⟨rfl, by rw [HS.out]; exact RdA.of _ HB.out HW.out HY.out (Nat.le_trans HL.out HK.out.size) (by simp) (by simp [strV]) (by simp) (by simp) (by simp) (by simp [u8V, bi]) (by simp), HK.out⟩
set_option maxRecDepth 100000 in
set_option maxHeartbeats 4000000 in
theorem nx_2pn (n0 g : Nat) (word : List UInt8) (ws : List (List UInt8)) (dg : Int) (c : UInt8) (w : World) (hcut : RdA n0 w g ⟨2, word, ws, dg, false⟩) (hws : ws.length ≤ 1000000000000) (hbt : word.length ≤ 1000000000000) (h32 : bi c ≠ 32) (h9 : bi c ≠ 9) (h34 : bi c ≠ 34) (h92 : bi c ≠ 92)  : Calls Try.prog 20 #[.pointer (some ⟨g, 0, none⟩), .int .u8 (bi c)] w (PostR n0 g (nextS ⟨2, word, ws, dg, false⟩ c) w) := by
  obtain ⟨C, hC⟩ : ∃ C : Ending → World → Prop, C = (PostR n0 g (nextS ⟨2, word, ws, dg, false⟩ c) w) := ⟨_, rfl⟩
  have HC : Hid (C = (PostR n0 g (nextS ⟨2, word, ws, dg, false⟩ c) w)) := hC
  rw [← hC]
  clear hC
  have e32 : (bi c == 32) = false := by simp [h32]
  have e9 : (bi c == 9) = false := by simp [h9]
  have e34 : (bi c == 34) = false := by simp [h34]
  have e92 : (bi c == 92) = false := by simp [h92]
  have HS : Hid (nextS ⟨2, word, ws, dg, false⟩ c = ⟨2, word ++ [c], ws, dg, false⟩) := by show _ = _; unfold nextS; simp [h32, h9, h34, h92]
  clear h32 h9 h34 h92
  obtain ⟨wa, wc, ba, bc, hC0⟩ := hcut
  have HB : Hid (Box w g 46 #[.int .i64 2, .slice ba word.length bc, .slice wa ws.length wc, .int .i64 dg, .bool false]) := hC0.box
  have HW : Hid (Own 9 1 w n0 wa wc ws.length (ws.map strV)) := hC0.hw
  have HY : Hid (Own 5 1 w n0 ba bc word.length (word.map u8V)) := hC0.hb
  have HL : Hid (n0 ≤ w.heap.size) := hC0.hn
  have HWd : Hid (ws.length ≤ 1000000000000) := hws
  have HBd : Hid (word.length ≤ 1000000000000) := hbt
  have HK : Hid (Kept (Sg n0 g) w w) := Kept.refl _ _
  clear hC0 hws hbt
  go_enter Try.func20, Try.ntmps20
  go_upto_region 0 with fail
  refine WL.start ?_
  refine tK (.int .u8 (bi c)) ?_
  try simp only [pA, pB, p1, p2, p3]
  refine tW (.bool false) (exec_bin .eql 5 _ _ _ rfl (.int .u8 (bi c)) (.int .u8 32) (.bool false) (by kernel_rfl) (by kernel_rfl) (by kernel_rfl) (by rw [b_eq5, e32])) ?_
  try simp only [pA, pB, p1, p2, p3]
  refine tK (.bool false) ?_
  try simp only [pA, pB, p1, p2, p3]
  refine tK (.int .u8 (bi c)) ?_
  try simp only [pA, pB, p1, p2, p3]
  refine tW (.bool false) (exec_bin .eql 5 _ _ _ rfl (.int .u8 (bi c)) (.int .u8 9) (.bool false) (by kernel_rfl) (by kernel_rfl) (by kernel_rfl) (by rw [b_eq5, e9])) ?_
  try simp only [pA, pB, p1, p2, p3]
  refine tK (.bool false) ?_
  try simp only [pA, pB, p1, p2, p3]
  refine tK (.bool false) ?_
  try simp only [pA, pB, p1, p2, p3]
  refine WL.nil ?_
  try simp only [pA, pB, p1, p2, p3]
  go_upto_region 1 with fail
  refine WL.start ?_
  refine tK (.pointer (some ⟨g, 0, none⟩)) ?_
  try simp only [pA, pB, p1, p2, p3]
  refine tK (.pointer (some ⟨g, 0, none⟩)) ?_
  try simp only [pA, pB, p1, p2, p3]
  refine tK (.pointer (some ⟨g, 0, none⟩)) ?_
  try simp only [pA, pB, p1, p2, p3]
  refine tW (.int .i64 2) (exec_load 3 _ rfl ⟨g, 0, none⟩ (by kernel_rfl) (.int .i64 2) (load_one (HB.out.cell 0) U3 rfl)) ?_
  try simp only [pA, pB, p1, p2, p3]
  refine WL.nil ?_
  try simp only [pA, pB, p1, p2, p3]
  go_upto_region 2 with fail
  refine WL.start ?_
  refine tK (.bool false) ?_
  try simp only [pA, pB, p1, p2, p3]
  refine tK (.bool false) ?_
  try simp only [pA, pB, p1, p2, p3]
  refine WL.nil ?_
  try simp only [pA, pB, p1, p2, p3]
  go_upto_region 10 with fail
  refine WL.start ?_
  refine tK (.bool false) ?_
  try simp only [pA, pB, p1, p2, p3]
  refine tK (.bool false) ?_
  try simp only [pA, pB, p1, p2, p3]
  refine WL.nil ?_
  try simp only [pA, pB, p1, p2, p3]
  go_upto_region 16 with fail
  refine WL.start ?_
  refine tK (.bool true) ?_
  try simp only [pA, pB, p1, p2, p3]
  refine tK (.bool true) ?_
  try simp only [pA, pB, p1, p2, p3]
  refine WL.nil ?_
  try simp only [pA, pB, p1, p2, p3]
  go_upto_region 17 with fail
  refine WL.start ?_
  refine tK (.int .u8 (bi c)) ?_
  try simp only [pA, pB, p1, p2, p3]
  refine WL.nil ?_
  try simp only [pA, pB, p1, p2, p3]
  go_upto_region 19 with fail
  refine WL.start ?_
  refine tW (.bool false) (exec_bin .eql 5 _ _ _ rfl (.int .u8 (bi c)) (.int .u8 34) (.bool false) (by kernel_rfl) (by kernel_rfl) (by kernel_rfl) (by rw [b_eq5, e34])) ?_
  try simp only [pA, pB, p1, p2, p3]
  refine tK (.bool false) ?_
  try simp only [pA, pB, p1, p2, p3]
  refine WL.nil ?_
  try simp only [pA, pB, p1, p2, p3]
  go_upto_region 21 with fail
  refine WL.start ?_
  refine tW (.bool false) (exec_bin .eql 5 _ _ _ rfl (.int .u8 (bi c)) (.int .u8 92) (.bool false) (by kernel_rfl) (by kernel_rfl) (by kernel_rfl) (by rw [b_eq5, e92])) ?_
  try simp only [pA, pB, p1, p2, p3]
  refine tK (.bool false) ?_
  try simp only [pA, pB, p1, p2, p3]
  refine WL.nil ?_
  try simp only [pA, pB, p1, p2, p3]
  go_upto_region 18 with fail
  refine WL.start ?_
  refine tK (.pointer (some ⟨g, 0, none⟩)) ?_
  try simp only [pA, pB, p1, p2, p3]
  refine tK (.pointer (some ⟨g, 0, none⟩)) ?_
  try simp only [pA, pB, p1, p2, p3]
  refine tK (.pointer (some ⟨g, 0, none⟩)) ?_
  try simp only [pA, pB, p1, p2, p3]
  refine tK (.pointer (some ⟨g, 1, none⟩)) ?_
  try simp only [pA, pB, p1, p2, p3]
  refine tW (.slice ba word.length bc) (exec_load 30 _ rfl ⟨g, 1, none⟩ (by kernel_rfl) (.slice ba word.length bc) (load_one (HB.out.cell 1) U30 rfl)) ?_
  try simp only [pA, pB, p1, p2, p3]
  refine tK (.int .u8 (bi c)) ?_
  try simp only [pA, pB, p1, p2, p3]
  have HW : Hid (Own 9 1 (w.alloc (.cells [.int .u8 (bi c)].toArray 5)) n0 wa wc ws.length (ws.map strV)) := HW.out.no ((Kept.refl No _).alloc _)
  have HY : Hid (Own 5 1 (w.alloc (.cells [.int .u8 (bi c)].toArray 5)) n0 ba bc word.length (word.map u8V)) := HY.out.no ((Kept.refl No _).alloc _)
  have HK : Hid (Kept (Sg n0 g) w (w.alloc (.cells [.int .u8 (bi c)].toArray 5))) := HK.out.alloc _
  have HB : Hid (Box (w.alloc (.cells [.int .u8 (bi c)].toArray 5)) g 46 #[.int .i64 2, .slice ba word.length bc, .slice wa ws.length wc, .int .i64 dg, .bool false]) := HB.out.alloc _
  have HX : Hid (Box (w.alloc (.cells [.int .u8 (bi c)].toArray 5)) w.heap.size 5 [.int .u8 (bi c)].toArray) := Box.new _ _ _
  refine wp_runW (.slice (some ⟨w.heap.size, 0, none⟩) 1 1) (w.alloc (.cells [.int .u8 (bi c)].toArray 5)) (exec_built (by kernel_rfl)) (by kernel_rfl) ?_
  try simp only [pA, pB, p1, p2, p3]
  generalize w.alloc (.cells [.int .u8 (bi c)].toArray 5) = wk1 at HW HY HK HX HB ⊢
  generalize w.heap.size = gk2 at HX ⊢
  obtain ⟨a_2, c_2, w_2, hrun, ho, hc⟩ := run_app 30 5 1 _ U30 I5 rfl HY.out 30 ⟨gk2, 0, none⟩ 1 1 [.int .u8 (bi c)] rfl (box_news HX.out) (by simp [Value.oneCell', strV, u8V]) (by have h2 := HBd.out; have h3 := HWd.out; omega) (by have h2 := HBd.out; have h3 := HWd.out; omega) (Nat.le_trans HL.out HK.out.size)
  clear HX
  have HW : Hid (Own 9 1 w_2 n0 wa wc ws.length (ws.map strV)) := HW.out.kept hc (own_apart HW.out HY.out (by decide))
  have HK : Hid (Kept (Sg n0 g) w w_2) := HK.out.trans hc (fun _ e => e) (fun _ _ e => Or.inr (HY.out.base e))
  have HB : Hid (Box w_2 g 46 #[.int .i64 2, .slice ba word.length bc, .slice wa ws.length wc, .int .i64 dg, .bool false]) := HB.out.kept hc (HY.out.offBox HB.out (by decide))
  have HY : Hid (Own 5 1 w_2 n0 a_2 c_2 (word.length + 1) (word.map u8V ++ [.int .u8 (bi c)])) := ho
  refine wp_runW (.slice a_2 (word.length + 1) c_2) (w_2) (exec_app _ _ 30 30 rfl _ _ _ (by kernel_rfl) (by kernel_rfl) hrun) (by kernel_rfl) ?_
  try simp only [pA, pB, p1, p2, p3]
  clear hrun ho hc
  refine tK (.pointer (some ⟨g, 0, none⟩)) ?_
  try simp only [pA, pB, p1, p2, p3]
  refine tK (.pointer (some ⟨g, 1, none⟩)) ?_
  try simp only [pA, pB, p1, p2, p3]
  have hst : (storeVar 30 ⟨g, 1, none⟩ (.slice a_2 (word.length + 1) c_2)).run Try.prog w_2 = .ok () (w_2.setRow g #[.int .i64 2, .slice a_2 (word.length + 1) c_2, .slice wa ws.length wc, .int .i64 dg, .bool false]) := run_store_to (cur := [.int .i64 2, .slice ba word.length bc, .slice wa ws.length wc, .int .i64 dg, .bool false]) (vs := [.slice a_2 (word.length + 1) c_2]) (new := [.int .i64 2, .slice a_2 (word.length + 1) c_2, .slice wa ws.length wc, .int .i64 dg, .bool false]) HB.out (by kernel_rfl) S30 (Nat.le_of_ble_eq_true (by kernel_rfl)) (by simp [Value.oneCell', strV, u8V]) (by kernel_rfl)
  have HW : Hid (Own 9 1 (w_2.setRow g #[.int .i64 2, .slice a_2 (word.length + 1) c_2, .slice wa ws.length wc, .int .i64 dg, .bool false]) n0 wa wc ws.length (ws.map strV)) := HW.out.kept (Kept.setRow _ _ _) (HW.out.notBox HB.out (by decide))
  have HY : Hid (Own 5 1 (w_2.setRow g #[.int .i64 2, .slice a_2 (word.length + 1) c_2, .slice wa ws.length wc, .int .i64 dg, .bool false]) n0 a_2 c_2 (word.length + 1) (word.map u8V ++ [.int .u8 (bi c)])) := HY.out.kept (Kept.setRow _ _ _) (HY.out.notBox HB.out (by decide))
  have HK : Hid (Kept (Sg n0 g) w (w_2.setRow g #[.int .i64 2, .slice a_2 (word.length + 1) c_2, .slice wa ws.length wc, .int .i64 dg, .bool false])) := HK.out.inRow (S := Sg n0 g) (Or.inl rfl) _
  have HB : Hid (Box (w_2.setRow g #[.int .i64 2, .slice a_2 (word.length + 1) c_2, .slice wa ws.length wc, .int .i64 dg, .bool false]) g 46 #[.int .i64 2, .slice a_2 (word.length + 1) c_2, .slice wa ws.length wc, .int .i64 dg, .bool false]) := HB.out.setRow _
  refine wp_storeW 30 _ _ rfl ⟨g, 1, none⟩ (.slice a_2 (word.length + 1) c_2) (by kernel_rfl) (by kernel_rfl) (w_2.setRow g #[.int .i64 2, .slice a_2 (word.length + 1) c_2, .slice wa ws.length wc, .int .i64 dg, .bool false]) hst (by kernel_rfl) ?_
  try simp only [pA, pB, p1, p2, p3]
  clear hst
  generalize w_2.setRow g #[.int .i64 2, .slice a_2 (word.length + 1) c_2, .slice wa ws.length wc, .int .i64 dg, .bool false] = wk4 at HW HY HK HB ⊢
  refine WL.nil ?_
  try simp only [pA, pB, p1, p2, p3]
  go_wp2
  go_end0
  rw [HC.out]
  exact ⟨rfl, by rw [HS.out]; exact RdA.of _ HB.out HW.out HY.out (Nat.le_trans HL.out HK.out.size) (by simp) (by simp [strV]) (by simp) (by simp) (by simp) (by simp [u8V, bi]) (by simp), HK.out⟩
set_option maxRecDepth 100000 in
set_option maxHeartbeats 4000000 in
theorem nx_3s (n0 g : Nat) (word : List UInt8) (ws : List (List UInt8)) (dg : Int) (c : UInt8) (w : World) (hcut : RdA n0 w g ⟨3, word, ws, dg, false⟩) (hws : ws.length ≤ 1000000000000) (hbt : word.length ≤ 1000000000000) (h32 : bi c = 32)  : Calls Try.prog 20 #[.pointer (some ⟨g, 0, none⟩), .int .u8 (bi c)] w (PostR n0 g (nextS ⟨3, word, ws, dg, false⟩ c) w) := by
  obtain ⟨C, hC⟩ : ∃ C : Ending → World → Prop, C = (PostR n0 g (nextS ⟨3, word, ws, dg, false⟩ c) w) := ⟨_, rfl⟩
  have HC : Hid (C = (PostR n0 g (nextS ⟨3, word, ws, dg, false⟩ c) w)) := hC
  rw [← hC]
  clear hC
  have e32 : (bi c == 32) = true := by simp [h32]
  have HS : Hid (nextS ⟨3, word, ws, dg, false⟩ c = escS ⟨3, word, ws, dg, false⟩ c) := by show _ = _; unfold nextS; simp [h32]
  clear h32
  obtain ⟨wa, wc, ba, bc, hC0⟩ := hcut
  have HB : Hid (Box w g 46 #[.int .i64 3, .slice ba word.length bc, .slice wa ws.length wc, .int .i64 dg, .bool false]) := hC0.box
  have HW : Hid (Own 9 1 w n0 wa wc ws.length (ws.map strV)) := hC0.hw
  have HY : Hid (Own 5 1 w n0 ba bc word.length (word.map u8V)) := hC0.hb
  have HL : Hid (n0 ≤ w.heap.size) := hC0.hn
  have HWd : Hid (ws.length ≤ 1000000000000) := hws
  have HBd : Hid (word.length ≤ 1000000000000) := hbt
  have HK : Hid (Kept (Sg n0 g) w w) := Kept.refl _ _
  clear hC0 hws hbt
  go_enter Try.func20, Try.ntmps20
  go_upto_region 0 with fail
  refine WL.start ?_
  refine tK (.int .u8 (bi c)) ?_
  try simp only [pA, pB, p1, p2, p3]
  refine tW (.bool true) (exec_bin .eql 5 _ _ _ rfl (.int .u8 (bi c)) (.int .u8 32) (.bool true) (by kernel_rfl) (by kernel_rfl) (by kernel_rfl) (by rw [b_eq5, e32])) ?_
  try simp only [pA, pB, p1, p2, p3]
  refine tK (.bool true) ?_
  try simp only [pA, pB, p1, p2, p3]
  refine sK ?_
  try simp only [pA, pB, p1, p2, p3]
  refine sK ?_
  try simp only [pA, pB, p1, p2, p3]
  refine tK (.bool true) ?_
  try simp only [pA, pB, p1, p2, p3]
  refine tK (.bool true) ?_
  try simp only [pA, pB, p1, p2, p3]
  refine WL.nil ?_
  try simp only [pA, pB, p1, p2, p3]
  go_upto_region 1 with fail
  refine WL.start ?_
  refine tK (.pointer (some ⟨g, 0, none⟩)) ?_
  try simp only [pA, pB, p1, p2, p3]
  refine tK (.pointer (some ⟨g, 0, none⟩)) ?_
  try simp only [pA, pB, p1, p2, p3]
  refine tK (.pointer (some ⟨g, 0, none⟩)) ?_
  try simp only [pA, pB, p1, p2, p3]
  refine tW (.int .i64 3) (exec_load 3 _ rfl ⟨g, 0, none⟩ (by kernel_rfl) (.int .i64 3) (load_one (HB.out.cell 0) U3 rfl)) ?_
  try simp only [pA, pB, p1, p2, p3]
  refine WL.nil ?_
  try simp only [pA, pB, p1, p2, p3]
  go_upto_region 2 with fail
  refine WL.start ?_
  refine tK (.bool false) ?_
  try simp only [pA, pB, p1, p2, p3]
  refine tK (.bool false) ?_
  try simp only [pA, pB, p1, p2, p3]
  refine WL.nil ?_
  try simp only [pA, pB, p1, p2, p3]
  go_upto_region 10 with fail
  refine WL.start ?_
  refine tK (.bool false) ?_
  try simp only [pA, pB, p1, p2, p3]
  refine tK (.bool false) ?_
  try simp only [pA, pB, p1, p2, p3]
  refine WL.nil ?_
  try simp only [pA, pB, p1, p2, p3]
  go_upto_region 16 with fail
  refine WL.start ?_
  refine tK (.bool false) ?_
  try simp only [pA, pB, p1, p2, p3]
  refine tK (.bool false) ?_
  try simp only [pA, pB, p1, p2, p3]
  refine WL.nil ?_
  try simp only [pA, pB, p1, p2, p3]
  go_upto_region 23 with fail
  refine WL.start ?_
  refine tK (.bool true) ?_
  try simp only [pA, pB, p1, p2, p3]
  refine tK (.bool true) ?_
  try simp only [pA, pB, p1, p2, p3]
  refine WL.nil ?_
  try simp only [pA, pB, p1, p2, p3]
  go_upto_region 24 with fail
  refine WL.start ?_
  refine tK (.pointer (some ⟨g, 0, none⟩)) ?_
  try simp only [pA, pB, p1, p2, p3]
  refine tK (.int .u8 (bi c)) ?_
  try simp only [pA, pB, p1, p2, p3]
  refine wp_callW 24 #[.pointer (some ⟨g, 0, none⟩), .int .u8 (bi c)] (by kernel_rfl) _ (esc_any n0 g ⟨3, word, ws, dg, false⟩ c w ⟨_, _, _, _, HB.out, HW.out, HY.out, Nat.le_trans HL.out HK.out.size⟩ HWd.out HBd.out) (by kernel_rfl) ?_
  rintro e W9 ⟨rfl, hc9, hk9⟩
  have HCe : Hid (RdA n0 W9 g (escS ⟨3, word, ws, dg, false⟩ c)) := hc9
  have HKe : Hid (Kept (Sg n0 g) w W9) := HK.out.then hk9
  clear hc9 hk9
  refine ⟨.tuple #[], rfl, ?_⟩
  try simp only [pA, pB, p1, p2, p3]
  refine WL.nil ?_
  try simp only [pA, pB, p1, p2, p3]
  go_wp2
  go_end0
  rw [HC.out]
  exact ⟨rfl, by rw [HS.out]; exact HCe.out, HKe.out⟩
set_option maxRecDepth 100000 in
set_option maxHeartbeats 4000000 in
theorem nx_3t (n0 g : Nat) (word : List UInt8) (ws : List (List UInt8)) (dg : Int) (c : UInt8) (w : World) (hcut : RdA n0 w g ⟨3, word, ws, dg, false⟩) (hws : ws.length ≤ 1000000000000) (hbt : word.length ≤ 1000000000000) (h32 : bi c ≠ 32) (h9 : bi c = 9)  : Calls Try.prog 20 #[.pointer (some ⟨g, 0, none⟩), .int .u8 (bi c)] w (PostR n0 g (nextS ⟨3, word, ws, dg, false⟩ c) w) := by
  obtain ⟨C, hC⟩ : ∃ C : Ending → World → Prop, C = (PostR n0 g (nextS ⟨3, word, ws, dg, false⟩ c) w) := ⟨_, rfl⟩
  have HC : Hid (C = (PostR n0 g (nextS ⟨3, word, ws, dg, false⟩ c) w)) := hC
  rw [← hC]
  clear hC
  have e32 : (bi c == 32) = false := by simp [h32]
  have e9 : (bi c == 9) = true := by simp [h9]
  have HS : Hid (nextS ⟨3, word, ws, dg, false⟩ c = escS ⟨3, word, ws, dg, false⟩ c) := by show _ = _; unfold nextS; simp [h32, h9]
  clear h32 h9
  obtain ⟨wa, wc, ba, bc, hC0⟩ := hcut
  have HB : Hid (Box w g 46 #[.int .i64 3, .slice ba word.length bc, .slice wa ws.length wc, .int .i64 dg, .bool false]) := hC0.box
  have HW : Hid (Own 9 1 w n0 wa wc ws.length (ws.map strV)) := hC0.hw
  have HY : Hid (Own 5 1 w n0 ba bc word.length (word.map u8V)) := hC0.hb
  have HL : Hid (n0 ≤ w.heap.size) := hC0.hn
  have HWd : Hid (ws.length ≤ 1000000000000) := hws
  have HBd : Hid (word.length ≤ 1000000000000) := hbt
  have HK : Hid (Kept (Sg n0 g) w w) := Kept.refl _ _
  clear hC0 hws hbt
  go_enter Try.func20, Try.ntmps20
  go_upto_region 0 with fail
  refine WL.start ?_
  refine tK (.int .u8 (bi c)) ?_
  try simp only [pA, pB, p1, p2, p3]
  refine tW (.bool false) (exec_bin .eql 5 _ _ _ rfl (.int .u8 (bi c)) (.int .u8 32) (.bool false) (by kernel_rfl) (by kernel_rfl) (by kernel_rfl) (by rw [b_eq5, e32])) ?_
  try simp only [pA, pB, p1, p2, p3]
  refine tK (.bool false) ?_
  try simp only [pA, pB, p1, p2, p3]
  refine tK (.int .u8 (bi c)) ?_
  try simp only [pA, pB, p1, p2, p3]
  refine tW (.bool true) (exec_bin .eql 5 _ _ _ rfl (.int .u8 (bi c)) (.int .u8 9) (.bool true) (by kernel_rfl) (by kernel_rfl) (by kernel_rfl) (by rw [b_eq5, e9])) ?_
  try simp only [pA, pB, p1, p2, p3]
  refine tK (.bool true) ?_
  try simp only [pA, pB, p1, p2, p3]
  refine tK (.bool true) ?_
  try simp only [pA, pB, p1, p2, p3]
  refine WL.nil ?_
  try simp only [pA, pB, p1, p2, p3]
  go_upto_region 1 with fail
  refine WL.start ?_
  refine tK (.pointer (some ⟨g, 0, none⟩)) ?_
  try simp only [pA, pB, p1, p2, p3]
  refine tK (.pointer (some ⟨g, 0, none⟩)) ?_
  try simp only [pA, pB, p1, p2, p3]
  refine tK (.pointer (some ⟨g, 0, none⟩)) ?_
  try simp only [pA, pB, p1, p2, p3]
  refine tW (.int .i64 3) (exec_load 3 _ rfl ⟨g, 0, none⟩ (by kernel_rfl) (.int .i64 3) (load_one (HB.out.cell 0) U3 rfl)) ?_
  try simp only [pA, pB, p1, p2, p3]
  refine WL.nil ?_
  try simp only [pA, pB, p1, p2, p3]
  go_upto_region 2 with fail
  refine WL.start ?_
  refine tK (.bool false) ?_
  try simp only [pA, pB, p1, p2, p3]
  refine tK (.bool false) ?_
  try simp only [pA, pB, p1, p2, p3]
  refine WL.nil ?_
  try simp only [pA, pB, p1, p2, p3]
  go_upto_region 10 with fail
  refine WL.start ?_
  refine tK (.bool false) ?_
  try simp only [pA, pB, p1, p2, p3]
  refine tK (.bool false) ?_
  try simp only [pA, pB, p1, p2, p3]
  refine WL.nil ?_
  try simp only [pA, pB, p1, p2, p3]
  go_upto_region 16 with fail
  refine WL.start ?_
  refine tK (.bool false) ?_
  try simp only [pA, pB, p1, p2, p3]
  refine tK (.bool false) ?_
  try simp only [pA, pB, p1, p2, p3]
  refine WL.nil ?_
  try simp only [pA, pB, p1, p2, p3]
  go_upto_region 23 with fail
  refine WL.start ?_
  refine tK (.bool true) ?_
  try simp only [pA, pB, p1, p2, p3]
  refine tK (.bool true) ?_
  try simp only [pA, pB, p1, p2, p3]
  refine WL.nil ?_
  try simp only [pA, pB, p1, p2, p3]
  go_upto_region 24 with fail
  refine WL.start ?_
  refine tK (.pointer (some ⟨g, 0, none⟩)) ?_
  try simp only [pA, pB, p1, p2, p3]
  refine tK (.int .u8 (bi c)) ?_
  try simp only [pA, pB, p1, p2, p3]
  refine wp_callW 24 #[.pointer (some ⟨g, 0, none⟩), .int .u8 (bi c)] (by kernel_rfl) _ (esc_any n0 g ⟨3, word, ws, dg, false⟩ c w ⟨_, _, _, _, HB.out, HW.out, HY.out, Nat.le_trans HL.out HK.out.size⟩ HWd.out HBd.out) (by kernel_rfl) ?_
  rintro e W9 ⟨rfl, hc9, hk9⟩
  have HCe : Hid (RdA n0 W9 g (escS ⟨3, word, ws, dg, false⟩ c)) := hc9
  have HKe : Hid (Kept (Sg n0 g) w W9) := HK.out.then hk9
  clear hc9 hk9
  refine ⟨.tuple #[], rfl, ?_⟩
  try simp only [pA, pB, p1, p2, p3]
  refine WL.nil ?_
  try simp only [pA, pB, p1, p2, p3]
  go_wp2
  go_end0
  rw [HC.out]
  exact ⟨rfl, by rw [HS.out]; exact HCe.out, HKe.out⟩
set_option maxRecDepth 100000 in
set_option maxHeartbeats 4000000 in
theorem nx_3n (n0 g : Nat) (word : List UInt8) (ws : List (List UInt8)) (dg : Int) (c : UInt8) (w : World) (hcut : RdA n0 w g ⟨3, word, ws, dg, false⟩) (hws : ws.length ≤ 1000000000000) (hbt : word.length ≤ 1000000000000) (h32 : bi c ≠ 32) (h9 : bi c ≠ 9)  : Calls Try.prog 20 #[.pointer (some ⟨g, 0, none⟩), .int .u8 (bi c)] w (PostR n0 g (nextS ⟨3, word, ws, dg, false⟩ c) w) := by
  obtain ⟨C, hC⟩ : ∃ C : Ending → World → Prop, C = (PostR n0 g (nextS ⟨3, word, ws, dg, false⟩ c) w) := ⟨_, rfl⟩
  have HC : Hid (C = (PostR n0 g (nextS ⟨3, word, ws, dg, false⟩ c) w)) := hC
  rw [← hC]
  clear hC
  have e32 : (bi c == 32) = false := by simp [h32]
  have e9 : (bi c == 9) = false := by simp [h9]
  have HS : Hid (nextS ⟨3, word, ws, dg, false⟩ c = escS ⟨3, word, ws, dg, false⟩ c) := by show _ = _; unfold nextS; simp [h32, h9]
  clear h32 h9
  obtain ⟨wa, wc, ba, bc, hC0⟩ := hcut
  have HB : Hid (Box w g 46 #[.int .i64 3, .slice ba word.length bc, .slice wa ws.length wc, .int .i64 dg, .bool false]) := hC0.box
  have HW : Hid (Own 9 1 w n0 wa wc ws.length (ws.map strV)) := hC0.hw
  have HY : Hid (Own 5 1 w n0 ba bc word.length (word.map u8V)) := hC0.hb
  have HL : Hid (n0 ≤ w.heap.size) := hC0.hn
  have HWd : Hid (ws.length ≤ 1000000000000) := hws
  have HBd : Hid (word.length ≤ 1000000000000) := hbt
  have HK : Hid (Kept (Sg n0 g) w w) := Kept.refl _ _
  clear hC0 hws hbt
  go_enter Try.func20, Try.ntmps20
  go_upto_region 0 with fail
  refine WL.start ?_
  refine tK (.int .u8 (bi c)) ?_
  try simp only [pA, pB, p1, p2, p3]
  refine tW (.bool false) (exec_bin .eql 5 _ _ _ rfl (.int .u8 (bi c)) (.int .u8 32) (.bool false) (by kernel_rfl) (by kernel_rfl) (by kernel_rfl) (by rw [b_eq5, e32])) ?_
  try simp only [pA, pB, p1, p2, p3]
  refine tK (.bool false) ?_
  try simp only [pA, pB, p1, p2, p3]
  refine tK (.int .u8 (bi c)) ?_
  try simp only [pA, pB, p1, p2, p3]
  refine tW (.bool false) (exec_bin .eql 5 _ _ _ rfl (.int .u8 (bi c)) (.int .u8 9) (.bool false) (by kernel_rfl) (by kernel_rfl) (by kernel_rfl) (by rw [b_eq5, e9])) ?_
  try simp only [pA, pB, p1, p2, p3]
  refine tK (.bool false) ?_
  try simp only [pA, pB, p1, p2, p3]
  refine tK (.bool false) ?_
  try simp only [pA, pB, p1, p2, p3]
  refine WL.nil ?_
  try simp only [pA, pB, p1, p2, p3]
  go_upto_region 1 with fail
  refine WL.start ?_
  refine tK (.pointer (some ⟨g, 0, none⟩)) ?_
  try simp only [pA, pB, p1, p2, p3]
  refine tK (.pointer (some ⟨g, 0, none⟩)) ?_
  try simp only [pA, pB, p1, p2, p3]
  refine tK (.pointer (some ⟨g, 0, none⟩)) ?_
  try simp only [pA, pB, p1, p2, p3]
  refine tW (.int .i64 3) (exec_load 3 _ rfl ⟨g, 0, none⟩ (by kernel_rfl) (.int .i64 3) (load_one (HB.out.cell 0) U3 rfl)) ?_
  try simp only [pA, pB, p1, p2, p3]
  refine WL.nil ?_
  try simp only [pA, pB, p1, p2, p3]
  go_upto_region 2 with fail
  refine WL.start ?_
  refine tK (.bool false) ?_
  try simp only [pA, pB, p1, p2, p3]
  refine tK (.bool false) ?_
  try simp only [pA, pB, p1, p2, p3]
  refine WL.nil ?_
  try simp only [pA, pB, p1, p2, p3]
  go_upto_region 10 with fail
  refine WL.start ?_
  refine tK (.bool false) ?_
  try simp only [pA, pB, p1, p2, p3]
  refine tK (.bool false) ?_
  try simp only [pA, pB, p1, p2, p3]
  refine WL.nil ?_
  try simp only [pA, pB, p1, p2, p3]
  go_upto_region 16 with fail
  refine WL.start ?_
  refine tK (.bool false) ?_
  try simp only [pA, pB, p1, p2, p3]
  refine tK (.bool false) ?_
  try simp only [pA, pB, p1, p2, p3]
  refine WL.nil ?_
  try simp only [pA, pB, p1, p2, p3]
  go_upto_region 23 with fail
  refine WL.start ?_
  refine tK (.bool true) ?_
  try simp only [pA, pB, p1, p2, p3]
  refine tK (.bool true) ?_
  try simp only [pA, pB, p1, p2, p3]
  refine WL.nil ?_
  try simp only [pA, pB, p1, p2, p3]
  go_upto_region 24 with fail
  refine WL.start ?_
  refine tK (.pointer (some ⟨g, 0, none⟩)) ?_
  try simp only [pA, pB, p1, p2, p3]
  refine tK (.int .u8 (bi c)) ?_
  try simp only [pA, pB, p1, p2, p3]
  refine wp_callW 24 #[.pointer (some ⟨g, 0, none⟩), .int .u8 (bi c)] (by kernel_rfl) _ (esc_any n0 g ⟨3, word, ws, dg, false⟩ c w ⟨_, _, _, _, HB.out, HW.out, HY.out, Nat.le_trans HL.out HK.out.size⟩ HWd.out HBd.out) (by kernel_rfl) ?_
  rintro e W9 ⟨rfl, hc9, hk9⟩
  have HCe : Hid (RdA n0 W9 g (escS ⟨3, word, ws, dg, false⟩ c)) := hc9
  have HKe : Hid (Kept (Sg n0 g) w W9) := HK.out.then hk9
  clear hc9 hk9
  refine ⟨.tuple #[], rfl, ?_⟩
  try simp only [pA, pB, p1, p2, p3]
  refine WL.nil ?_
  try simp only [pA, pB, p1, p2, p3]
  go_wp2
  go_end0
  rw [HC.out]
  exact ⟨rfl, by rw [HS.out]; exact HCe.out, HKe.out⟩
set_option maxRecDepth 100000 in
set_option maxHeartbeats 4000000 in
theorem nx_4s (n0 g : Nat) (word : List UInt8) (ws : List (List UInt8)) (dg : Int) (c : UInt8) (w : World) (hcut : RdA n0 w g ⟨4, word, ws, dg, false⟩) (hws : ws.length ≤ 1000000000000) (hbt : word.length ≤ 1000000000000) (h32 : bi c = 32)  : Calls Try.prog 20 #[.pointer (some ⟨g, 0, none⟩), .int .u8 (bi c)] w (PostR n0 g (nextS ⟨4, word, ws, dg, false⟩ c) w) := by
  obtain ⟨C, hC⟩ : ∃ C : Ending → World → Prop, C = (PostR n0 g (nextS ⟨4, word, ws, dg, false⟩ c) w) := ⟨_, rfl⟩
  have HC : Hid (C = (PostR n0 g (nextS ⟨4, word, ws, dg, false⟩ c) w)) := hC
  rw [← hC]
  clear hC
  have e32 : (bi c == 32) = true := by simp [h32]
  have HS : Hid (nextS ⟨4, word, ws, dg, false⟩ c = ⟨5, word, ws, hexI (bi c), decide (hexI (bi c) < 0)⟩) := by show _ = _; unfold nextS; simp [h32]
  clear h32
  obtain ⟨wa, wc, ba, bc, hC0⟩ := hcut
  have HB : Hid (Box w g 46 #[.int .i64 4, .slice ba word.length bc, .slice wa ws.length wc, .int .i64 dg, .bool false]) := hC0.box
  have HW : Hid (Own 9 1 w n0 wa wc ws.length (ws.map strV)) := hC0.hw
  have HY : Hid (Own 5 1 w n0 ba bc word.length (word.map u8V)) := hC0.hb
  have HL : Hid (n0 ≤ w.heap.size) := hC0.hn
  have HWd : Hid (ws.length ≤ 1000000000000) := hws
  have HBd : Hid (word.length ≤ 1000000000000) := hbt
  have HK : Hid (Kept (Sg n0 g) w w) := Kept.refl _ _
  clear hC0 hws hbt
  go_enter Try.func20, Try.ntmps20
  go_upto_region 0 with fail
  refine WL.start ?_
  refine tK (.int .u8 (bi c)) ?_
  try simp only [pA, pB, p1, p2, p3]
  refine tW (.bool true) (exec_bin .eql 5 _ _ _ rfl (.int .u8 (bi c)) (.int .u8 32) (.bool true) (by kernel_rfl) (by kernel_rfl) (by kernel_rfl) (by rw [b_eq5, e32])) ?_
  try simp only [pA, pB, p1, p2, p3]
  refine tK (.bool true) ?_
  try simp only [pA, pB, p1, p2, p3]
  refine sK ?_
  try simp only [pA, pB, p1, p2, p3]
  refine sK ?_
  try simp only [pA, pB, p1, p2, p3]
  refine tK (.bool true) ?_
  try simp only [pA, pB, p1, p2, p3]
  refine tK (.bool true) ?_
  try simp only [pA, pB, p1, p2, p3]
  refine WL.nil ?_
  try simp only [pA, pB, p1, p2, p3]
  go_upto_region 1 with fail
  refine WL.start ?_
  refine tK (.pointer (some ⟨g, 0, none⟩)) ?_
  try simp only [pA, pB, p1, p2, p3]
  refine tK (.pointer (some ⟨g, 0, none⟩)) ?_
  try simp only [pA, pB, p1, p2, p3]
  refine tK (.pointer (some ⟨g, 0, none⟩)) ?_
  try simp only [pA, pB, p1, p2, p3]
  refine tW (.int .i64 4) (exec_load 3 _ rfl ⟨g, 0, none⟩ (by kernel_rfl) (.int .i64 4) (load_one (HB.out.cell 0) U3 rfl)) ?_
  try simp only [pA, pB, p1, p2, p3]
  refine WL.nil ?_
  try simp only [pA, pB, p1, p2, p3]
  go_upto_region 2 with fail
  refine WL.start ?_
  refine tK (.bool false) ?_
  try simp only [pA, pB, p1, p2, p3]
  refine tK (.bool false) ?_
  try simp only [pA, pB, p1, p2, p3]
  refine WL.nil ?_
  try simp only [pA, pB, p1, p2, p3]
  go_upto_region 10 with fail
  refine WL.start ?_
  refine tK (.bool false) ?_
  try simp only [pA, pB, p1, p2, p3]
  refine tK (.bool false) ?_
  try simp only [pA, pB, p1, p2, p3]
  refine WL.nil ?_
  try simp only [pA, pB, p1, p2, p3]
  go_upto_region 16 with fail
  refine WL.start ?_
  refine tK (.bool false) ?_
  try simp only [pA, pB, p1, p2, p3]
  refine tK (.bool false) ?_
  try simp only [pA, pB, p1, p2, p3]
  refine WL.nil ?_
  try simp only [pA, pB, p1, p2, p3]
  go_upto_region 23 with fail
  refine WL.start ?_
  refine tK (.bool false) ?_
  try simp only [pA, pB, p1, p2, p3]
  refine tK (.bool false) ?_
  try simp only [pA, pB, p1, p2, p3]
  refine WL.nil ?_
  try simp only [pA, pB, p1, p2, p3]
  go_upto_region 25 with fail
  refine WL.start ?_
  refine tK (.bool true) ?_
  try simp only [pA, pB, p1, p2, p3]
  refine tK (.bool true) ?_
  try simp only [pA, pB, p1, p2, p3]
  refine WL.nil ?_
  try simp only [pA, pB, p1, p2, p3]
  go_upto_region 26 with fail
  refine WL.start ?_
  refine tK (.pointer (some ⟨g, 0, none⟩)) ?_
  try simp only [pA, pB, p1, p2, p3]
  refine tK (.int .u8 (bi c)) ?_
  try simp only [pA, pB, p1, p2, p3]
  refine wp_callW 25 #[.int .u8 (bi c)] (by kernel_rfl) _ (hex_any _ (bi_lt c) w) (by kernel_rfl) ?_
  rintro e wq ⟨rfl, hwq⟩
  rw [hwq]
  clear hwq wq
  refine ⟨.int .i64 (hexI (bi c)), rfl, ?_⟩
  try simp only [pA, pB, p1, p2, p3]
  refine tK (.pointer (some ⟨g, 0, none⟩)) ?_
  try simp only [pA, pB, p1, p2, p3]
  refine tK (.pointer (some ⟨g, 3, none⟩)) ?_
  try simp only [pA, pB, p1, p2, p3]
  have hst : (storeVar 3 ⟨g, 3, none⟩ (.int .i64 (hexI (bi c)))).run Try.prog w = .ok () (w.setRow g #[.int .i64 4, .slice ba word.length bc, .slice wa ws.length wc, .int .i64 (hexI (bi c)), .bool false]) := run_store_to (cur := [.int .i64 4, .slice ba word.length bc, .slice wa ws.length wc, .int .i64 dg, .bool false]) (vs := [.int .i64 (hexI (bi c))]) (new := [.int .i64 4, .slice ba word.length bc, .slice wa ws.length wc, .int .i64 (hexI (bi c)), .bool false]) HB.out (by kernel_rfl) S3 (Nat.le_of_ble_eq_true (by kernel_rfl)) (by simp [Value.oneCell', strV, u8V]) (by kernel_rfl)
  have HW : Hid (Own 9 1 (w.setRow g #[.int .i64 4, .slice ba word.length bc, .slice wa ws.length wc, .int .i64 (hexI (bi c)), .bool false]) n0 wa wc ws.length (ws.map strV)) := HW.out.kept (Kept.setRow _ _ _) (HW.out.notBox HB.out (by decide))
  have HY : Hid (Own 5 1 (w.setRow g #[.int .i64 4, .slice ba word.length bc, .slice wa ws.length wc, .int .i64 (hexI (bi c)), .bool false]) n0 ba bc word.length (word.map u8V)) := HY.out.kept (Kept.setRow _ _ _) (HY.out.notBox HB.out (by decide))
  have HK : Hid (Kept (Sg n0 g) w (w.setRow g #[.int .i64 4, .slice ba word.length bc, .slice wa ws.length wc, .int .i64 (hexI (bi c)), .bool false])) := HK.out.inRow (S := Sg n0 g) (Or.inl rfl) _
  have HB : Hid (Box (w.setRow g #[.int .i64 4, .slice ba word.length bc, .slice wa ws.length wc, .int .i64 (hexI (bi c)), .bool false]) g 46 #[.int .i64 4, .slice ba word.length bc, .slice wa ws.length wc, .int .i64 (hexI (bi c)), .bool false]) := HB.out.setRow _
  refine wp_storeW 3 _ _ rfl ⟨g, 3, none⟩ (.int .i64 (hexI (bi c))) (by kernel_rfl) (by kernel_rfl) (w.setRow g #[.int .i64 4, .slice ba word.length bc, .slice wa ws.length wc, .int .i64 (hexI (bi c)), .bool false]) hst (by kernel_rfl) ?_
  try simp only [pA, pB, p1, p2, p3]
  clear hst
  generalize w.setRow g #[.int .i64 4, .slice ba word.length bc, .slice wa ws.length wc, .int .i64 (hexI (bi c)), .bool false] = wk1 at HW HY HK HB ⊢
  refine WL.nil ?_
  try simp only [pA, pB, p1, p2, p3]
  go_upto_region 27 with fail
  refine WL.start ?_
  refine tK (.pointer (some ⟨g, 0, none⟩)) ?_
  try simp only [pA, pB, p1, p2, p3]
  refine tK (.pointer (some ⟨g, 0, none⟩)) ?_
  try simp only [pA, pB, p1, p2, p3]
  refine tK (.pointer (some ⟨g, 0, none⟩)) ?_
  try simp only [pA, pB, p1, p2, p3]
  have hst : (storeVar 3 ⟨g, 0, none⟩ (.int .i64 5)).run Try.prog wk1 = .ok () (wk1.setRow g #[.int .i64 5, .slice ba word.length bc, .slice wa ws.length wc, .int .i64 (hexI (bi c)), .bool false]) := run_store_to (cur := [.int .i64 4, .slice ba word.length bc, .slice wa ws.length wc, .int .i64 (hexI (bi c)), .bool false]) (vs := [.int .i64 5]) (new := [.int .i64 5, .slice ba word.length bc, .slice wa ws.length wc, .int .i64 (hexI (bi c)), .bool false]) HB.out (by kernel_rfl) S3 (Nat.le_of_ble_eq_true (by kernel_rfl)) (by simp [Value.oneCell', strV, u8V]) (by kernel_rfl)
  have HW : Hid (Own 9 1 (wk1.setRow g #[.int .i64 5, .slice ba word.length bc, .slice wa ws.length wc, .int .i64 (hexI (bi c)), .bool false]) n0 wa wc ws.length (ws.map strV)) := HW.out.kept (Kept.setRow _ _ _) (HW.out.notBox HB.out (by decide))
  have HY : Hid (Own 5 1 (wk1.setRow g #[.int .i64 5, .slice ba word.length bc, .slice wa ws.length wc, .int .i64 (hexI (bi c)), .bool false]) n0 ba bc word.length (word.map u8V)) := HY.out.kept (Kept.setRow _ _ _) (HY.out.notBox HB.out (by decide))
  have HK : Hid (Kept (Sg n0 g) w (wk1.setRow g #[.int .i64 5, .slice ba word.length bc, .slice wa ws.length wc, .int .i64 (hexI (bi c)), .bool false])) := HK.out.inRow (S := Sg n0 g) (Or.inl rfl) _
  have HB : Hid (Box (wk1.setRow g #[.int .i64 5, .slice ba word.length bc, .slice wa ws.length wc, .int .i64 (hexI (bi c)), .bool false]) g 46 #[.int .i64 5, .slice ba word.length bc, .slice wa ws.length wc, .int .i64 (hexI (bi c)), .bool false]) := HB.out.setRow _
  refine wp_storeW 3 _ _ rfl ⟨g, 0, none⟩ (.int .i64 5) (by kernel_rfl) (by kernel_rfl) (wk1.setRow g #[.int .i64 5, .slice ba word.length bc, .slice wa ws.length wc, .int .i64 (hexI (bi c)), .bool false]) hst (by kernel_rfl) ?_
  try simp only [pA, pB, p1, p2, p3]
  clear hst
  generalize wk1.setRow g #[.int .i64 5, .slice ba word.length bc, .slice wa ws.length wc, .int .i64 (hexI (bi c)), .bool false] = wk2 at HW HY HK HB ⊢
  refine WL.nil ?_
  try simp only [pA, pB, p1, p2, p3]
  go_upto_region 28 with fail
  refine WL.start ?_
  refine tK (.pointer (some ⟨g, 0, none⟩)) ?_
  try simp only [pA, pB, p1, p2, p3]
  refine tK (.pointer (some ⟨g, 0, none⟩)) ?_
  try simp only [pA, pB, p1, p2, p3]
  refine tK (.pointer (some ⟨g, 0, none⟩)) ?_
  try simp only [pA, pB, p1, p2, p3]
  refine tK (.pointer (some ⟨g, 4, none⟩)) ?_
  try simp only [pA, pB, p1, p2, p3]
  refine tW (.bool false) (exec_load 4 _ rfl ⟨g, 4, none⟩ (by kernel_rfl) (.bool false) (load_one (HB.out.cell 4) U4 rfl)) ?_
  try simp only [pA, pB, p1, p2, p3]
  refine tK (.bool false) ?_
  try simp only [pA, pB, p1, p2, p3]
  refine tK (.pointer (some ⟨g, 0, none⟩)) ?_
  try simp only [pA, pB, p1, p2, p3]
  refine tK (.pointer (some ⟨g, 0, none⟩)) ?_
  try simp only [pA, pB, p1, p2, p3]
  refine tK (.pointer (some ⟨g, 3, none⟩)) ?_
  try simp only [pA, pB, p1, p2, p3]
  refine tW (.int .i64 (hexI (bi c))) (exec_load 3 _ rfl ⟨g, 3, none⟩ (by kernel_rfl) (.int .i64 (hexI (bi c))) (load_one (HB.out.cell 3) U3 rfl)) ?_
  try simp only [pA, pB, p1, p2, p3]
  refine tW (.bool (decide ((hexI (bi c)) < 0))) (exec_bin .lss 3 _ _ _ rfl (.int .i64 (hexI (bi c))) (.int .i64 0) (.bool (decide ((hexI (bi c)) < 0))) (by kernel_rfl) (by kernel_rfl) (by kernel_rfl) (b_lss _ _ _)) ?_
  try simp only [pA, pB, p1, p2, p3]
  refine tK (.bool (decide ((hexI (bi c)) < 0))) ?_
  try simp only [pA, pB, p1, p2, p3]
  refine tK (.pointer (some ⟨g, 0, none⟩)) ?_
  try simp only [pA, pB, p1, p2, p3]
  refine tK (.pointer (some ⟨g, 4, none⟩)) ?_
  try simp only [pA, pB, p1, p2, p3]
  have hst : (storeVar 4 ⟨g, 4, none⟩ (.bool (decide ((hexI (bi c)) < 0)))).run Try.prog wk2 = .ok () (wk2.setRow g #[.int .i64 5, .slice ba word.length bc, .slice wa ws.length wc, .int .i64 (hexI (bi c)), .bool (decide ((hexI (bi c)) < 0))]) := run_store_to (cur := [.int .i64 5, .slice ba word.length bc, .slice wa ws.length wc, .int .i64 (hexI (bi c)), .bool false]) (vs := [.bool (decide ((hexI (bi c)) < 0))]) (new := [.int .i64 5, .slice ba word.length bc, .slice wa ws.length wc, .int .i64 (hexI (bi c)), .bool (decide ((hexI (bi c)) < 0))]) HB.out (by kernel_rfl) S4 (Nat.le_of_ble_eq_true (by kernel_rfl)) (by simp [Value.oneCell', strV, u8V]) (by kernel_rfl)
  have HW : Hid (Own 9 1 (wk2.setRow g #[.int .i64 5, .slice ba word.length bc, .slice wa ws.length wc, .int .i64 (hexI (bi c)), .bool (decide ((hexI (bi c)) < 0))]) n0 wa wc ws.length (ws.map strV)) := HW.out.kept (Kept.setRow _ _ _) (HW.out.notBox HB.out (by decide))
  have HY : Hid (Own 5 1 (wk2.setRow g #[.int .i64 5, .slice ba word.length bc, .slice wa ws.length wc, .int .i64 (hexI (bi c)), .bool (decide ((hexI (bi c)) < 0))]) n0 ba bc word.length (word.map u8V)) := HY.out.kept (Kept.setRow _ _ _) (HY.out.notBox HB.out (by decide))
  have HK : Hid (Kept (Sg n0 g) w (wk2.setRow g #[.int .i64 5, .slice ba word.length bc, .slice wa ws.length wc, .int .i64 (hexI (bi c)), .bool (decide ((hexI (bi c)) < 0))])) := HK.out.inRow (S := Sg n0 g) (Or.inl rfl) _
  have HB : Hid (Box (wk2.setRow g #[.int .i64 5, .slice ba word.length bc, .slice wa ws.length wc, .int .i64 (hexI (bi c)), .bool (decide ((hexI (bi c)) < 0))]) g 46 #[.int .i64 5, .slice ba word.length bc, .slice wa ws.length wc, .int .i64 (hexI (bi c)), .bool (decide ((hexI (bi c)) < 0))]) := HB.out.setRow _
  refine wp_storeW 4 _ _ rfl ⟨g, 4, none⟩ (.bool (decide ((hexI (bi c)) < 0))) (by kernel_rfl) (by kernel_rfl) (wk2.setRow g #[.int .i64 5, .slice ba word.length bc, .slice wa ws.length wc, .int .i64 (hexI (bi c)), .bool (decide ((hexI (bi c)) < 0))]) hst (by kernel_rfl) ?_
  try simp only [pA, pB, p1, p2, p3]
  clear hst
  generalize wk2.setRow g #[.int .i64 5, .slice ba word.length bc, .slice wa ws.length wc, .int .i64 (hexI (bi c)), .bool (decide ((hexI (bi c)) < 0))] = wk3 at HW HY HK HB ⊢
  refine WL.nil ?_
  try simp only [pA, pB, p1, p2, p3]
  go_wp2
  go_end0
  rw [HC.out]
  exact ⟨rfl, by rw [HS.out]; exact RdA.of _ HB.out HW.out HY.out (Nat.le_trans HL.out HK.out.size) (by simp) (by simp [strV]) (by simp) (by simp) (by simp) (by simp [u8V, bi]) (by simp), HK.out⟩
set_option maxRecDepth 100000 in
set_option maxHeartbeats 4000000 in
theorem nx_4t (n0 g : Nat) (word : List UInt8) (ws : List (List UInt8)) (dg : Int) (c : UInt8) (w : World) (hcut : RdA n0 w g ⟨4, word, ws, dg, false⟩) (hws : ws.length ≤ 1000000000000) (hbt : word.length ≤ 1000000000000) (h32 : bi c ≠ 32) (h9 : bi c = 9)  : Calls Try.prog 20 #[.pointer (some ⟨g, 0, none⟩), .int .u8 (bi c)] w (PostR n0 g (nextS ⟨4, word, ws, dg, false⟩ c) w) := by
  obtain ⟨C, hC⟩ : ∃ C : Ending → World → Prop, C = (PostR n0 g (nextS ⟨4, word, ws, dg, false⟩ c) w) := ⟨_, rfl⟩
  have HC : Hid (C = (PostR n0 g (nextS ⟨4, word, ws, dg, false⟩ c) w)) := hC
  rw [← hC]
  clear hC
  have e32 : (bi c == 32) = false := by simp [h32]
  have e9 : (bi c == 9) = true := by simp [h9]
  have HS : Hid (nextS ⟨4, word, ws, dg, false⟩ c = ⟨5, word, ws, hexI (bi c), decide (hexI (bi c) < 0)⟩) := by show _ = _; unfold nextS; simp [h32, h9]
  clear h32 h9
  obtain ⟨wa, wc, ba, bc, hC0⟩ := hcut
  have HB : Hid (Box w g 46 #[.int .i64 4, .slice ba word.length bc, .slice wa ws.length wc, .int .i64 dg, .bool false]) := hC0.box
  have HW : Hid (Own 9 1 w n0 wa wc ws.length (ws.map strV)) := hC0.hw
  have HY : Hid (Own 5 1 w n0 ba bc word.length (word.map u8V)) := hC0.hb
  have HL : Hid (n0 ≤ w.heap.size) := hC0.hn
  have HWd : Hid (ws.length ≤ 1000000000000) := hws
  have HBd : Hid (word.length ≤ 1000000000000) := hbt
  have HK : Hid (Kept (Sg n0 g) w w) := Kept.refl _ _
  clear hC0 hws hbt
  go_enter Try.func20, Try.ntmps20
  go_upto_region 0 with fail
  refine WL.start ?_
  refine tK (.int .u8 (bi c)) ?_
  try simp only [pA, pB, p1, p2, p3]
  refine tW (.bool false) (exec_bin .eql 5 _ _ _ rfl (.int .u8 (bi c)) (.int .u8 32) (.bool false) (by kernel_rfl) (by kernel_rfl) (by kernel_rfl) (by rw [b_eq5, e32])) ?_
  try simp only [pA, pB, p1, p2, p3]
  refine tK (.bool false) ?_
  try simp only [pA, pB, p1, p2, p3]
  refine tK (.int .u8 (bi c)) ?_
  try simp only [pA, pB, p1, p2, p3]
  refine tW (.bool true) (exec_bin .eql 5 _ _ _ rfl (.int .u8 (bi c)) (.int .u8 9) (.bool true) (by kernel_rfl) (by kernel_rfl) (by kernel_rfl) (by rw [b_eq5, e9])) ?_
  try simp only [pA, pB, p1, p2, p3]
  refine tK (.bool true) ?_
  try simp only [pA, pB, p1, p2, p3]
  refine tK (.bool true) ?_
  try simp only [pA, pB, p1, p2, p3]
  refine WL.nil ?_
  try simp only [pA, pB, p1, p2, p3]
  go_upto_region 1 with fail
  refine WL.start ?_
  refine tK (.pointer (some ⟨g, 0, none⟩)) ?_
  try simp only [pA, pB, p1, p2, p3]
  refine tK (.pointer (some ⟨g, 0, none⟩)) ?_
  try simp only [pA, pB, p1, p2, p3]
  refine tK (.pointer (some ⟨g, 0, none⟩)) ?_
  try simp only [pA, pB, p1, p2, p3]
  refine tW (.int .i64 4) (exec_load 3 _ rfl ⟨g, 0, none⟩ (by kernel_rfl) (.int .i64 4) (load_one (HB.out.cell 0) U3 rfl)) ?_
  try simp only [pA, pB, p1, p2, p3]
  refine WL.nil ?_
  try simp only [pA, pB, p1, p2, p3]
  go_upto_region 2 with fail
  refine WL.start ?_
  refine tK (.bool false) ?_
  try simp only [pA, pB, p1, p2, p3]
  refine tK (.bool false) ?_
  try simp only [pA, pB, p1, p2, p3]
  refine WL.nil ?_
  try simp only [pA, pB, p1, p2, p3]
  go_upto_region 10 with fail
  refine WL.start ?_
  refine tK (.bool false) ?_
  try simp only [pA, pB, p1, p2, p3]
  refine tK (.bool false) ?_
  try simp only [pA, pB, p1, p2, p3]
  refine WL.nil ?_
  try simp only [pA, pB, p1, p2, p3]
  go_upto_region 16 with fail
  refine WL.start ?_
  refine tK (.bool false) ?_
  try simp only [pA, pB, p1, p2, p3]
  refine tK (.bool false) ?_
  try simp only [pA, pB, p1, p2, p3]
  refine WL.nil ?_
  try simp only [pA, pB, p1, p2, p3]
  go_upto_region 23 with fail
  refine WL.start ?_
  refine tK (.bool false) ?_
  try simp only [pA, pB, p1, p2, p3]
  refine tK (.bool false) ?_
  try simp only [pA, pB, p1, p2, p3]
  refine WL.nil ?_
  try simp only [pA, pB, p1, p2, p3]
  go_upto_region 25 with fail
  refine WL.start ?_
  refine tK (.bool true) ?_
  try simp only [pA, pB, p1, p2, p3]
  refine tK (.bool true) ?_
  try simp only [pA, pB, p1, p2, p3]
  refine WL.nil ?_
  try simp only [pA, pB, p1, p2, p3]
  go_upto_region 26 with fail
  refine WL.start ?_
  refine tK (.pointer (some ⟨g, 0, none⟩)) ?_
  try simp only [pA, pB, p1, p2, p3]
  refine tK (.int .u8 (bi c)) ?_
  try simp only [pA, pB, p1, p2, p3]
  refine wp_callW 25 #[.int .u8 (bi c)] (by kernel_rfl) _ (hex_any _ (bi_lt c) w) (by kernel_rfl) ?_
  rintro e wq ⟨rfl, hwq⟩
  rw [hwq]
  clear hwq wq
  refine ⟨.int .i64 (hexI (bi c)), rfl, ?_⟩
  try simp only [pA, pB, p1, p2, p3]
  refine tK (.pointer (some ⟨g, 0, none⟩)) ?_
  try simp only [pA, pB, p1, p2, p3]
  refine tK (.pointer (some ⟨g, 3, none⟩)) ?_
  try simp only [pA, pB, p1, p2, p3]
  have hst : (storeVar 3 ⟨g, 3, none⟩ (.int .i64 (hexI (bi c)))).run Try.prog w = .ok () (w.setRow g #[.int .i64 4, .slice ba word.length bc, .slice wa ws.length wc, .int .i64 (hexI (bi c)), .bool false]) := run_store_to (cur := [.int .i64 4, .slice ba word.length bc, .slice wa ws.length wc, .int .i64 dg, .bool false]) (vs := [.int .i64 (hexI (bi c))]) (new := [.int .i64 4, .slice ba word.length bc, .slice wa ws.length wc, .int .i64 (hexI (bi c)), .bool false]) HB.out (by kernel_rfl) S3 (Nat.le_of_ble_eq_true (by kernel_rfl)) (by simp [Value.oneCell', strV, u8V]) (by kernel_rfl)
  have HW : Hid (Own 9 1 (w.setRow g #[.int .i64 4, .slice ba word.length bc, .slice wa ws.length wc, .int .i64 (hexI (bi c)), .bool false]) n0 wa wc ws.length (ws.map strV)) := HW.out.kept (Kept.setRow _ _ _) (HW.out.notBox HB.out (by decide))
  have HY : Hid (Own 5 1 (w.setRow g #[.int .i64 4, .slice ba word.length bc, .slice wa ws.length wc, .int .i64 (hexI (bi c)), .bool false]) n0 ba bc word.length (word.map u8V)) := HY.out.kept (Kept.setRow _ _ _) (HY.out.notBox HB.out (by decide))
  have HK : Hid (Kept (Sg n0 g) w (w.setRow g #[.int .i64 4, .slice ba word.length bc, .slice wa ws.length wc, .int .i64 (hexI (bi c)), .bool false])) := HK.out.inRow (S := Sg n0 g) (Or.inl rfl) _
  have HB : Hid (Box (w.setRow g #[.int .i64 4, .slice ba word.length bc, .slice wa ws.length wc, .int .i64 (hexI (bi c)), .bool false]) g 46 #[.int .i64 4, .slice ba word.length bc, .slice wa ws.length wc, .int .i64 (hexI (bi c)), .bool false]) := HB.out.setRow _
  refine wp_storeW 3 _ _ rfl ⟨g, 3, none⟩ (.int .i64 (hexI (bi c))) (by kernel_rfl) (by kernel_rfl) (w.setRow g #[.int .i64 4, .slice ba word.length bc, .slice wa ws.length wc, .int .i64 (hexI (bi c)), .bool false]) hst (by kernel_rfl) ?_
  try simp only [pA, pB, p1, p2, p3]
  clear hst
  generalize w.setRow g #[.int .i64 4, .slice ba word.length bc, .slice wa ws.length wc, .int .i64 (hexI (bi c)), .bool false] = wk1 at HW HY HK HB ⊢
  refine WL.nil ?_
  try simp only [pA, pB, p1, p2, p3]
  go_upto_region 27 with fail
  refine WL.start ?_
  refine tK (.pointer (some ⟨g, 0, none⟩)) ?_
  try simp only [pA, pB, p1, p2, p3]
  refine tK (.pointer (some ⟨g, 0, none⟩)) ?_
  try simp only [pA, pB, p1, p2, p3]
  refine tK (.pointer (some ⟨g, 0, none⟩)) ?_
  try simp only [pA, pB, p1, p2, p3]
  have hst : (storeVar 3 ⟨g, 0, none⟩ (.int .i64 5)).run Try.prog wk1 = .ok () (wk1.setRow g #[.int .i64 5, .slice ba word.length bc, .slice wa ws.length wc, .int .i64 (hexI (bi c)), .bool false]) := run_store_to (cur := [.int .i64 4, .slice ba word.length bc, .slice wa ws.length wc, .int .i64 (hexI (bi c)), .bool false]) (vs := [.int .i64 5]) (new := [.int .i64 5, .slice ba word.length bc, .slice wa ws.length wc, .int .i64 (hexI (bi c)), .bool false]) HB.out (by kernel_rfl) S3 (Nat.le_of_ble_eq_true (by kernel_rfl)) (by simp [Value.oneCell', strV, u8V]) (by kernel_rfl)
  have HW : Hid (Own 9 1 (wk1.setRow g #[.int .i64 5, .slice ba word.length bc, .slice wa ws.length wc, .int .i64 (hexI (bi c)), .bool false]) n0 wa wc ws.length (ws.map strV)) := HW.out.kept (Kept.setRow _ _ _) (HW.out.notBox HB.out (by decide))
  have HY : Hid (Own 5 1 (wk1.setRow g #[.int .i64 5, .slice ba word.length bc, .slice wa ws.length wc, .int .i64 (hexI (bi c)), .bool false]) n0 ba bc word.length (word.map u8V)) := HY.out.kept (Kept.setRow _ _ _) (HY.out.notBox HB.out (by decide))
  have HK : Hid (Kept (Sg n0 g) w (wk1.setRow g #[.int .i64 5, .slice ba word.length bc, .slice wa ws.length wc, .int .i64 (hexI (bi c)), .bool false])) := HK.out.inRow (S := Sg n0 g) (Or.inl rfl) _
  have HB : Hid (Box (wk1.setRow g #[.int .i64 5, .slice ba word.length bc, .slice wa ws.length wc, .int .i64 (hexI (bi c)), .bool false]) g 46 #[.int .i64 5, .slice ba word.length bc, .slice wa ws.length wc, .int .i64 (hexI (bi c)), .bool false]) := HB.out.setRow _
  refine wp_storeW 3 _ _ rfl ⟨g, 0, none⟩ (.int .i64 5) (by kernel_rfl) (by kernel_rfl) (wk1.setRow g #[.int .i64 5, .slice ba word.length bc, .slice wa ws.length wc, .int .i64 (hexI (bi c)), .bool false]) hst (by kernel_rfl) ?_
  try simp only [pA, pB, p1, p2, p3]
  clear hst
  generalize wk1.setRow g #[.int .i64 5, .slice ba word.length bc, .slice wa ws.length wc, .int .i64 (hexI (bi c)), .bool false] = wk2 at HW HY HK HB ⊢
  refine WL.nil ?_
  try simp only [pA, pB, p1, p2, p3]
  go_upto_region 28 with fail
  refine WL.start ?_
  refine tK (.pointer (some ⟨g, 0, none⟩)) ?_
  try simp only [pA, pB, p1, p2, p3]
  refine tK (.pointer (some ⟨g, 0, none⟩)) ?_
  try simp only [pA, pB, p1, p2, p3]
  refine tK (.pointer (some ⟨g, 0, none⟩)) ?_
  try simp only [pA, pB, p1, p2, p3]
  refine tK (.pointer (some ⟨g, 4, none⟩)) ?_
  try simp only [pA, pB, p1, p2, p3]
  refine tW (.bool false) (exec_load 4 _ rfl ⟨g, 4, none⟩ (by kernel_rfl) (.bool false) (load_one (HB.out.cell 4) U4 rfl)) ?_
  try simp only [pA, pB, p1, p2, p3]
  refine tK (.bool false) ?_
  try simp only [pA, pB, p1, p2, p3]
  refine tK (.pointer (some ⟨g, 0, none⟩)) ?_
  try simp only [pA, pB, p1, p2, p3]
  refine tK (.pointer (some ⟨g, 0, none⟩)) ?_
  try simp only [pA, pB, p1, p2, p3]
  refine tK (.pointer (some ⟨g, 3, none⟩)) ?_
  try simp only [pA, pB, p1, p2, p3]
  refine tW (.int .i64 (hexI (bi c))) (exec_load 3 _ rfl ⟨g, 3, none⟩ (by kernel_rfl) (.int .i64 (hexI (bi c))) (load_one (HB.out.cell 3) U3 rfl)) ?_
  try simp only [pA, pB, p1, p2, p3]
  refine tW (.bool (decide ((hexI (bi c)) < 0))) (exec_bin .lss 3 _ _ _ rfl (.int .i64 (hexI (bi c))) (.int .i64 0) (.bool (decide ((hexI (bi c)) < 0))) (by kernel_rfl) (by kernel_rfl) (by kernel_rfl) (b_lss _ _ _)) ?_
  try simp only [pA, pB, p1, p2, p3]
  refine tK (.bool (decide ((hexI (bi c)) < 0))) ?_
  try simp only [pA, pB, p1, p2, p3]
  refine tK (.pointer (some ⟨g, 0, none⟩)) ?_
  try simp only [pA, pB, p1, p2, p3]
  refine tK (.pointer (some ⟨g, 4, none⟩)) ?_
  try simp only [pA, pB, p1, p2, p3]
  have hst : (storeVar 4 ⟨g, 4, none⟩ (.bool (decide ((hexI (bi c)) < 0)))).run Try.prog wk2 = .ok () (wk2.setRow g #[.int .i64 5, .slice ba word.length bc, .slice wa ws.length wc, .int .i64 (hexI (bi c)), .bool (decide ((hexI (bi c)) < 0))]) := run_store_to (cur := [.int .i64 5, .slice ba word.length bc, .slice wa ws.length wc, .int .i64 (hexI (bi c)), .bool false]) (vs := [.bool (decide ((hexI (bi c)) < 0))]) (new := [.int .i64 5, .slice ba word.length bc, .slice wa ws.length wc, .int .i64 (hexI (bi c)), .bool (decide ((hexI (bi c)) < 0))]) HB.out (by kernel_rfl) S4 (Nat.le_of_ble_eq_true (by kernel_rfl)) (by simp [Value.oneCell', strV, u8V]) (by kernel_rfl)
  have HW : Hid (Own 9 1 (wk2.setRow g #[.int .i64 5, .slice ba word.length bc, .slice wa ws.length wc, .int .i64 (hexI (bi c)), .bool (decide ((hexI (bi c)) < 0))]) n0 wa wc ws.length (ws.map strV)) := HW.out.kept (Kept.setRow _ _ _) (HW.out.notBox HB.out (by decide))
  have HY : Hid (Own 5 1 (wk2.setRow g #[.int .i64 5, .slice ba word.length bc, .slice wa ws.length wc, .int .i64 (hexI (bi c)), .bool (decide ((hexI (bi c)) < 0))]) n0 ba bc word.length (word.map u8V)) := HY.out.kept (Kept.setRow _ _ _) (HY.out.notBox HB.out (by decide))
  have HK : Hid (Kept (Sg n0 g) w (wk2.setRow g #[.int .i64 5, .slice ba word.length bc, .slice wa ws.length wc, .int .i64 (hexI (bi c)), .bool (decide ((hexI (bi c)) < 0))])) := HK.out.inRow (S := Sg n0 g) (Or.inl rfl) _
  have HB : Hid (Box (wk2.setRow g #[.int .i64 5, .slice ba word.length bc, .slice wa ws.length wc, .int .i64 (hexI (bi c)), .bool (decide ((hexI (bi c)) < 0))]) g 46 #[.int .i64 5, .slice ba word.length bc, .slice wa ws.length wc, .int .i64 (hexI (bi c)), .bool (decide ((hexI (bi c)) < 0))]) := HB.out.setRow _
  refine wp_storeW 4 _ _ rfl ⟨g, 4, none⟩ (.bool (decide ((hexI (bi c)) < 0))) (by kernel_rfl) (by kernel_rfl) (wk2.setRow g #[.int .i64 5, .slice ba word.length bc, .slice wa ws.length wc, .int .i64 (hexI (bi c)), .bool (decide ((hexI (bi c)) < 0))]) hst (by kernel_rfl) ?_
  try simp only [pA, pB, p1, p2, p3]
  clear hst
  generalize wk2.setRow g #[.int .i64 5, .slice ba word.length bc, .slice wa ws.length wc, .int .i64 (hexI (bi c)), .bool (decide ((hexI (bi c)) < 0))] = wk3 at HW HY HK HB ⊢
  refine WL.nil ?_
  try simp only [pA, pB, p1, p2, p3]
  go_wp2
  go_end0
  rw [HC.out]
  exact ⟨rfl, by rw [HS.out]; exact RdA.of _ HB.out HW.out HY.out (Nat.le_trans HL.out HK.out.size) (by simp) (by simp [strV]) (by simp) (by simp) (by simp) (by simp [u8V, bi]) (by simp), HK.out⟩
set_option maxRecDepth 100000 in
set_option maxHeartbeats 4000000 in
theorem nx_4n (n0 g : Nat) (word : List UInt8) (ws : List (List UInt8)) (dg : Int) (c : UInt8) (w : World) (hcut : RdA n0 w g ⟨4, word, ws, dg, false⟩) (hws : ws.length ≤ 1000000000000) (hbt : word.length ≤ 1000000000000) (h32 : bi c ≠ 32) (h9 : bi c ≠ 9)  : Calls Try.prog 20 #[.pointer (some ⟨g, 0, none⟩), .int .u8 (bi c)] w (PostR n0 g (nextS ⟨4, word, ws, dg, false⟩ c) w) := by
  obtain ⟨C, hC⟩ : ∃ C : Ending → World → Prop, C = (PostR n0 g (nextS ⟨4, word, ws, dg, false⟩ c) w) := ⟨_, rfl⟩
  have HC : Hid (C = (PostR n0 g (nextS ⟨4, word, ws, dg, false⟩ c) w)) := hC
  rw [← hC]
  clear hC
  have e32 : (bi c == 32) = false := by simp [h32]
  have e9 : (bi c == 9) = false := by simp [h9]
  have HS : Hid (nextS ⟨4, word, ws, dg, false⟩ c = ⟨5, word, ws, hexI (bi c), decide (hexI (bi c) < 0)⟩) := by show _ = _; unfold nextS; simp [h32, h9]
  clear h32 h9
  obtain ⟨wa, wc, ba, bc, hC0⟩ := hcut
  have HB : Hid (Box w g 46 #[.int .i64 4, .slice ba word.length bc, .slice wa ws.length wc, .int .i64 dg, .bool false]) := hC0.box
  have HW : Hid (Own 9 1 w n0 wa wc ws.length (ws.map strV)) := hC0.hw
  have HY : Hid (Own 5 1 w n0 ba bc word.length (word.map u8V)) := hC0.hb
  have HL : Hid (n0 ≤ w.heap.size) := hC0.hn
  have HWd : Hid (ws.length ≤ 1000000000000) := hws
  have HBd : Hid (word.length ≤ 1000000000000) := hbt
  have HK : Hid (Kept (Sg n0 g) w w) := Kept.refl _ _
  clear hC0 hws hbt
  go_enter Try.func20, Try.ntmps20
  go_upto_region 0 with fail
  refine WL.start ?_
  refine tK (.int .u8 (bi c)) ?_
  try simp only [pA, pB, p1, p2, p3]
  refine tW (.bool false) (exec_bin .eql 5 _ _ _ rfl (.int .u8 (bi c)) (.int .u8 32) (.bool false) (by kernel_rfl) (by kernel_rfl) (by kernel_rfl) (by rw [b_eq5, e32])) ?_
  try simp only [pA, pB, p1, p2, p3]
  refine tK (.bool false) ?_
  try simp only [pA, pB, p1, p2, p3]
  refine tK (.int .u8 (bi c)) ?_
  try simp only [pA, pB, p1, p2, p3]
  refine tW (.bool false) (exec_bin .eql 5 _ _ _ rfl (.int .u8 (bi c)) (.int .u8 9) (.bool false) (by kernel_rfl) (by kernel_rfl) (by kernel_rfl) (by rw [b_eq5, e9])) ?_
  try simp only [pA, pB, p1, p2, p3]
  refine tK (.bool false) ?_
  try simp only [pA, pB, p1, p2, p3]
  refine tK (.bool false) ?_
  try simp only [pA, pB, p1, p2, p3]
  refine WL.nil ?_
  try simp only [pA, pB, p1, p2, p3]
  go_upto_region 1 with fail
  refine WL.start ?_
  refine tK (.pointer (some ⟨g, 0, none⟩)) ?_
  try simp only [pA, pB, p1, p2, p3]
  refine tK (.pointer (some ⟨g, 0, none⟩)) ?_
  try simp only [pA, pB, p1, p2, p3]
  refine tK (.pointer (some ⟨g, 0, none⟩)) ?_
  try simp only [pA, pB, p1, p2, p3]
  refine tW (.int .i64 4) (exec_load 3 _ rfl ⟨g, 0, none⟩ (by kernel_rfl) (.int .i64 4) (load_one (HB.out.cell 0) U3 rfl)) ?_
  try simp only [pA, pB, p1, p2, p3]
  refine WL.nil ?_
  try simp only [pA, pB, p1, p2, p3]
  go_upto_region 2 with fail
  refine WL.start ?_
  refine tK (.bool false) ?_
  try simp only [pA, pB, p1, p2, p3]
  refine tK (.bool false) ?_
  try simp only [pA, pB, p1, p2, p3]
  refine WL.nil ?_
  try simp only [pA, pB, p1, p2, p3]
  go_upto_region 10 with fail
  refine WL.start ?_
  refine tK (.bool false) ?_
  try simp only [pA, pB, p1, p2, p3]
  refine tK (.bool false) ?_
  try simp only [pA, pB, p1, p2, p3]
  refine WL.nil ?_
  try simp only [pA, pB, p1, p2, p3]
  go_upto_region 16 with fail
  refine WL.start ?_
  refine tK (.bool false) ?_
  try simp only [pA, pB, p1, p2, p3]
  refine tK (.bool false) ?_
  try simp only [pA, pB, p1, p2, p3]
  refine WL.nil ?_
  try simp only [pA, pB, p1, p2, p3]
  go_upto_region 23 with fail
  refine WL.start ?_
  refine tK (.bool false) ?_
  try simp only [pA, pB, p1, p2, p3]
  refine tK (.bool false) ?_
  try simp only [pA, pB, p1, p2, p3]
  refine WL.nil ?_
  try simp only [pA, pB, p1, p2, p3]
  go_upto_region 25 with fail
  refine WL.start ?_
  refine tK (.bool true) ?_
  try simp only [pA, pB, p1, p2, p3]
  refine tK (.bool true) ?_
  try simp only [pA, pB, p1, p2, p3]
  refine WL.nil ?_
  try simp only [pA, pB, p1, p2, p3]
  go_upto_region 26 with fail
  refine WL.start ?_
  refine tK (.pointer (some ⟨g, 0, none⟩)) ?_
  try simp only [pA, pB, p1, p2, p3]
  refine tK (.int .u8 (bi c)) ?_
  try simp only [pA, pB, p1, p2, p3]
  refine wp_callW 25 #[.int .u8 (bi c)] (by kernel_rfl) _ (hex_any _ (bi_lt c) w) (by kernel_rfl) ?_
  rintro e wq ⟨rfl, hwq⟩
  rw [hwq]
  clear hwq wq
  refine ⟨.int .i64 (hexI (bi c)), rfl, ?_⟩
  try simp only [pA, pB, p1, p2, p3]
  refine tK (.pointer (some ⟨g, 0, none⟩)) ?_
  try simp only [pA, pB, p1, p2, p3]
  refine tK (.pointer (some ⟨g, 3, none⟩)) ?_
  try simp only [pA, pB, p1, p2, p3]
  have hst : (storeVar 3 ⟨g, 3, none⟩ (.int .i64 (hexI (bi c)))).run Try.prog w = .ok () (w.setRow g #[.int .i64 4, .slice ba word.length bc, .slice wa ws.length wc, .int .i64 (hexI (bi c)), .bool false]) := run_store_to (cur := [.int .i64 4, .slice ba word.length bc, .slice wa ws.length wc, .int .i64 dg, .bool false]) (vs := [.int .i64 (hexI (bi c))]) (new := [.int .i64 4, .slice ba word.length bc, .slice wa ws.length wc, .int .i64 (hexI (bi c)), .bool false]) HB.out (by kernel_rfl) S3 (Nat.le_of_ble_eq_true (by kernel_rfl)) (by simp [Value.oneCell', strV, u8V]) (by kernel_rfl)
  have HW : Hid (Own 9 1 (w.setRow g #[.int .i64 4, .slice ba word.length bc, .slice wa ws.length wc, .int .i64 (hexI (bi c)), .bool false]) n0 wa wc ws.length (ws.map strV)) := HW.out.kept (Kept.setRow _ _ _) (HW.out.notBox HB.out (by decide))
  have HY : Hid (Own 5 1 (w.setRow g #[.int .i64 4, .slice ba word.length bc, .slice wa ws.length wc, .int .i64 (hexI (bi c)), .bool false]) n0 ba bc word.length (word.map u8V)) := HY.out.kept (Kept.setRow _ _ _) (HY.out.notBox HB.out (by decide))
  have HK : Hid (Kept (Sg n0 g) w (w.setRow g #[.int .i64 4, .slice ba word.length bc, .slice wa ws.length wc, .int .i64 (hexI (bi c)), .bool false])) := HK.out.inRow (S := Sg n0 g) (Or.inl rfl) _
  have HB : Hid (Box (w.setRow g #[.int .i64 4, .slice ba word.length bc, .slice wa ws.length wc, .int .i64 (hexI (bi c)), .bool false]) g 46 #[.int .i64 4, .slice ba word.length bc, .slice wa ws.length wc, .int .i64 (hexI (bi c)), .bool false]) := HB.out.setRow _
  refine wp_storeW 3 _ _ rfl ⟨g, 3, none⟩ (.int .i64 (hexI (bi c))) (by kernel_rfl) (by kernel_rfl) (w.setRow g #[.int .i64 4, .slice ba word.length bc, .slice wa ws.length wc, .int .i64 (hexI (bi c)), .bool false]) hst (by kernel_rfl) ?_
  try simp only [pA, pB, p1, p2, p3]
  clear hst
  generalize w.setRow g #[.int .i64 4, .slice ba word.length bc, .slice wa ws.length wc, .int .i64 (hexI (bi c)), .bool false] = wk1 at HW HY HK HB ⊢
  refine WL.nil ?_
  try simp only [pA, pB, p1, p2, p3]
  go_upto_region 27 with fail
  refine WL.start ?_
  refine tK (.pointer (some ⟨g, 0, none⟩)) ?_
  try simp only [pA, pB, p1, p2, p3]
  refine tK (.pointer (some ⟨g, 0, none⟩)) ?_
  try simp only [pA, pB, p1, p2, p3]
  refine tK (.pointer (some ⟨g, 0, none⟩)) ?_
  try simp only [pA, pB, p1, p2, p3]
  have hst : (storeVar 3 ⟨g, 0, none⟩ (.int .i64 5)).run Try.prog wk1 = .ok () (wk1.setRow g #[.int .i64 5, .slice ba word.length bc, .slice wa ws.length wc, .int .i64 (hexI (bi c)), .bool false]) := run_store_to (cur := [.int .i64 4, .slice ba word.length bc, .slice wa ws.length wc, .int .i64 (hexI (bi c)), .bool false]) (vs := [.int .i64 5]) (new := [.int .i64 5, .slice ba word.length bc, .slice wa ws.length wc, .int .i64 (hexI (bi c)), .bool false]) HB.out (by kernel_rfl) S3 (Nat.le_of_ble_eq_true (by kernel_rfl)) (by simp [Value.oneCell', strV, u8V]) (by kernel_rfl)
  have HW : Hid (Own 9 1 (wk1.setRow g #[.int .i64 5, .slice ba word.length bc, .slice wa ws.length wc, .int .i64 (hexI (bi c)), .bool false]) n0 wa wc ws.length (ws.map strV)) := HW.out.kept (Kept.setRow _ _ _) (HW.out.notBox HB.out (by decide))
  have HY : Hid (Own 5 1 (wk1.setRow g #[.int .i64 5, .slice ba word.length bc, .slice wa ws.length wc, .int .i64 (hexI (bi c)), .bool false]) n0 ba bc word.length (word.map u8V)) := HY.out.kept (Kept.setRow _ _ _) (HY.out.notBox HB.out (by decide))
  have HK : Hid (Kept (Sg n0 g) w (wk1.setRow g #[.int .i64 5, .slice ba word.length bc, .slice wa ws.length wc, .int .i64 (hexI (bi c)), .bool false])) := HK.out.inRow (S := Sg n0 g) (Or.inl rfl) _
  have HB : Hid (Box (wk1.setRow g #[.int .i64 5, .slice ba word.length bc, .slice wa ws.length wc, .int .i64 (hexI (bi c)), .bool false]) g 46 #[.int .i64 5, .slice ba word.length bc, .slice wa ws.length wc, .int .i64 (hexI (bi c)), .bool false]) := HB.out.setRow _
  refine wp_storeW 3 _ _ rfl ⟨g, 0, none⟩ (.int .i64 5) (by kernel_rfl) (by kernel_rfl) (wk1.setRow g #[.int .i64 5, .slice ba word.length bc, .slice wa ws.length wc, .int .i64 (hexI (bi c)), .bool false]) hst (by kernel_rfl) ?_
  try simp only [pA, pB, p1, p2, p3]
  clear hst
  generalize wk1.setRow g #[.int .i64 5, .slice ba word.length bc, .slice wa ws.length wc, .int .i64 (hexI (bi c)), .bool false] = wk2 at HW HY HK HB ⊢
  refine WL.nil ?_
  try simp only [pA, pB, p1, p2, p3]
  go_upto_region 28 with fail
  refine WL.start ?_
  refine tK (.pointer (some ⟨g, 0, none⟩)) ?_
  try simp only [pA, pB, p1, p2, p3]
  refine tK (.pointer (some ⟨g, 0, none⟩)) ?_
  try simp only [pA, pB, p1, p2, p3]
  refine tK (.pointer (some ⟨g, 0, none⟩)) ?_
  try simp only [pA, pB, p1, p2, p3]
  refine tK (.pointer (some ⟨g, 4, none⟩)) ?_
  try simp only [pA, pB, p1, p2, p3]
  refine tW (.bool false) (exec_load 4 _ rfl ⟨g, 4, none⟩ (by kernel_rfl) (.bool false) (load_one (HB.out.cell 4) U4 rfl)) ?_
  try simp only [pA, pB, p1, p2, p3]
  refine tK (.bool false) ?_
  try simp only [pA, pB, p1, p2, p3]
  refine tK (.pointer (some ⟨g, 0, none⟩)) ?_
  try simp only [pA, pB, p1, p2, p3]
  refine tK (.pointer (some ⟨g, 0, none⟩)) ?_
  try simp only [pA, pB, p1, p2, p3]
  refine tK (.pointer (some ⟨g, 3, none⟩)) ?_
  try simp only [pA, pB, p1, p2, p3]
  refine tW (.int .i64 (hexI (bi c))) (exec_load 3 _ rfl ⟨g, 3, none⟩ (by kernel_rfl) (.int .i64 (hexI (bi c))) (load_one (HB.out.cell 3) U3 rfl)) ?_
  try simp only [pA, pB, p1, p2, p3]
  refine tW (.bool (decide ((hexI (bi c)) < 0))) (exec_bin .lss 3 _ _ _ rfl (.int .i64 (hexI (bi c))) (.int .i64 0) (.bool (decide ((hexI (bi c)) < 0))) (by kernel_rfl) (by kernel_rfl) (by kernel_rfl) (b_lss _ _ _)) ?_
  try simp only [pA, pB, p1, p2, p3]
  refine tK (.bool (decide ((hexI (bi c)) < 0))) ?_
  try simp only [pA, pB, p1, p2, p3]
  refine tK (.pointer (some ⟨g, 0, none⟩)) ?_
  try simp only [pA, pB, p1, p2, p3]
  refine tK (.pointer (some ⟨g, 4, none⟩)) ?_
  try simp only [pA, pB, p1, p2, p3]
  have hst : (storeVar 4 ⟨g, 4, none⟩ (.bool (decide ((hexI (bi c)) < 0)))).run Try.prog wk2 = .ok () (wk2.setRow g #[.int .i64 5, .slice ba word.length bc, .slice wa ws.length wc, .int .i64 (hexI (bi c)), .bool (decide ((hexI (bi c)) < 0))]) := run_store_to (cur := [.int .i64 5, .slice ba word.length bc, .slice wa ws.length wc, .int .i64 (hexI (bi c)), .bool false]) (vs := [.bool (decide ((hexI (bi c)) < 0))]) (new := [.int .i64 5, .slice ba word.length bc, .slice wa ws.length wc, .int .i64 (hexI (bi c)), .bool (decide ((hexI (bi c)) < 0))]) HB.out (by kernel_rfl) S4 (Nat.le_of_ble_eq_true (by kernel_rfl)) (by simp [Value.oneCell', strV, u8V]) (by kernel_rfl)
  have HW : Hid (Own 9 1 (wk2.setRow g #[.int .i64 5, .slice ba word.length bc, .slice wa ws.length wc, .int .i64 (hexI (bi c)), .bool (decide ((hexI (bi c)) < 0))]) n0 wa wc ws.length (ws.map strV)) := HW.out.kept (Kept.setRow _ _ _) (HW.out.notBox HB.out (by decide))
  have HY : Hid (Own 5 1 (wk2.setRow g #[.int .i64 5, .slice ba word.length bc, .slice wa ws.length wc, .int .i64 (hexI (bi c)), .bool (decide ((hexI (bi c)) < 0))]) n0 ba bc word.length (word.map u8V)) := HY.out.kept (Kept.setRow _ _ _) (HY.out.notBox HB.out (by decide))
  have HK : Hid (Kept (Sg n0 g) w (wk2.setRow g #[.int .i64 5, .slice ba word.length bc, .slice wa ws.length wc, .int .i64 (hexI (bi c)), .bool (decide ((hexI (bi c)) < 0))])) := HK.out.inRow (S := Sg n0 g) (Or.inl rfl) _
  have HB : Hid (Box (wk2.setRow g #[.int .i64 5, .slice ba word.length bc, .slice wa ws.length wc, .int .i64 (hexI (bi c)), .bool (decide ((hexI (bi c)) < 0))]) g 46 #[.int .i64 5, .slice ba word.length bc, .slice wa ws.length wc, .int .i64 (hexI (bi c)), .bool (decide ((hexI (bi c)) < 0))]) := HB.out.setRow _
  refine wp_storeW 4 _ _ rfl ⟨g, 4, none⟩ (.bool (decide ((hexI (bi c)) < 0))) (by kernel_rfl) (by kernel_rfl) (wk2.setRow g #[.int .i64 5, .slice ba word.length bc, .slice wa ws.length wc, .int .i64 (hexI (bi c)), .bool (decide ((hexI (bi c)) < 0))]) hst (by kernel_rfl) ?_
  try simp only [pA, pB, p1, p2, p3]
  clear hst
  generalize wk2.setRow g #[.int .i64 5, .slice ba word.length bc, .slice wa ws.length wc, .int .i64 (hexI (bi c)), .bool (decide ((hexI (bi c)) < 0))] = wk3 at HW HY HK HB ⊢
  refine WL.nil ?_
  try simp only [pA, pB, p1, p2, p3]
  go_wp2
  go_end0
  rw [HC.out]
  exact ⟨rfl, by rw [HS.out]; exact RdA.of _ HB.out HW.out HY.out (Nat.le_trans HL.out HK.out.size) (by simp) (by simp [strV]) (by simp) (by simp) (by simp) (by simp [u8V, bi]) (by simp), HK.out⟩
set_option maxRecDepth 100000 in
set_option maxHeartbeats 4000000 in
theorem nx_5ws (n0 g : Nat) (word : List UInt8) (ws : List (List UInt8)) (dg : Int) (c : UInt8) (w : World) (hcut : RdA n0 w g ⟨5, word, ws, dg, false⟩) (hws : ws.length ≤ 1000000000000) (hbt : word.length ≤ 1000000000000) (h32 : bi c = 32) (hdg : 0 ≤ dg ∧ dg ≤ 15) (hlt : hexI (bi c) < 0) : Calls Try.prog 20 #[.pointer (some ⟨g, 0, none⟩), .int .u8 (bi c)] w (PostR n0 g (nextS ⟨5, word, ws, dg, false⟩ c) w) := by
  obtain ⟨C, hC⟩ : ∃ C : Ending → World → Prop, C = (PostR n0 g (nextS ⟨5, word, ws, dg, false⟩ c) w) := ⟨_, rfl⟩
  have HC : Hid (C = (PostR n0 g (nextS ⟨5, word, ws, dg, false⟩ c) w)) := hC
  rw [← hC]
  clear hC
  have e32 : (bi c == 32) = true := by simp [h32]
  have HS : Hid (nextS ⟨5, word, ws, dg, false⟩ c = ⟨2, word, ws, dg, true⟩) := by show _ = _; unfold nextS; simp [hlt]
  clear h32
  obtain ⟨wa, wc, ba, bc, hC0⟩ := hcut
  have HB : Hid (Box w g 46 #[.int .i64 5, .slice ba word.length bc, .slice wa ws.length wc, .int .i64 dg, .bool false]) := hC0.box
  have HW : Hid (Own 9 1 w n0 wa wc ws.length (ws.map strV)) := hC0.hw
  have HY : Hid (Own 5 1 w n0 ba bc word.length (word.map u8V)) := hC0.hb
  have HL : Hid (n0 ≤ w.heap.size) := hC0.hn
  have HWd : Hid (ws.length ≤ 1000000000000) := hws
  have HBd : Hid (word.length ≤ 1000000000000) := hbt
  have HK : Hid (Kept (Sg n0 g) w w) := Kept.refl _ _
  clear hC0 hws hbt
  have HDg : Hid (0 ≤ dg ∧ dg ≤ 15) := hdg
  have HHx : Hid (-1 ≤ hexI (bi c) ∧ hexI (bi c) ≤ 15) := hexI_le _
  clear hdg
  go_enter Try.func20, Try.ntmps20
  go_upto_region 0 with fail
  refine WL.start ?_
  refine tK (.int .u8 (bi c)) ?_
  try simp only [pA, pB, p1, p2, p3]
  refine tW (.bool true) (exec_bin .eql 5 _ _ _ rfl (.int .u8 (bi c)) (.int .u8 32) (.bool true) (by kernel_rfl) (by kernel_rfl) (by kernel_rfl) (by rw [b_eq5, e32])) ?_
  try simp only [pA, pB, p1, p2, p3]
  refine tK (.bool true) ?_
  try simp only [pA, pB, p1, p2, p3]
  refine sK ?_
  try simp only [pA, pB, p1, p2, p3]
  refine sK ?_
  try simp only [pA, pB, p1, p2, p3]
  refine tK (.bool true) ?_
  try simp only [pA, pB, p1, p2, p3]
  refine tK (.bool true) ?_
  try simp only [pA, pB, p1, p2, p3]
  refine WL.nil ?_
  try simp only [pA, pB, p1, p2, p3]
  go_upto_region 1 with fail
  refine WL.start ?_
  refine tK (.pointer (some ⟨g, 0, none⟩)) ?_
  try simp only [pA, pB, p1, p2, p3]
  refine tK (.pointer (some ⟨g, 0, none⟩)) ?_
  try simp only [pA, pB, p1, p2, p3]
  refine tK (.pointer (some ⟨g, 0, none⟩)) ?_
  try simp only [pA, pB, p1, p2, p3]
  refine tW (.int .i64 5) (exec_load 3 _ rfl ⟨g, 0, none⟩ (by kernel_rfl) (.int .i64 5) (load_one (HB.out.cell 0) U3 rfl)) ?_
  try simp only [pA, pB, p1, p2, p3]
  refine WL.nil ?_
  try simp only [pA, pB, p1, p2, p3]
  go_upto_region 2 with fail
  refine WL.start ?_
  refine tK (.bool false) ?_
  try simp only [pA, pB, p1, p2, p3]
  refine tK (.bool false) ?_
  try simp only [pA, pB, p1, p2, p3]
  refine WL.nil ?_
  try simp only [pA, pB, p1, p2, p3]
  go_upto_region 10 with fail
  refine WL.start ?_
  refine tK (.bool false) ?_
  try simp only [pA, pB, p1, p2, p3]
  refine tK (.bool false) ?_
  try simp only [pA, pB, p1, p2, p3]
  refine WL.nil ?_
  try simp only [pA, pB, p1, p2, p3]
  go_upto_region 16 with fail
  refine WL.start ?_
  refine tK (.bool false) ?_
  try simp only [pA, pB, p1, p2, p3]
  refine tK (.bool false) ?_
  try simp only [pA, pB, p1, p2, p3]
  refine WL.nil ?_
  try simp only [pA, pB, p1, p2, p3]
  go_upto_region 23 with fail
  refine WL.start ?_
  refine tK (.bool false) ?_
  try simp only [pA, pB, p1, p2, p3]
  refine tK (.bool false) ?_
  try simp only [pA, pB, p1, p2, p3]
  refine WL.nil ?_
  try simp only [pA, pB, p1, p2, p3]
  go_upto_region 25 with fail
  refine WL.start ?_
  refine tK (.bool false) ?_
  try simp only [pA, pB, p1, p2, p3]
  refine tK (.bool false) ?_
  try simp only [pA, pB, p1, p2, p3]
  refine WL.nil ?_
  try simp only [pA, pB, p1, p2, p3]
  go_upto_region 29 with fail
  refine WL.start ?_
  refine tK (.bool true) ?_
  try simp only [pA, pB, p1, p2, p3]
  refine tK (.bool true) ?_
  try simp only [pA, pB, p1, p2, p3]
  refine WL.nil ?_
  try simp only [pA, pB, p1, p2, p3]
  go_upto_region 30 with fail
  refine WL.start ?_
  refine tK (.int .u8 (bi c)) ?_
  try simp only [pA, pB, p1, p2, p3]
  refine wp_callW 25 #[.int .u8 (bi c)] (by kernel_rfl) _ (hex_any _ (bi_lt c) w) (by kernel_rfl) ?_
  rintro e wq ⟨rfl, hwq⟩
  rw [hwq]
  clear hwq wq
  refine ⟨.int .i64 (hexI (bi c)), rfl, ?_⟩
  try simp only [pA, pB, p1, p2, p3]
  refine tK (.int .i64 (hexI (bi c))) ?_
  try simp only [pA, pB, p1, p2, p3]
  refine WL.nil ?_
  try simp only [pA, pB, p1, p2, p3]
  go_upto_region 31 with fail
  refine WL.start ?_
  refine tK (.pointer (some ⟨g, 0, none⟩)) ?_
  try simp only [pA, pB, p1, p2, p3]
  refine tK (.pointer (some ⟨g, 0, none⟩)) ?_
  try simp only [pA, pB, p1, p2, p3]
  refine tK (.pointer (some ⟨g, 0, none⟩)) ?_
  try simp only [pA, pB, p1, p2, p3]
  refine tK (.pointer (some ⟨g, 4, none⟩)) ?_
  try simp only [pA, pB, p1, p2, p3]
  refine tW (.bool false) (exec_load 4 _ rfl ⟨g, 4, none⟩ (by kernel_rfl) (.bool false) (load_one (HB.out.cell 4) U4 rfl)) ?_
  try simp only [pA, pB, p1, p2, p3]
  refine tK (.bool false) ?_
  try simp only [pA, pB, p1, p2, p3]
  refine tK (.int .i64 (hexI (bi c))) ?_
  try simp only [pA, pB, p1, p2, p3]
  refine tW (.bool true) (exec_bin .lss 3 _ _ _ rfl (.int .i64 (hexI (bi c))) (.int .i64 0) (.bool true) (by kernel_rfl) (by kernel_rfl) (by kernel_rfl) (by rw [b_lss, decide_eq_true hlt])) ?_
  try simp only [pA, pB, p1, p2, p3]
  refine tK (.bool true) ?_
  try simp only [pA, pB, p1, p2, p3]
  refine tK (.pointer (some ⟨g, 0, none⟩)) ?_
  try simp only [pA, pB, p1, p2, p3]
  refine tK (.pointer (some ⟨g, 4, none⟩)) ?_
  try simp only [pA, pB, p1, p2, p3]
  have hst : (storeVar 4 ⟨g, 4, none⟩ (.bool true)).run Try.prog w = .ok () (w.setRow g #[.int .i64 5, .slice ba word.length bc, .slice wa ws.length wc, .int .i64 dg, .bool true]) := run_store_to (cur := [.int .i64 5, .slice ba word.length bc, .slice wa ws.length wc, .int .i64 dg, .bool false]) (vs := [.bool true]) (new := [.int .i64 5, .slice ba word.length bc, .slice wa ws.length wc, .int .i64 dg, .bool true]) HB.out (by kernel_rfl) S4 (Nat.le_of_ble_eq_true (by kernel_rfl)) (by simp [Value.oneCell', strV, u8V]) (by kernel_rfl)
  have HW : Hid (Own 9 1 (w.setRow g #[.int .i64 5, .slice ba word.length bc, .slice wa ws.length wc, .int .i64 dg, .bool true]) n0 wa wc ws.length (ws.map strV)) := HW.out.kept (Kept.setRow _ _ _) (HW.out.notBox HB.out (by decide))
  have HY : Hid (Own 5 1 (w.setRow g #[.int .i64 5, .slice ba word.length bc, .slice wa ws.length wc, .int .i64 dg, .bool true]) n0 ba bc word.length (word.map u8V)) := HY.out.kept (Kept.setRow _ _ _) (HY.out.notBox HB.out (by decide))
  have HK : Hid (Kept (Sg n0 g) w (w.setRow g #[.int .i64 5, .slice ba word.length bc, .slice wa ws.length wc, .int .i64 dg, .bool true])) := HK.out.inRow (S := Sg n0 g) (Or.inl rfl) _
  have HB : Hid (Box (w.setRow g #[.int .i64 5, .slice ba word.length bc, .slice wa ws.length wc, .int .i64 dg, .bool true]) g 46 #[.int .i64 5, .slice ba word.length bc, .slice wa ws.length wc, .int .i64 dg, .bool true]) := HB.out.setRow _
  refine wp_storeW 4 _ _ rfl ⟨g, 4, none⟩ (.bool true) (by kernel_rfl) (by kernel_rfl) (w.setRow g #[.int .i64 5, .slice ba word.length bc, .slice wa ws.length wc, .int .i64 dg, .bool true]) hst (by kernel_rfl) ?_
  try simp only [pA, pB, p1, p2, p3]
  clear hst
  generalize w.setRow g #[.int .i64 5, .slice ba word.length bc, .slice wa ws.length wc, .int .i64 dg, .bool true] = wk1 at HW HY HK HB ⊢
  refine WL.nil ?_
  try simp only [pA, pB, p1, p2, p3]
  go_upto_region 32 with fail
  refine WL.start ?_
  refine tK (.pointer (some ⟨g, 0, none⟩)) ?_
  try simp only [pA, pB, p1, p2, p3]
  refine tK (.pointer (some ⟨g, 0, none⟩)) ?_
  try simp only [pA, pB, p1, p2, p3]
  refine tK (.pointer (some ⟨g, 4, none⟩)) ?_
  try simp only [pA, pB, p1, p2, p3]
  refine tW (.bool true) (exec_load 4 _ rfl ⟨g, 4, none⟩ (by kernel_rfl) (.bool true) (load_one (HB.out.cell 4) U4 rfl)) ?_
  try simp only [pA, pB, p1, p2, p3]
  refine tK (.bool false) ?_
  try simp only [pA, pB, p1, p2, p3]
  refine WL.nil ?_
  try simp only [pA, pB, p1, p2, p3]
  go_upto_region 34 with fail
  refine WL.start ?_
  refine tK (.pointer (some ⟨g, 0, none⟩)) ?_
  try simp only [pA, pB, p1, p2, p3]
  refine tK (.pointer (some ⟨g, 0, none⟩)) ?_
  try simp only [pA, pB, p1, p2, p3]
  refine tK (.pointer (some ⟨g, 0, none⟩)) ?_
  try simp only [pA, pB, p1, p2, p3]
  have hst : (storeVar 3 ⟨g, 0, none⟩ (.int .i64 2)).run Try.prog wk1 = .ok () (wk1.setRow g #[.int .i64 2, .slice ba word.length bc, .slice wa ws.length wc, .int .i64 dg, .bool true]) := run_store_to (cur := [.int .i64 5, .slice ba word.length bc, .slice wa ws.length wc, .int .i64 dg, .bool true]) (vs := [.int .i64 2]) (new := [.int .i64 2, .slice ba word.length bc, .slice wa ws.length wc, .int .i64 dg, .bool true]) HB.out (by kernel_rfl) S3 (Nat.le_of_ble_eq_true (by kernel_rfl)) (by simp [Value.oneCell', strV, u8V]) (by kernel_rfl)
  have HW : Hid (Own 9 1 (wk1.setRow g #[.int .i64 2, .slice ba word.length bc, .slice wa ws.length wc, .int .i64 dg, .bool true]) n0 wa wc ws.length (ws.map strV)) := HW.out.kept (Kept.setRow _ _ _) (HW.out.notBox HB.out (by decide))
  have HY : Hid (Own 5 1 (wk1.setRow g #[.int .i64 2, .slice ba word.length bc, .slice wa ws.length wc, .int .i64 dg, .bool true]) n0 ba bc word.length (word.map u8V)) := HY.out.kept (Kept.setRow _ _ _) (HY.out.notBox HB.out (by decide))
  have HK : Hid (Kept (Sg n0 g) w (wk1.setRow g #[.int .i64 2, .slice ba word.length bc, .slice wa ws.length wc, .int .i64 dg, .bool true])) := HK.out.inRow (S := Sg n0 g) (Or.inl rfl) _
  have HB : Hid (Box (wk1.setRow g #[.int .i64 2, .slice ba word.length bc, .slice wa ws.length wc, .int .i64 dg, .bool true]) g 46 #[.int .i64 2, .slice ba word.length bc, .slice wa ws.length wc, .int .i64 dg, .bool true]) := HB.out.setRow _
  refine wp_storeW 3 _ _ rfl ⟨g, 0, none⟩ (.int .i64 2) (by kernel_rfl) (by kernel_rfl) (wk1.setRow g #[.int .i64 2, .slice ba word.length bc, .slice wa ws.length wc, .int .i64 dg, .bool true]) hst (by kernel_rfl) ?_
  try simp only [pA, pB, p1, p2, p3]
  clear hst
  generalize wk1.setRow g #[.int .i64 2, .slice ba word.length bc, .slice wa ws.length wc, .int .i64 dg, .bool true] = wk2 at HW HY HK HB ⊢
  refine WL.nil ?_
  try simp only [pA, pB, p1, p2, p3]
  go_wp2
  go_end0
  rw [HC.out]
  exact ⟨rfl, by rw [HS.out]; exact RdA.of _ HB.out HW.out HY.out (Nat.le_trans HL.out HK.out.size) (by simp) (by simp [strV]) (by simp) (by simp) (by simp) (by simp [u8V, bi]) (by simp), HK.out⟩
set_option maxRecDepth 100000 in
set_option maxHeartbeats 4000000 in
theorem nx_5wt (n0 g : Nat) (word : List UInt8) (ws : List (List UInt8)) (dg : Int) (c : UInt8) (w : World) (hcut : RdA n0 w g ⟨5, word, ws, dg, false⟩) (hws : ws.length ≤ 1000000000000) (hbt : word.length ≤ 1000000000000) (h32 : bi c ≠ 32) (h9 : bi c = 9) (hdg : 0 ≤ dg ∧ dg ≤ 15) (hlt : hexI (bi c) < 0) : Calls Try.prog 20 #[.pointer (some ⟨g, 0, none⟩), .int .u8 (bi c)] w (PostR n0 g (nextS ⟨5, word, ws, dg, false⟩ c) w) := by
  obtain ⟨C, hC⟩ : ∃ C : Ending → World → Prop, C = (PostR n0 g (nextS ⟨5, word, ws, dg, false⟩ c) w) := ⟨_, rfl⟩
  have HC : Hid (C = (PostR n0 g (nextS ⟨5, word, ws, dg, false⟩ c) w)) := hC
  rw [← hC]
  clear hC
  have e32 : (bi c == 32) = false := by simp [h32]
  have e9 : (bi c == 9) = true := by simp [h9]
  have HS : Hid (nextS ⟨5, word, ws, dg, false⟩ c = ⟨2, word, ws, dg, true⟩) := by show _ = _; unfold nextS; simp [hlt]
  clear h32 h9
  obtain ⟨wa, wc, ba, bc, hC0⟩ := hcut
  have HB : Hid (Box w g 46 #[.int .i64 5, .slice ba word.length bc, .slice wa ws.length wc, .int .i64 dg, .bool false]) := hC0.box
  have HW : Hid (Own 9 1 w n0 wa wc ws.length (ws.map strV)) := hC0.hw
  have HY : Hid (Own 5 1 w n0 ba bc word.length (word.map u8V)) := hC0.hb
  have HL : Hid (n0 ≤ w.heap.size) := hC0.hn
  have HWd : Hid (ws.length ≤ 1000000000000) := hws
  have HBd : Hid (word.length ≤ 1000000000000) := hbt
  have HK : Hid (Kept (Sg n0 g) w w) := Kept.refl _ _
  clear hC0 hws hbt
  have HDg : Hid (0 ≤ dg ∧ dg ≤ 15) := hdg
  have HHx : Hid (-1 ≤ hexI (bi c) ∧ hexI (bi c) ≤ 15) := hexI_le _
  clear hdg
  go_enter Try.func20, Try.ntmps20
  go_upto_region 0 with fail
  refine WL.start ?_
  refine tK (.int .u8 (bi c)) ?_
  try simp only [pA, pB, p1, p2, p3]
  refine tW (.bool false) (exec_bin .eql 5 _ _ _ rfl (.int .u8 (bi c)) (.int .u8 32) (.bool false) (by kernel_rfl) (by kernel_rfl) (by kernel_rfl) (by rw [b_eq5, e32])) ?_
  try simp only [pA, pB, p1, p2, p3]
  refine tK (.bool false) ?_
  try simp only [pA, pB, p1, p2, p3]
  refine tK (.int .u8 (bi c)) ?_
  try simp only [pA, pB, p1, p2, p3]
  refine tW (.bool true) (exec_bin .eql 5 _ _ _ rfl (.int .u8 (bi c)) (.int .u8 9) (.bool true) (by kernel_rfl) (by kernel_rfl) (by kernel_rfl) (by rw [b_eq5, e9])) ?_
  try simp only [pA, pB, p1, p2, p3]
  refine tK (.bool true) ?_
  try simp only [pA, pB, p1, p2, p3]
  refine tK (.bool true) ?_
  try simp only [pA, pB, p1, p2, p3]
  refine WL.nil ?_
  try simp only [pA, pB, p1, p2, p3]
  go_upto_region 1 with fail
  refine WL.start ?_
  refine tK (.pointer (some ⟨g, 0, none⟩)) ?_
  try simp only [pA, pB, p1, p2, p3]
  refine tK (.pointer (some ⟨g, 0, none⟩)) ?_
  try simp only [pA, pB, p1, p2, p3]
  refine tK (.pointer (some ⟨g, 0, none⟩)) ?_
  try simp only [pA, pB, p1, p2, p3]
  refine tW (.int .i64 5) (exec_load 3 _ rfl ⟨g, 0, none⟩ (by kernel_rfl) (.int .i64 5) (load_one (HB.out.cell 0) U3 rfl)) ?_
  try simp only [pA, pB, p1, p2, p3]
  refine WL.nil ?_
  try simp only [pA, pB, p1, p2, p3]
  go_upto_region 2 with fail
  refine WL.start ?_
  refine tK (.bool false) ?_
  try simp only [pA, pB, p1, p2, p3]
  refine tK (.bool false) ?_
  try simp only [pA, pB, p1, p2, p3]
  refine WL.nil ?_
  try simp only [pA, pB, p1, p2, p3]
  go_upto_region 10 with fail
  refine WL.start ?_
  refine tK (.bool false) ?_
  try simp only [pA, pB, p1, p2, p3]
  refine tK (.bool false) ?_
  try simp only [pA, pB, p1, p2, p3]
  refine WL.nil ?_
  try simp only [pA, pB, p1, p2, p3]
  go_upto_region 16 with fail
  refine WL.start ?_
  refine tK (.bool false) ?_
  try simp only [pA, pB, p1, p2, p3]
  refine tK (.bool false) ?_
  try simp only [pA, pB, p1, p2, p3]
  refine WL.nil ?_
  try simp only [pA, pB, p1, p2, p3]
  go_upto_region 23 with fail
  refine WL.start ?_
  refine tK (.bool false) ?_
  try simp only [pA, pB, p1, p2, p3]
  refine tK (.bool false) ?_
  try simp only [pA, pB, p1, p2, p3]
  refine WL.nil ?_
  try simp only [pA, pB, p1, p2, p3]
  go_upto_region 25 with fail
  refine WL.start ?_
  refine tK (.bool false) ?_
  try simp only [pA, pB, p1, p2, p3]
  refine tK (.bool false) ?_
  try simp only [pA, pB, p1, p2, p3]
  refine WL.nil ?_
  try simp only [pA, pB, p1, p2, p3]
  go_upto_region 29 with fail
  refine WL.start ?_
  refine tK (.bool true) ?_
  try simp only [pA, pB, p1, p2, p3]
  refine tK (.bool true) ?_
  try simp only [pA, pB, p1, p2, p3]
  refine WL.nil ?_
  try simp only [pA, pB, p1, p2, p3]
  go_upto_region 30 with fail
  refine WL.start ?_
  refine tK (.int .u8 (bi c)) ?_
  try simp only [pA, pB, p1, p2, p3]
  refine wp_callW 25 #[.int .u8 (bi c)] (by kernel_rfl) _ (hex_any _ (bi_lt c) w) (by kernel_rfl) ?_
  rintro e wq ⟨rfl, hwq⟩
  rw [hwq]
  clear hwq wq
  refine ⟨.int .i64 (hexI (bi c)), rfl, ?_⟩
  try simp only [pA, pB, p1, p2, p3]
  refine tK (.int .i64 (hexI (bi c))) ?_
  try simp only [pA, pB, p1, p2, p3]
  refine WL.nil ?_
  try simp only [pA, pB, p1, p2, p3]
  go_upto_region 31 with fail
  refine WL.start ?_
  refine tK (.pointer (some ⟨g, 0, none⟩)) ?_
  try simp only [pA, pB, p1, p2, p3]
  refine tK (.pointer (some ⟨g, 0, none⟩)) ?_
  try simp only [pA, pB, p1, p2, p3]
  refine tK (.pointer (some ⟨g, 0, none⟩)) ?_
  try simp only [pA, pB, p1, p2, p3]
  refine tK (.pointer (some ⟨g, 4, none⟩)) ?_
  try simp only [pA, pB, p1, p2, p3]
  refine tW (.bool false) (exec_load 4 _ rfl ⟨g, 4, none⟩ (by kernel_rfl) (.bool false) (load_one (HB.out.cell 4) U4 rfl)) ?_
  try simp only [pA, pB, p1, p2, p3]
  refine tK (.bool false) ?_
  try simp only [pA, pB, p1, p2, p3]
  refine tK (.int .i64 (hexI (bi c))) ?_
  try simp only [pA, pB, p1, p2, p3]
  refine tW (.bool true) (exec_bin .lss 3 _ _ _ rfl (.int .i64 (hexI (bi c))) (.int .i64 0) (.bool true) (by kernel_rfl) (by kernel_rfl) (by kernel_rfl) (by rw [b_lss, decide_eq_true hlt])) ?_
  try simp only [pA, pB, p1, p2, p3]
  refine tK (.bool true) ?_
  try simp only [pA, pB, p1, p2, p3]
  refine tK (.pointer (some ⟨g, 0, none⟩)) ?_
  try simp only [pA, pB, p1, p2, p3]
  refine tK (.pointer (some ⟨g, 4, none⟩)) ?_
  try simp only [pA, pB, p1, p2, p3]
  have hst : (storeVar 4 ⟨g, 4, none⟩ (.bool true)).run Try.prog w = .ok () (w.setRow g #[.int .i64 5, .slice ba word.length bc, .slice wa ws.length wc, .int .i64 dg, .bool true]) := run_store_to (cur := [.int .i64 5, .slice ba word.length bc, .slice wa ws.length wc, .int .i64 dg, .bool false]) (vs := [.bool true]) (new := [.int .i64 5, .slice ba word.length bc, .slice wa ws.length wc, .int .i64 dg, .bool true]) HB.out (by kernel_rfl) S4 (Nat.le_of_ble_eq_true (by kernel_rfl)) (by simp [Value.oneCell', strV, u8V]) (by kernel_rfl)
  have HW : Hid (Own 9 1 (w.setRow g #[.int .i64 5, .slice ba word.length bc, .slice wa ws.length wc, .int .i64 dg, .bool true]) n0 wa wc ws.length (ws.map strV)) := HW.out.kept (Kept.setRow _ _ _) (HW.out.notBox HB.out (by decide))
  have HY : Hid (Own 5 1 (w.setRow g #[.int .i64 5, .slice ba word.length bc, .slice wa ws.length wc, .int .i64 dg, .bool true]) n0 ba bc word.length (word.map u8V)) := HY.out.kept (Kept.setRow _ _ _) (HY.out.notBox HB.out (by decide))
  have HK : Hid (Kept (Sg n0 g) w (w.setRow g #[.int .i64 5, .slice ba word.length bc, .slice wa ws.length wc, .int .i64 dg, .bool true])) := HK.out.inRow (S := Sg n0 g) (Or.inl rfl) _
  have HB : Hid (Box (w.setRow g #[.int .i64 5, .slice ba word.length bc, .slice wa ws.length wc, .int .i64 dg, .bool true]) g 46 #[.int .i64 5, .slice ba word.length bc, .slice wa ws.length wc, .int .i64 dg, .bool true]) := HB.out.setRow _
  refine wp_storeW 4 _ _ rfl ⟨g, 4, none⟩ (.bool true) (by kernel_rfl) (by kernel_rfl) (w.setRow g #[.int .i64 5, .slice ba word.length bc, .slice wa ws.length wc, .int .i64 dg, .bool true]) hst (by kernel_rfl) ?_
  try simp only [pA, pB, p1, p2, p3]
  clear hst
  generalize w.setRow g #[.int .i64 5, .slice ba word.length bc, .slice wa ws.length wc, .int .i64 dg, .bool true] = wk1 at HW HY HK HB ⊢
  refine WL.nil ?_
  try simp only [pA, pB, p1, p2, p3]
  go_upto_region 32 with fail
  refine WL.start ?_
  refine tK (.pointer (some ⟨g, 0, none⟩)) ?_
  try simp only [pA, pB, p1, p2, p3]
  refine tK (.pointer (some ⟨g, 0, none⟩)) ?_
  try simp only [pA, pB, p1, p2, p3]
  refine tK (.pointer (some ⟨g, 4, none⟩)) ?_
  try simp only [pA, pB, p1, p2, p3]
  refine tW (.bool true) (exec_load 4 _ rfl ⟨g, 4, none⟩ (by kernel_rfl) (.bool true) (load_one (HB.out.cell 4) U4 rfl)) ?_
  try simp only [pA, pB, p1, p2, p3]
  refine tK (.bool false) ?_
  try simp only [pA, pB, p1, p2, p3]
  refine WL.nil ?_
  try simp only [pA, pB, p1, p2, p3]
  go_upto_region 34 with fail
  refine WL.start ?_
  refine tK (.pointer (some ⟨g, 0, none⟩)) ?_
  try simp only [pA, pB, p1, p2, p3]
  refine tK (.pointer (some ⟨g, 0, none⟩)) ?_
  try simp only [pA, pB, p1, p2, p3]
  refine tK (.pointer (some ⟨g, 0, none⟩)) ?_
  try simp only [pA, pB, p1, p2, p3]
  have hst : (storeVar 3 ⟨g, 0, none⟩ (.int .i64 2)).run Try.prog wk1 = .ok () (wk1.setRow g #[.int .i64 2, .slice ba word.length bc, .slice wa ws.length wc, .int .i64 dg, .bool true]) := run_store_to (cur := [.int .i64 5, .slice ba word.length bc, .slice wa ws.length wc, .int .i64 dg, .bool true]) (vs := [.int .i64 2]) (new := [.int .i64 2, .slice ba word.length bc, .slice wa ws.length wc, .int .i64 dg, .bool true]) HB.out (by kernel_rfl) S3 (Nat.le_of_ble_eq_true (by kernel_rfl)) (by simp [Value.oneCell', strV, u8V]) (by kernel_rfl)
  have HW : Hid (Own 9 1 (wk1.setRow g #[.int .i64 2, .slice ba word.length bc, .slice wa ws.length wc, .int .i64 dg, .bool true]) n0 wa wc ws.length (ws.map strV)) := HW.out.kept (Kept.setRow _ _ _) (HW.out.notBox HB.out (by decide))
  have HY : Hid (Own 5 1 (wk1.setRow g #[.int .i64 2, .slice ba word.length bc, .slice wa ws.length wc, .int .i64 dg, .bool true]) n0 ba bc word.length (word.map u8V)) := HY.out.kept (Kept.setRow _ _ _) (HY.out.notBox HB.out (by decide))
  have HK : Hid (Kept (Sg n0 g) w (wk1.setRow g #[.int .i64 2, .slice ba word.length bc, .slice wa ws.length wc, .int .i64 dg, .bool true])) := HK.out.inRow (S := Sg n0 g) (Or.inl rfl) _
  have HB : Hid (Box (wk1.setRow g #[.int .i64 2, .slice ba word.length bc, .slice wa ws.length wc, .int .i64 dg, .bool true]) g 46 #[.int .i64 2, .slice ba word.length bc, .slice wa ws.length wc, .int .i64 dg, .bool true]) := HB.out.setRow _
  refine wp_storeW 3 _ _ rfl ⟨g, 0, none⟩ (.int .i64 2) (by kernel_rfl) (by kernel_rfl) (wk1.setRow g #[.int .i64 2, .slice ba word.length bc, .slice wa ws.length wc, .int .i64 dg, .bool true]) hst (by kernel_rfl) ?_
  try simp only [pA, pB, p1, p2, p3]
  clear hst
  generalize wk1.setRow g #[.int .i64 2, .slice ba word.length bc, .slice wa ws.length wc, .int .i64 dg, .bool true] = wk2 at HW HY HK HB ⊢
  refine WL.nil ?_
  try simp only [pA, pB, p1, p2, p3]
  go_wp2
  go_end0
  rw [HC.out]
  exact ⟨rfl, by rw [HS.out]; exact RdA.of _ HB.out HW.out HY.out (Nat.le_trans HL.out HK.out.size) (by simp) (by simp [strV]) (by simp) (by simp) (by simp) (by simp [u8V, bi]) (by simp), HK.out⟩
set_option maxRecDepth 100000 in
set_option maxHeartbeats 4000000 in
theorem nx_5wn (n0 g : Nat) (word : List UInt8) (ws : List (List UInt8)) (dg : Int) (c : UInt8) (w : World) (hcut : RdA n0 w g ⟨5, word, ws, dg, false⟩) (hws : ws.length ≤ 1000000000000) (hbt : word.length ≤ 1000000000000) (h32 : bi c ≠ 32) (h9 : bi c ≠ 9) (hdg : 0 ≤ dg ∧ dg ≤ 15) (hlt : hexI (bi c) < 0) : Calls Try.prog 20 #[.pointer (some ⟨g, 0, none⟩), .int .u8 (bi c)] w (PostR n0 g (nextS ⟨5, word, ws, dg, false⟩ c) w) := by
  obtain ⟨C, hC⟩ : ∃ C : Ending → World → Prop, C = (PostR n0 g (nextS ⟨5, word, ws, dg, false⟩ c) w) := ⟨_, rfl⟩
  have HC : Hid (C = (PostR n0 g (nextS ⟨5, word, ws, dg, false⟩ c) w)) := hC
  rw [← hC]
  clear hC
  have e32 : (bi c == 32) = false := by simp [h32]
  have e9 : (bi c == 9) = false := by simp [h9]
  have HS : Hid (nextS ⟨5, word, ws, dg, false⟩ c = ⟨2, word, ws, dg, true⟩) := by show _ = _; unfold nextS; simp [hlt]
  clear h32 h9
  obtain ⟨wa, wc, ba, bc, hC0⟩ := hcut
  have HB : Hid (Box w g 46 #[.int .i64 5, .slice ba word.length bc, .slice wa ws.length wc, .int .i64 dg, .bool false]) := hC0.box
  have HW : Hid (Own 9 1 w n0 wa wc ws.length (ws.map strV)) := hC0.hw
  have HY : Hid (Own 5 1 w n0 ba bc word.length (word.map u8V)) := hC0.hb
  have HL : Hid (n0 ≤ w.heap.size) := hC0.hn
  have HWd : Hid (ws.length ≤ 1000000000000) := hws
  have HBd : Hid (word.length ≤ 1000000000000) := hbt
  have HK : Hid (Kept (Sg n0 g) w w) := Kept.refl _ _
  clear hC0 hws hbt
  have HDg : Hid (0 ≤ dg ∧ dg ≤ 15) := hdg
  have HHx : Hid (-1 ≤ hexI (bi c) ∧ hexI (bi c) ≤ 15) := hexI_le _
  clear hdg
  go_enter Try.func20, Try.ntmps20
  go_upto_region 0 with fail
  refine WL.start ?_
  refine tK (.int .u8 (bi c)) ?_
  try simp only [pA, pB, p1, p2, p3]
  refine tW (.bool false) (exec_bin .eql 5 _ _ _ rfl (.int .u8 (bi c)) (.int .u8 32) (.bool false) (by kernel_rfl) (by kernel_rfl) (by kernel_rfl) (by rw [b_eq5, e32])) ?_
  try simp only [pA, pB, p1, p2, p3]
  refine tK (.bool false) ?_
  try simp only [pA, pB, p1, p2, p3]
  refine tK (.int .u8 (bi c)) ?_
  try simp only [pA, pB, p1, p2, p3]
  refine tW (.bool false) (exec_bin .eql 5 _ _ _ rfl (.int .u8 (bi c)) (.int .u8 9) (.bool false) (by kernel_rfl) (by kernel_rfl) (by kernel_rfl) (by rw [b_eq5, e9])) ?_
  try simp only [pA, pB, p1, p2, p3]
  refine tK (.bool false) ?_
  try simp only [pA, pB, p1, p2, p3]
  refine tK (.bool false) ?_
  try simp only [pA, pB, p1, p2, p3]
  refine WL.nil ?_
  try simp only [pA, pB, p1, p2, p3]
  go_upto_region 1 with fail
  refine WL.start ?_
  refine tK (.pointer (some ⟨g, 0, none⟩)) ?_
  try simp only [pA, pB, p1, p2, p3]
  refine tK (.pointer (some ⟨g, 0, none⟩)) ?_
  try simp only [pA, pB, p1, p2, p3]
  refine tK (.pointer (some ⟨g, 0, none⟩)) ?_
  try simp only [pA, pB, p1, p2, p3]
  refine tW (.int .i64 5) (exec_load 3 _ rfl ⟨g, 0, none⟩ (by kernel_rfl) (.int .i64 5) (load_one (HB.out.cell 0) U3 rfl)) ?_
  try simp only [pA, pB, p1, p2, p3]
  refine WL.nil ?_
  try simp only [pA, pB, p1, p2, p3]
  go_upto_region 2 with fail
  refine WL.start ?_
  refine tK (.bool false) ?_
  try simp only [pA, pB, p1, p2, p3]
  refine tK (.bool false) ?_
  try simp only [pA, pB, p1, p2, p3]
  refine WL.nil ?_
  try simp only [pA, pB, p1, p2, p3]
  go_upto_region 10 with fail
  refine WL.start ?_
  refine tK (.bool false) ?_
  try simp only [pA, pB, p1, p2, p3]
  refine tK (.bool false) ?_
  try simp only [pA, pB, p1, p2, p3]
  refine WL.nil ?_
  try simp only [pA, pB, p1, p2, p3]
  go_upto_region 16 with fail
  refine WL.start ?_
  refine tK (.bool false) ?_
  try simp only [pA, pB, p1, p2, p3]
  refine tK (.bool false) ?_
  try simp only [pA, pB, p1, p2, p3]
  refine WL.nil ?_
  try simp only [pA, pB, p1, p2, p3]
  go_upto_region 23 with fail
  refine WL.start ?_
  refine tK (.bool false) ?_
  try simp only [pA, pB, p1, p2, p3]
  refine tK (.bool false) ?_
  try simp only [pA, pB, p1, p2, p3]
  refine WL.nil ?_
  try simp only [pA, pB, p1, p2, p3]
  go_upto_region 25 with fail
  refine WL.start ?_
  refine tK (.bool false) ?_
  try simp only [pA, pB, p1, p2, p3]
  refine tK (.bool false) ?_
  try simp only [pA, pB, p1, p2, p3]
  refine WL.nil ?_
  try simp only [pA, pB, p1, p2, p3]
  go_upto_region 29 with fail
  refine WL.start ?_
  refine tK (.bool true) ?_
  try simp only [pA, pB, p1, p2, p3]
  refine tK (.bool true) ?_
  try simp only [pA, pB, p1, p2, p3]
  refine WL.nil ?_
  try simp only [pA, pB, p1, p2, p3]
  go_upto_region 30 with fail
  refine WL.start ?_
  refine tK (.int .u8 (bi c)) ?_
  try simp only [pA, pB, p1, p2, p3]
  refine wp_callW 25 #[.int .u8 (bi c)] (by kernel_rfl) _ (hex_any _ (bi_lt c) w) (by kernel_rfl) ?_
  rintro e wq ⟨rfl, hwq⟩
  rw [hwq]
  clear hwq wq
  refine ⟨.int .i64 (hexI (bi c)), rfl, ?_⟩
  try simp only [pA, pB, p1, p2, p3]
  refine tK (.int .i64 (hexI (bi c))) ?_
  try simp only [pA, pB, p1, p2, p3]
  refine WL.nil ?_
  try simp only [pA, pB, p1, p2, p3]
  go_upto_region 31 with fail
  refine WL.start ?_
  refine tK (.pointer (some ⟨g, 0, none⟩)) ?_
  try simp only [pA, pB, p1, p2, p3]
  refine tK (.pointer (some ⟨g, 0, none⟩)) ?_
  try simp only [pA, pB, p1, p2, p3]
  refine tK (.pointer (some ⟨g, 0, none⟩)) ?_
  try simp only [pA, pB, p1, p2, p3]
  refine tK (.pointer (some ⟨g, 4, none⟩)) ?_
  try simp only [pA, pB, p1, p2, p3]
  refine tW (.bool false) (exec_load 4 _ rfl ⟨g, 4, none⟩ (by kernel_rfl) (.bool false) (load_one (HB.out.cell 4) U4 rfl)) ?_
  try simp only [pA, pB, p1, p2, p3]
  refine tK (.bool false) ?_
  try simp only [pA, pB, p1, p2, p3]
  refine tK (.int .i64 (hexI (bi c))) ?_
  try simp only [pA, pB, p1, p2, p3]
  refine tW (.bool true) (exec_bin .lss 3 _ _ _ rfl (.int .i64 (hexI (bi c))) (.int .i64 0) (.bool true) (by kernel_rfl) (by kernel_rfl) (by kernel_rfl) (by rw [b_lss, decide_eq_true hlt])) ?_
  try simp only [pA, pB, p1, p2, p3]
  refine tK (.bool true) ?_
  try simp only [pA, pB, p1, p2, p3]
  refine tK (.pointer (some ⟨g, 0, none⟩)) ?_
  try simp only [pA, pB, p1, p2, p3]
  refine tK (.pointer (some ⟨g, 4, none⟩)) ?_
  try simp only [pA, pB, p1, p2, p3]
  have hst : (storeVar 4 ⟨g, 4, none⟩ (.bool true)).run Try.prog w = .ok () (w.setRow g #[.int .i64 5, .slice ba word.length bc, .slice wa ws.length wc, .int .i64 dg, .bool true]) := run_store_to (cur := [.int .i64 5, .slice ba word.length bc, .slice wa ws.length wc, .int .i64 dg, .bool false]) (vs := [.bool true]) (new := [.int .i64 5, .slice ba word.length bc, .slice wa ws.length wc, .int .i64 dg, .bool true]) HB.out (by kernel_rfl) S4 (Nat.le_of_ble_eq_true (by kernel_rfl)) (by simp [Value.oneCell', strV, u8V]) (by kernel_rfl)
  have HW : Hid (Own 9 1 (w.setRow g #[.int .i64 5, .slice ba word.length bc, .slice wa ws.length wc, .int .i64 dg, .bool true]) n0 wa wc ws.length (ws.map strV)) := HW.out.kept (Kept.setRow _ _ _) (HW.out.notBox HB.out (by decide))
  have HY : Hid (Own 5 1 (w.setRow g #[.int .i64 5, .slice ba word.length bc, .slice wa ws.length wc, .int .i64 dg, .bool true]) n0 ba bc word.length (word.map u8V)) := HY.out.kept (Kept.setRow _ _ _) (HY.out.notBox HB.out (by decide))
  have HK : Hid (Kept (Sg n0 g) w (w.setRow g #[.int .i64 5, .slice ba word.length bc, .slice wa ws.length wc, .int .i64 dg, .bool true])) := HK.out.inRow (S := Sg n0 g) (Or.inl rfl) _
  have HB : Hid (Box (w.setRow g #[.int .i64 5, .slice ba word.length bc, .slice wa ws.length wc, .int .i64 dg, .bool true]) g 46 #[.int .i64 5, .slice ba word.length bc, .slice wa ws.length wc, .int .i64 dg, .bool true]) := HB.out.setRow _
  refine wp_storeW 4 _ _ rfl ⟨g, 4, none⟩ (.bool true) (by kernel_rfl) (by kernel_rfl) (w.setRow g #[.int .i64 5, .slice ba word.length bc, .slice wa ws.length wc, .int .i64 dg, .bool true]) hst (by kernel_rfl) ?_
  try simp only [pA, pB, p1, p2, p3]
  clear hst
  generalize w.setRow g #[.int .i64 5, .slice ba word.length bc, .slice wa ws.length wc, .int .i64 dg, .bool true] = wk1 at HW HY HK HB ⊢
  refine WL.nil ?_
  try simp only [pA, pB, p1, p2, p3]
  go_upto_region 32 with fail
  refine WL.start ?_
  refine tK (.pointer (some ⟨g, 0, none⟩)) ?_
  try simp only [pA, pB, p1, p2, p3]
  refine tK (.pointer (some ⟨g, 0, none⟩)) ?_
  try simp only [pA, pB, p1, p2, p3]
  refine tK (.pointer (some ⟨g, 4, none⟩)) ?_
  try simp only [pA, pB, p1, p2, p3]
  refine tW (.bool true) (exec_load 4 _ rfl ⟨g, 4, none⟩ (by kernel_rfl) (.bool true) (load_one (HB.out.cell 4) U4 rfl)) ?_
  try simp only [pA, pB, p1, p2, p3]
  refine tK (.bool false) ?_
  try simp only [pA, pB, p1, p2, p3]
  refine WL.nil ?_
  try simp only [pA, pB, p1, p2, p3]
  go_upto_region 34 with fail
  refine WL.start ?_
  refine tK (.pointer (some ⟨g, 0, none⟩)) ?_
  try simp only [pA, pB, p1, p2, p3]
  refine tK (.pointer (some ⟨g, 0, none⟩)) ?_
  try simp only [pA, pB, p1, p2, p3]
  refine tK (.pointer (some ⟨g, 0, none⟩)) ?_
  try simp only [pA, pB, p1, p2, p3]
  have hst : (storeVar 3 ⟨g, 0, none⟩ (.int .i64 2)).run Try.prog wk1 = .ok () (wk1.setRow g #[.int .i64 2, .slice ba word.length bc, .slice wa ws.length wc, .int .i64 dg, .bool true]) := run_store_to (cur := [.int .i64 5, .slice ba word.length bc, .slice wa ws.length wc, .int .i64 dg, .bool true]) (vs := [.int .i64 2]) (new := [.int .i64 2, .slice ba word.length bc, .slice wa ws.length wc, .int .i64 dg, .bool true]) HB.out (by kernel_rfl) S3 (Nat.le_of_ble_eq_true (by kernel_rfl)) (by simp [Value.oneCell', strV, u8V]) (by kernel_rfl)
  have HW : Hid (Own 9 1 (wk1.setRow g #[.int .i64 2, .slice ba word.length bc, .slice wa ws.length wc, .int .i64 dg, .bool true]) n0 wa wc ws.length (ws.map strV)) := HW.out.kept (Kept.setRow _ _ _) (HW.out.notBox HB.out (by decide))
  have HY : Hid (Own 5 1 (wk1.setRow g #[.int .i64 2, .slice ba word.length bc, .slice wa ws.length wc, .int .i64 dg, .bool true]) n0 ba bc word.length (word.map u8V)) := HY.out.kept (Kept.setRow _ _ _) (HY.out.notBox HB.out (by decide))
  have HK : Hid (Kept (Sg n0 g) w (wk1.setRow g #[.int .i64 2, .slice ba word.length bc, .slice wa ws.length wc, .int .i64 dg, .bool true])) := HK.out.inRow (S := Sg n0 g) (Or.inl rfl) _
  have HB : Hid (Box (wk1.setRow g #[.int .i64 2, .slice ba word.length bc, .slice wa ws.length wc, .int .i64 dg, .bool true]) g 46 #[.int .i64 2, .slice ba word.length bc, .slice wa ws.length wc, .int .i64 dg, .bool true]) := HB.out.setRow _
  refine wp_storeW 3 _ _ rfl ⟨g, 0, none⟩ (.int .i64 2) (by kernel_rfl) (by kernel_rfl) (wk1.setRow g #[.int .i64 2, .slice ba word.length bc, .slice wa ws.length wc, .int .i64 dg, .bool true]) hst (by kernel_rfl) ?_
  try simp only [pA, pB, p1, p2, p3]
  clear hst
  generalize wk1.setRow g #[.int .i64 2, .slice ba word.length bc, .slice wa ws.length wc, .int .i64 dg, .bool true] = wk2 at HW HY HK HB ⊢
  refine WL.nil ?_
  try simp only [pA, pB, p1, p2, p3]
  go_wp2
  go_end0
  rw [HC.out]
  exact ⟨rfl, by rw [HS.out]; exact RdA.of _ HB.out HW.out HY.out (Nat.le_trans HL.out HK.out.size) (by simp) (by simp [strV]) (by simp) (by simp) (by simp) (by simp [u8V, bi]) (by simp), HK.out⟩
set_option maxRecDepth 100000 in
set_option maxHeartbeats 4000000 in
theorem nx_5 (n0 g : Nat) (word : List UInt8) (ws : List (List UInt8)) (dg : Int) (c : UInt8) (w : World) (hcut : RdA n0 w g ⟨5, word, ws, dg, false⟩) (hws : ws.length ≤ 1000000000000) (hbt : word.length ≤ 1000000000000) (h32 : bi c ≠ 32) (h9 : bi c ≠ 9) (hdg : 0 ≤ dg ∧ dg ≤ 15) (hlt : ¬ hexI (bi c) < 0) : Calls Try.prog 20 #[.pointer (some ⟨g, 0, none⟩), .int .u8 (bi c)] w (PostR n0 g (nextS ⟨5, word, ws, dg, false⟩ c) w) := by
  obtain ⟨C, hC⟩ : ∃ C : Ending → World → Prop, C = (PostR n0 g (nextS ⟨5, word, ws, dg, false⟩ c) w) := ⟨_, rfl⟩
  have HC : Hid (C = (PostR n0 g (nextS ⟨5, word, ws, dg, false⟩ c) w)) := hC
  rw [← hC]
  clear hC
  have e32 : (bi c == 32) = false := by simp [h32]
  have e9 : (bi c == 9) = false := by simp [h9]
  have HS : Hid (nextS ⟨5, word, ws, dg, false⟩ c = ⟨2, word ++ [UInt8.ofNat (16 * dg + hexI (bi c)).toNat], ws, dg, false⟩) := by show _ = _; unfold nextS; simp [hlt]
  clear h32 h9
  obtain ⟨wa, wc, ba, bc, hC0⟩ := hcut
  have HB : Hid (Box w g 46 #[.int .i64 5, .slice ba word.length bc, .slice wa ws.length wc, .int .i64 dg, .bool false]) := hC0.box
  have HW : Hid (Own 9 1 w n0 wa wc ws.length (ws.map strV)) := hC0.hw
  have HY : Hid (Own 5 1 w n0 ba bc word.length (word.map u8V)) := hC0.hb
  have HL : Hid (n0 ≤ w.heap.size) := hC0.hn
  have HWd : Hid (ws.length ≤ 1000000000000) := hws
  have HBd : Hid (word.length ≤ 1000000000000) := hbt
  have HK : Hid (Kept (Sg n0 g) w w) := Kept.refl _ _
  clear hC0 hws hbt
  have HDg : Hid (0 ≤ dg ∧ dg ≤ 15) := hdg
  have HHx : Hid (0 ≤ hexI (bi c) ∧ hexI (bi c) ≤ 15) := ⟨by omega, (hexI_le _).2⟩
  clear hdg
  go_enter Try.func20, Try.ntmps20
  go_upto_region 0 with fail
  refine WL.start ?_
  refine tK (.int .u8 (bi c)) ?_
  try simp only [pA, pB, p1, p2, p3]
  refine tW (.bool false) (exec_bin .eql 5 _ _ _ rfl (.int .u8 (bi c)) (.int .u8 32) (.bool false) (by kernel_rfl) (by kernel_rfl) (by kernel_rfl) (by rw [b_eq5, e32])) ?_
  try simp only [pA, pB, p1, p2, p3]
  refine tK (.bool false) ?_
  try simp only [pA, pB, p1, p2, p3]
  refine tK (.int .u8 (bi c)) ?_
  try simp only [pA, pB, p1, p2, p3]
  refine tW (.bool false) (exec_bin .eql 5 _ _ _ rfl (.int .u8 (bi c)) (.int .u8 9) (.bool false) (by kernel_rfl) (by kernel_rfl) (by kernel_rfl) (by rw [b_eq5, e9])) ?_
  try simp only [pA, pB, p1, p2, p3]
  refine tK (.bool false) ?_
  try simp only [pA, pB, p1, p2, p3]
  refine tK (.bool false) ?_
  try simp only [pA, pB, p1, p2, p3]
  refine WL.nil ?_
  try simp only [pA, pB, p1, p2, p3]
  go_upto_region 1 with fail
  refine WL.start ?_
  refine tK (.pointer (some ⟨g, 0, none⟩)) ?_
  try simp only [pA, pB, p1, p2, p3]
  refine tK (.pointer (some ⟨g, 0, none⟩)) ?_
  try simp only [pA, pB, p1, p2, p3]
  refine tK (.pointer (some ⟨g, 0, none⟩)) ?_
  try simp only [pA, pB, p1, p2, p3]
  refine tW (.int .i64 5) (exec_load 3 _ rfl ⟨g, 0, none⟩ (by kernel_rfl) (.int .i64 5) (load_one (HB.out.cell 0) U3 rfl)) ?_
  try simp only [pA, pB, p1, p2, p3]
  refine WL.nil ?_
  try simp only [pA, pB, p1, p2, p3]
  go_upto_region 2 with fail
  refine WL.start ?_
  refine tK (.bool false) ?_
  try simp only [pA, pB, p1, p2, p3]
  refine tK (.bool false) ?_
  try simp only [pA, pB, p1, p2, p3]
  refine WL.nil ?_
  try simp only [pA, pB, p1, p2, p3]
  go_upto_region 10 with fail
  refine WL.start ?_
  refine tK (.bool false) ?_
  try simp only [pA, pB, p1, p2, p3]
  refine tK (.bool false) ?_
  try simp only [pA, pB, p1, p2, p3]
  refine WL.nil ?_
  try simp only [pA, pB, p1, p2, p3]
  go_upto_region 16 with fail
  refine WL.start ?_
  refine tK (.bool false) ?_
  try simp only [pA, pB, p1, p2, p3]
  refine tK (.bool false) ?_
  try simp only [pA, pB, p1, p2, p3]
  refine WL.nil ?_
  try simp only [pA, pB, p1, p2, p3]
  go_upto_region 23 with fail
  refine WL.start ?_
  refine tK (.bool false) ?_
  try simp only [pA, pB, p1, p2, p3]
  refine tK (.bool false) ?_
  try simp only [pA, pB, p1, p2, p3]
  refine WL.nil ?_
  try simp only [pA, pB, p1, p2, p3]
  go_upto_region 25 with fail
  refine WL.start ?_
  refine tK (.bool false) ?_
  try simp only [pA, pB, p1, p2, p3]
  refine tK (.bool false) ?_
  try simp only [pA, pB, p1, p2, p3]
  refine WL.nil ?_
  try simp only [pA, pB, p1, p2, p3]
  go_upto_region 29 with fail
  refine WL.start ?_
  refine tK (.bool true) ?_
  try simp only [pA, pB, p1, p2, p3]
  refine tK (.bool true) ?_
  try simp only [pA, pB, p1, p2, p3]
  refine WL.nil ?_
  try simp only [pA, pB, p1, p2, p3]
  go_upto_region 30 with fail
  refine WL.start ?_
  refine tK (.int .u8 (bi c)) ?_
  try simp only [pA, pB, p1, p2, p3]
  refine wp_callW 25 #[.int .u8 (bi c)] (by kernel_rfl) _ (hex_any _ (bi_lt c) w) (by kernel_rfl) ?_
  rintro e wq ⟨rfl, hwq⟩
  rw [hwq]
  clear hwq wq
  refine ⟨.int .i64 (hexI (bi c)), rfl, ?_⟩
  try simp only [pA, pB, p1, p2, p3]
  refine tK (.int .i64 (hexI (bi c))) ?_
  try simp only [pA, pB, p1, p2, p3]
  refine WL.nil ?_
  try simp only [pA, pB, p1, p2, p3]
  go_upto_region 31 with fail
  refine WL.start ?_
  refine tK (.pointer (some ⟨g, 0, none⟩)) ?_
  try simp only [pA, pB, p1, p2, p3]
  refine tK (.pointer (some ⟨g, 0, none⟩)) ?_
  try simp only [pA, pB, p1, p2, p3]
  refine tK (.pointer (some ⟨g, 0, none⟩)) ?_
  try simp only [pA, pB, p1, p2, p3]
  refine tK (.pointer (some ⟨g, 4, none⟩)) ?_
  try simp only [pA, pB, p1, p2, p3]
  refine tW (.bool false) (exec_load 4 _ rfl ⟨g, 4, none⟩ (by kernel_rfl) (.bool false) (load_one (HB.out.cell 4) U4 rfl)) ?_
  try simp only [pA, pB, p1, p2, p3]
  refine tK (.bool false) ?_
  try simp only [pA, pB, p1, p2, p3]
  refine tK (.int .i64 (hexI (bi c))) ?_
  try simp only [pA, pB, p1, p2, p3]
  refine tW (.bool false) (exec_bin .lss 3 _ _ _ rfl (.int .i64 (hexI (bi c))) (.int .i64 0) (.bool false) (by kernel_rfl) (by kernel_rfl) (by kernel_rfl) (by rw [b_lss, decide_eq_false hlt])) ?_
  try simp only [pA, pB, p1, p2, p3]
  refine tK (.bool false) ?_
  try simp only [pA, pB, p1, p2, p3]
  refine tK (.pointer (some ⟨g, 0, none⟩)) ?_
  try simp only [pA, pB, p1, p2, p3]
  refine tK (.pointer (some ⟨g, 4, none⟩)) ?_
  try simp only [pA, pB, p1, p2, p3]
  have hst : (storeVar 4 ⟨g, 4, none⟩ (.bool false)).run Try.prog w = .ok () (w.setRow g #[.int .i64 5, .slice ba word.length bc, .slice wa ws.length wc, .int .i64 dg, .bool false]) := run_store_to (cur := [.int .i64 5, .slice ba word.length bc, .slice wa ws.length wc, .int .i64 dg, .bool false]) (vs := [.bool false]) (new := [.int .i64 5, .slice ba word.length bc, .slice wa ws.length wc, .int .i64 dg, .bool false]) HB.out (by kernel_rfl) S4 (Nat.le_of_ble_eq_true (by kernel_rfl)) (by simp [Value.oneCell', strV, u8V]) (by kernel_rfl)
  have HW : Hid (Own 9 1 (w.setRow g #[.int .i64 5, .slice ba word.length bc, .slice wa ws.length wc, .int .i64 dg, .bool false]) n0 wa wc ws.length (ws.map strV)) := HW.out.kept (Kept.setRow _ _ _) (HW.out.notBox HB.out (by decide))
  have HY : Hid (Own 5 1 (w.setRow g #[.int .i64 5, .slice ba word.length bc, .slice wa ws.length wc, .int .i64 dg, .bool false]) n0 ba bc word.length (word.map u8V)) := HY.out.kept (Kept.setRow _ _ _) (HY.out.notBox HB.out (by decide))
  have HK : Hid (Kept (Sg n0 g) w (w.setRow g #[.int .i64 5, .slice ba word.length bc, .slice wa ws.length wc, .int .i64 dg, .bool false])) := HK.out.inRow (S := Sg n0 g) (Or.inl rfl) _
  have HB : Hid (Box (w.setRow g #[.int .i64 5, .slice ba word.length bc, .slice wa ws.length wc, .int .i64 dg, .bool false]) g 46 #[.int .i64 5, .slice ba word.length bc, .slice wa ws.length wc, .int .i64 dg, .bool false]) := HB.out.setRow _
  refine wp_storeW 4 _ _ rfl ⟨g, 4, none⟩ (.bool false) (by kernel_rfl) (by kernel_rfl) (w.setRow g #[.int .i64 5, .slice ba word.length bc, .slice wa ws.length wc, .int .i64 dg, .bool false]) hst (by kernel_rfl) ?_
  try simp only [pA, pB, p1, p2, p3]
  clear hst
  generalize w.setRow g #[.int .i64 5, .slice ba word.length bc, .slice wa ws.length wc, .int .i64 dg, .bool false] = wk1 at HW HY HK HB ⊢
  refine WL.nil ?_
  try simp only [pA, pB, p1, p2, p3]
  go_upto_region 32 with fail
  refine WL.start ?_
  refine tK (.pointer (some ⟨g, 0, none⟩)) ?_
  try simp only [pA, pB, p1, p2, p3]
  refine tK (.pointer (some ⟨g, 0, none⟩)) ?_
  try simp only [pA, pB, p1, p2, p3]
  refine tK (.pointer (some ⟨g, 4, none⟩)) ?_
  try simp only [pA, pB, p1, p2, p3]
  refine tW (.bool false) (exec_load 4 _ rfl ⟨g, 4, none⟩ (by kernel_rfl) (.bool false) (load_one (HB.out.cell 4) U4 rfl)) ?_
  try simp only [pA, pB, p1, p2, p3]
  refine tK (.bool true) ?_
  try simp only [pA, pB, p1, p2, p3]
  refine WL.nil ?_
  try simp only [pA, pB, p1, p2, p3]
  go_upto_region 33 with fail
  have HW : Hid (Own 9 1 wk1.drew n0 wa wc ws.length (ws.map strV)) := HW.out.no (Kept.refl No _).drew
  have HY : Hid (Own 5 1 wk1.drew n0 ba bc word.length (word.map u8V)) := HY.out.no (Kept.refl No _).drew
  have HK : Hid (Kept (Sg n0 g) w wk1.drew) := HK.out.drew
  have HB : Hid (Box wk1.drew g 46 #[.int .i64 5, .slice ba word.length bc, .slice wa ws.length wc, .int .i64 dg, .bool false]) := HB.out.kept (Kept.refl No _).drew (fun e => e)
  refine wp_region_held_drew (S := fun w' => w'.cell? ⟨g, 3, none⟩ = some (.int .i64 dg)) rfl (HB.out.cell 3) (fun hH => ?_)
  generalize wk1.drew = wk2 at HW HY HK HB hH ⊢
  refine aT (i := 0) (oi := { dst := some 138, op := Op.move (Operand.tmp 0), type := 44, pos := "words.go:113", after := #[], guard := none }) (v := .pointer (some ⟨g, 0, none⟩)) (fun _ _ => by kernel_rfl) hH ?_
  try simp only [pA, pB, p1, p2, p3]
  refine aT (i := 1) (oi := { dst := some 139, op := Op.move (Operand.tmp 0), type := 44, pos := "words.go:113", after := #[], guard := none }) (v := .pointer (some ⟨g, 0, none⟩)) (fun _ _ => by kernel_rfl) hH ?_
  try simp only [pA, pB, p1, p2, p3]
  refine aT (i := 2) (oi := { dst := some 140, op := Op.nilCheck (Operand.tmp 139), type := 0, pos := "words.go:113", after := #[{ on := 1, ground := Ground.data }], guard := none }) (v := .pointer (some ⟨g, 0, none⟩)) (fun _ _ => by kernel_rfl) hH ?_
  try simp only [pA, pB, p1, p2, p3]
  refine aT (i := 3) (oi := { dst := some 141, op := Op.fieldAddr 46 (Operand.tmp 140) 1, type := 0, pos := "words.go:113", after := #[{ on := 2, ground := Ground.data }], guard := none }) (v := .pointer (some ⟨g, 1, none⟩)) (fun _ _ => by kernel_rfl) hH ?_
  try simp only [pA, pB, p1, p2, p3]
  refine aT (i := 5) (oi := { dst := some 143, op := Op.move (Operand.tmp 0), type := 44, pos := "words.go:113", after := #[], guard := none }) (v := .pointer (some ⟨g, 0, none⟩)) (fun _ _ => by kernel_rfl) hH ?_
  try simp only [pA, pB, p1, p2, p3]
  refine aT (i := 6) (oi := { dst := some 144, op := Op.nilCheck (Operand.tmp 143), type := 0, pos := "words.go:113", after := #[{ on := 5, ground := Ground.data }], guard := none }) (v := .pointer (some ⟨g, 0, none⟩)) (fun _ _ => by kernel_rfl) hH ?_
  try simp only [pA, pB, p1, p2, p3]
  refine aT (i := 7) (oi := { dst := some 145, op := Op.fieldAddr 46 (Operand.tmp 144) 3, type := 0, pos := "words.go:113", after := #[{ on := 6, ground := Ground.data }], guard := none }) (v := .pointer (some ⟨g, 3, none⟩)) (fun _ _ => by kernel_rfl) hH ?_
  try simp only [pA, pB, p1, p2, p3]
  refine aT (i := 8) (oi := { dst := some 146, op := Op.load 3 (Operand.tmp 145), type := 3, pos := "words.go:113", after := #[{ on := 7, ground := Ground.data }], guard := none }) (v := .int .i64 dg) (fun w' hw => exec_load 3 _ rfl ⟨g, 3, none⟩ (by kernel_rfl) (.int .i64 dg) (load_one hw U3 rfl)) hH ?_
  try simp only [pA, pB, p1, p2, p3]
  refine aT (i := 9) (oi := { dst := some 147, op := Op.binOp BinOp.mul 3 (Operand.const (Value.int IntKind.i64 16)) (Operand.tmp 146) 3, type := 3, pos := "words.go:113", after := #[{ on := 8, ground := Ground.data }], guard := none }) (v := .int .i64 (16 * dg)) (fun w' hw => exec_bin .mul 3 _ _ _ rfl (.int .i64 16) (.int .i64 dg) (.int .i64 (16 * dg)) (by kernel_rfl) (by kernel_rfl) (by kernel_rfl) (b_mul _ _ _ (by have := HDg.out; exact wrap_id _ (by omega) (by omega)) _)) hH ?_
  try simp only [pA, pB, p1, p2, p3]
  refine aT (i := 10) (oi := { dst := some 148, op := Op.move (Operand.tmp 5), type := 3, pos := "words.go:113", after := #[], guard := none }) (v := .int .i64 (hexI (bi c))) (fun _ _ => by kernel_rfl) hH ?_
  try simp only [pA, pB, p1, p2, p3]
  refine aT (i := 11) (oi := { dst := some 149, op := Op.binOp BinOp.add 3 (Operand.tmp 147) (Operand.tmp 148) 3, type := 3, pos := "words.go:113", after := #[{ on := 9, ground := Ground.data }, { on := 10, ground := Ground.data }], guard := none }) (v := .int .i64 (16 * dg + hexI (bi c))) (fun w' hw => exec_bin .add 3 _ _ _ rfl (.int .i64 (16 * dg)) (.int .i64 (hexI (bi c))) (.int .i64 (16 * dg + hexI (bi c))) (by kernel_rfl) (by kernel_rfl) (by kernel_rfl) (b_add _ _ _ (by have := HDg.out; have := HHx.out; exact wrap_id _ (by omega) (by omega)) _)) hH ?_
  try simp only [pA, pB, p1, p2, p3]
  refine aT (i := 12) (oi := { dst := some 150, op := Op.convert 3 5 (Operand.tmp 149), type := 5, pos := "words.go:113", after := #[{ on := 11, ground := Ground.data }], guard := none }) (v := .int .u8 (16 * dg + hexI (bi c))) (fun w' hw => exec_conv _ 3 5 rfl _ _ (by kernel_rfl) (c_u8 _ (by have := HDg.out; have := HHx.out; omega) (by have := HDg.out; have := HHx.out; omega) _)) hH ?_
  try simp only [pA, pB, p1, p2, p3]
  refine any_pick (rs := [4, 13]) (by kernel_rfl) (by simp) ?_
  intro i hi
  rcases pick2 hi with rfl | rfl
  ·skip
   clear hi
   refine step_run (i := 4) (o := { dst := some 142, op := Op.load 30 (Operand.tmp 141), type := 30, pos := "words.go:113", after := #[{ on := 3, ground := Ground.data }], guard := none }) (v := .slice ba word.length bc) (w' := wk2) rfl (by kernel_rfl) (exec_load 30 _ rfl ⟨g, 1, none⟩ (by kernel_rfl) (.slice ba word.length bc) (load_one (HB.out.cell 1) U30 rfl)) (HB.out.cell 3) (fun hH => ?_)
   try simp only [pA, pB, p1, p2, p3]
   have HW : Hid (Own 9 1 (wk2.alloc (.cells [.int .u8 (16 * dg + hexI (bi c))].toArray 5)) n0 wa wc ws.length (ws.map strV)) := HW.out.no ((Kept.refl No _).alloc _)
   have HY : Hid (Own 5 1 (wk2.alloc (.cells [.int .u8 (16 * dg + hexI (bi c))].toArray 5)) n0 ba bc word.length (word.map u8V)) := HY.out.no ((Kept.refl No _).alloc _)
   have HK : Hid (Kept (Sg n0 g) w (wk2.alloc (.cells [.int .u8 (16 * dg + hexI (bi c))].toArray 5))) := HK.out.alloc _
   have HB : Hid (Box (wk2.alloc (.cells [.int .u8 (16 * dg + hexI (bi c))].toArray 5)) g 46 #[.int .i64 5, .slice ba word.length bc, .slice wa ws.length wc, .int .i64 dg, .bool false]) := HB.out.alloc _
   have HX : Hid (Box (wk2.alloc (.cells [.int .u8 (16 * dg + hexI (bi c))].toArray 5)) wk2.heap.size 5 [.int .u8 (16 * dg + hexI (bi c))].toArray) := Box.new _ _ _
   refine any_step (i := 13) (o := { dst := some 151, op := Op.buildSlice 30 1 #[(0, Operand.tmp 150)], type := 30, pos := "words.go:113", after := #[{ on := 12, ground := Ground.data }], guard := none }) (v := .slice (some ⟨wk2.heap.size, 0, none⟩) 1 1) (w' := wk2.alloc (.cells [.int .u8 (16 * dg + hexI (bi c))].toArray 5)) rfl (by kernel_rfl) (by kernel_rfl) (exec_built (by kernel_rfl)) (HB.out.cell 3) (fun hH => ?_)
   try simp only [pA, pB, p1, p2, p3]
   generalize wk2.alloc (.cells [.int .u8 (16 * dg + hexI (bi c))].toArray 5) = wk3 at HW HY HK HX HB hH ⊢
   generalize wk2.heap.size = gk4 at HX ⊢
   obtain ⟨a_4, c_4, w_4, hrun, ho, hc⟩ := run_app 30 5 1 _ U30 I5 rfl HY.out 30 ⟨gk4, 0, none⟩ 1 1 [.int .u8 (16 * dg + hexI (bi c))] rfl (box_news HX.out) (by simp [Value.oneCell', strV, u8V]) (by have h2 := HBd.out; have h3 := HWd.out; omega) (by have h2 := HBd.out; have h3 := HWd.out; omega) (Nat.le_trans HL.out HK.out.size)
   clear HX
   have HW : Hid (Own 9 1 w_4 n0 wa wc ws.length (ws.map strV)) := HW.out.kept hc (own_apart HW.out HY.out (by decide))
   have HK : Hid (Kept (Sg n0 g) w w_4) := HK.out.trans hc (fun _ e => e) (fun _ _ e => Or.inr (HY.out.base e))
   have HB : Hid (Box w_4 g 46 #[.int .i64 5, .slice ba word.length bc, .slice wa ws.length wc, .int .i64 dg, .bool false]) := HB.out.kept hc (HY.out.offBox HB.out (by decide))
   have HY : Hid (Own 5 1 w_4 n0 a_4 c_4 (word.length + 1) (word.map u8V ++ [.int .u8 (16 * dg + hexI (bi c))])) := ho
   refine any_step (i := 14) (o := { dst := some 152, op := Op.call { callee := Callee.builtin Builtin.append, args := #[Operand.tmp 142, Operand.tmp 151], argTypes := #[30, 30] }, type := 30, pos := "words.go:113", after := #[{ on := 4, ground := Ground.data }, { on := 13, ground := Ground.data }], guard := none }) (v := .slice a_4 (word.length + 1) c_4) (w' := w_4) rfl (by kernel_rfl) (by kernel_rfl) (exec_app _ _ 30 30 rfl _ _ _ (by kernel_rfl) (by kernel_rfl) hrun) (HB.out.cell 3) (fun hH => ?_)
   try simp only [pA, pB, p1, p2, p3]
   clear hrun ho hc
   refine aT (i := 15) (oi := { dst := some 153, op := Op.nilCheck (Operand.tmp 138), type := 0, pos := "words.go:113", after := #[{ on := 0, ground := Ground.data }, { on := 0, ground := Ground.phase }, { on := 1, ground := Ground.phase }, { on := 2, ground := Ground.phase }, { on := 3, ground := Ground.phase }, { on := 4, ground := Ground.phase }, { on := 5, ground := Ground.phase }, { on := 6, ground := Ground.phase }, { on := 7, ground := Ground.phase }, { on := 8, ground := Ground.phase }, { on := 9, ground := Ground.phase }, { on := 10, ground := Ground.phase }, { on := 11, ground := Ground.phase }, { on := 12, ground := Ground.phase }, { on := 13, ground := Ground.phase }, { on := 14, ground := Ground.phase }], guard := none }) (v := .pointer (some ⟨g, 0, none⟩)) (fun _ _ => by kernel_rfl) hH ?_
   try simp only [pA, pB, p1, p2, p3]
   refine aT (i := 16) (oi := { dst := some 154, op := Op.fieldAddr 46 (Operand.tmp 153) 1, type := 0, pos := "words.go:113", after := #[{ on := 15, ground := Ground.data }, { on := 0, ground := Ground.phase }, { on := 1, ground := Ground.phase }, { on := 2, ground := Ground.phase }, { on := 3, ground := Ground.phase }, { on := 4, ground := Ground.phase }, { on := 5, ground := Ground.phase }, { on := 6, ground := Ground.phase }, { on := 7, ground := Ground.phase }, { on := 8, ground := Ground.phase }, { on := 9, ground := Ground.phase }, { on := 10, ground := Ground.phase }, { on := 11, ground := Ground.phase }, { on := 12, ground := Ground.phase }, { on := 13, ground := Ground.phase }, { on := 14, ground := Ground.phase }], guard := none }) (v := .pointer (some ⟨g, 1, none⟩)) (fun _ _ => by kernel_rfl) hH ?_
   try simp only [pA, pB, p1, p2, p3]
   have hst : (storeVar 30 ⟨g, 1, none⟩ (.slice a_4 (word.length + 1) c_4)).run Try.prog w_4 = .ok () (w_4.setRow g #[.int .i64 5, .slice a_4 (word.length + 1) c_4, .slice wa ws.length wc, .int .i64 dg, .bool false]) := run_store_to (cur := [.int .i64 5, .slice ba word.length bc, .slice wa ws.length wc, .int .i64 dg, .bool false]) (vs := [.slice a_4 (word.length + 1) c_4]) (new := [.int .i64 5, .slice a_4 (word.length + 1) c_4, .slice wa ws.length wc, .int .i64 dg, .bool false]) HB.out (by kernel_rfl) S30 (Nat.le_of_ble_eq_true (by kernel_rfl)) (by simp [Value.oneCell', strV, u8V]) (by kernel_rfl)
   have HW : Hid (Own 9 1 (w_4.setRow g #[.int .i64 5, .slice a_4 (word.length + 1) c_4, .slice wa ws.length wc, .int .i64 dg, .bool false]) n0 wa wc ws.length (ws.map strV)) := HW.out.kept (Kept.setRow _ _ _) (HW.out.notBox HB.out (by decide))
   have HY : Hid (Own 5 1 (w_4.setRow g #[.int .i64 5, .slice a_4 (word.length + 1) c_4, .slice wa ws.length wc, .int .i64 dg, .bool false]) n0 a_4 c_4 (word.length + 1) (word.map u8V ++ [.int .u8 (16 * dg + hexI (bi c))])) := HY.out.kept (Kept.setRow _ _ _) (HY.out.notBox HB.out (by decide))
   have HK : Hid (Kept (Sg n0 g) w (w_4.setRow g #[.int .i64 5, .slice a_4 (word.length + 1) c_4, .slice wa ws.length wc, .int .i64 dg, .bool false])) := HK.out.inRow (S := Sg n0 g) (Or.inl rfl) _
   have HB : Hid (Box (w_4.setRow g #[.int .i64 5, .slice a_4 (word.length + 1) c_4, .slice wa ws.length wc, .int .i64 dg, .bool false]) g 46 #[.int .i64 5, .slice a_4 (word.length + 1) c_4, .slice wa ws.length wc, .int .i64 dg, .bool false]) := HB.out.setRow _
   refine any_store (i := 17) (o := { dst := none, op := Op.store 30 (Operand.tmp 154) (Operand.tmp 152), type := 0, pos := "words.go:113", after := #[{ on := 16, ground := Ground.data }, { on := 14, ground := Ground.data }, { on := 14, ground := Ground.chain }, { on := 0, ground := Ground.phase }, { on := 1, ground := Ground.phase }, { on := 2, ground := Ground.phase }, { on := 3, ground := Ground.phase }, { on := 4, ground := Ground.phase }, { on := 5, ground := Ground.phase }, { on := 6, ground := Ground.phase }, { on := 7, ground := Ground.phase }, { on := 8, ground := Ground.phase }, { on := 9, ground := Ground.phase }, { on := 10, ground := Ground.phase }, { on := 11, ground := Ground.phase }, { on := 12, ground := Ground.phase }, { on := 13, ground := Ground.phase }, { on := 14, ground := Ground.phase }], guard := none }) (w' := w_4.setRow g #[.int .i64 5, .slice a_4 (word.length + 1) c_4, .slice wa ws.length wc, .int .i64 dg, .bool false]) rfl (by kernel_rfl) (by kernel_rfl) 30 _ _ rfl ⟨g, 1, none⟩ (.slice a_4 (word.length + 1) c_4) (by kernel_rfl) (by kernel_rfl) hst (HB.out.cell 3) (fun hH => ?_)
   try simp only [pA, pB, p1, p2, p3]
   clear hst
   generalize w_4.setRow g #[.int .i64 5, .slice a_4 (word.length + 1) c_4, .slice wa ws.length wc, .int .i64 dg, .bool false] = wk6 at HW HY HK HB hH ⊢
   refine wpAnyH_done (by kernel_rfl) ?_ _
   try simp only [pA, pB, p1, p2, p3]
   clear hH
   go_upto_region 34 with fail
   refine WL.start ?_
   refine tK (.pointer (some ⟨g, 0, none⟩)) ?_
   try simp only [pA, pB, p1, p2, p3]
   refine tK (.pointer (some ⟨g, 0, none⟩)) ?_
   try simp only [pA, pB, p1, p2, p3]
   refine tK (.pointer (some ⟨g, 0, none⟩)) ?_
   try simp only [pA, pB, p1, p2, p3]
   have hst : (storeVar 3 ⟨g, 0, none⟩ (.int .i64 2)).run Try.prog wk6 = .ok () (wk6.setRow g #[.int .i64 2, .slice a_4 (word.length + 1) c_4, .slice wa ws.length wc, .int .i64 dg, .bool false]) := run_store_to (cur := [.int .i64 5, .slice a_4 (word.length + 1) c_4, .slice wa ws.length wc, .int .i64 dg, .bool false]) (vs := [.int .i64 2]) (new := [.int .i64 2, .slice a_4 (word.length + 1) c_4, .slice wa ws.length wc, .int .i64 dg, .bool false]) HB.out (by kernel_rfl) S3 (Nat.le_of_ble_eq_true (by kernel_rfl)) (by simp [Value.oneCell', strV, u8V]) (by kernel_rfl)
   have HW : Hid (Own 9 1 (wk6.setRow g #[.int .i64 2, .slice a_4 (word.length + 1) c_4, .slice wa ws.length wc, .int .i64 dg, .bool false]) n0 wa wc ws.length (ws.map strV)) := HW.out.kept (Kept.setRow _ _ _) (HW.out.notBox HB.out (by decide))
   have HY : Hid (Own 5 1 (wk6.setRow g #[.int .i64 2, .slice a_4 (word.length + 1) c_4, .slice wa ws.length wc, .int .i64 dg, .bool false]) n0 a_4 c_4 (word.length + 1) (word.map u8V ++ [.int .u8 (16 * dg + hexI (bi c))])) := HY.out.kept (Kept.setRow _ _ _) (HY.out.notBox HB.out (by decide))
   have HK : Hid (Kept (Sg n0 g) w (wk6.setRow g #[.int .i64 2, .slice a_4 (word.length + 1) c_4, .slice wa ws.length wc, .int .i64 dg, .bool false])) := HK.out.inRow (S := Sg n0 g) (Or.inl rfl) _
   have HB : Hid (Box (wk6.setRow g #[.int .i64 2, .slice a_4 (word.length + 1) c_4, .slice wa ws.length wc, .int .i64 dg, .bool false]) g 46 #[.int .i64 2, .slice a_4 (word.length + 1) c_4, .slice wa ws.length wc, .int .i64 dg, .bool false]) := HB.out.setRow _
   refine wp_storeW 3 _ _ rfl ⟨g, 0, none⟩ (.int .i64 2) (by kernel_rfl) (by kernel_rfl) (wk6.setRow g #[.int .i64 2, .slice a_4 (word.length + 1) c_4, .slice wa ws.length wc, .int .i64 dg, .bool false]) hst (by kernel_rfl) ?_
   try simp only [pA, pB, p1, p2, p3]
   clear hst
   generalize wk6.setRow g #[.int .i64 2, .slice a_4 (word.length + 1) c_4, .slice wa ws.length wc, .int .i64 dg, .bool false] = wk7 at HW HY HK HB ⊢
   refine WL.nil ?_
   try simp only [pA, pB, p1, p2, p3]
   go_wp2
   go_end0
   rw [HC.out]
   exact ⟨rfl, by rw [HS.out]; exact RdA.of _ HB.out HW.out HY.out (Nat.le_trans HL.out HK.out.size) (by simp) (by simp [strV]) (by simp) (by simp) (by simp) (by have := HDg.out; have := HHx.out; simp [u8V_of (16 * dg + hexI (bi c)) (by omega) (by omega)]) (by simp), HK.out⟩
  ·skip
   clear hi
   have HW : Hid (Own 9 1 (wk2.alloc (.cells [.int .u8 (16 * dg + hexI (bi c))].toArray 5)) n0 wa wc ws.length (ws.map strV)) := HW.out.no ((Kept.refl No _).alloc _)
   have HY : Hid (Own 5 1 (wk2.alloc (.cells [.int .u8 (16 * dg + hexI (bi c))].toArray 5)) n0 ba bc word.length (word.map u8V)) := HY.out.no ((Kept.refl No _).alloc _)
   have HK : Hid (Kept (Sg n0 g) w (wk2.alloc (.cells [.int .u8 (16 * dg + hexI (bi c))].toArray 5))) := HK.out.alloc _
   have HB : Hid (Box (wk2.alloc (.cells [.int .u8 (16 * dg + hexI (bi c))].toArray 5)) g 46 #[.int .i64 5, .slice ba word.length bc, .slice wa ws.length wc, .int .i64 dg, .bool false]) := HB.out.alloc _
   have HX : Hid (Box (wk2.alloc (.cells [.int .u8 (16 * dg + hexI (bi c))].toArray 5)) wk2.heap.size 5 [.int .u8 (16 * dg + hexI (bi c))].toArray) := Box.new _ _ _
   refine step_run (i := 13) (o := { dst := some 151, op := Op.buildSlice 30 1 #[(0, Operand.tmp 150)], type := 30, pos := "words.go:113", after := #[{ on := 12, ground := Ground.data }], guard := none }) (v := .slice (some ⟨wk2.heap.size, 0, none⟩) 1 1) (w' := wk2.alloc (.cells [.int .u8 (16 * dg + hexI (bi c))].toArray 5)) rfl (by kernel_rfl) (exec_built (by kernel_rfl)) (HB.out.cell 3) (fun hH => ?_)
   try simp only [pA, pB, p1, p2, p3]
   generalize wk2.alloc (.cells [.int .u8 (16 * dg + hexI (bi c))].toArray 5) = wk8 at HW HY HK HX HB hH ⊢
   generalize wk2.heap.size = gk9 at HX ⊢
   refine any_step (i := 4) (o := { dst := some 142, op := Op.load 30 (Operand.tmp 141), type := 30, pos := "words.go:113", after := #[{ on := 3, ground := Ground.data }], guard := none }) (v := .slice ba word.length bc) (w' := wk8) rfl (by kernel_rfl) (by kernel_rfl) (exec_load 30 _ rfl ⟨g, 1, none⟩ (by kernel_rfl) (.slice ba word.length bc) (load_one (HB.out.cell 1) U30 rfl)) (HB.out.cell 3) (fun hH => ?_)
   try simp only [pA, pB, p1, p2, p3]
   obtain ⟨a_9, c_9, w_9, hrun, ho, hc⟩ := run_app 30 5 1 _ U30 I5 rfl HY.out 30 ⟨gk9, 0, none⟩ 1 1 [.int .u8 (16 * dg + hexI (bi c))] rfl (box_news HX.out) (by simp [Value.oneCell', strV, u8V]) (by have h2 := HBd.out; have h3 := HWd.out; omega) (by have h2 := HBd.out; have h3 := HWd.out; omega) (Nat.le_trans HL.out HK.out.size)
   clear HX
   have HW : Hid (Own 9 1 w_9 n0 wa wc ws.length (ws.map strV)) := HW.out.kept hc (own_apart HW.out HY.out (by decide))
   have HK : Hid (Kept (Sg n0 g) w w_9) := HK.out.trans hc (fun _ e => e) (fun _ _ e => Or.inr (HY.out.base e))
   have HB : Hid (Box w_9 g 46 #[.int .i64 5, .slice ba word.length bc, .slice wa ws.length wc, .int .i64 dg, .bool false]) := HB.out.kept hc (HY.out.offBox HB.out (by decide))
   have HY : Hid (Own 5 1 w_9 n0 a_9 c_9 (word.length + 1) (word.map u8V ++ [.int .u8 (16 * dg + hexI (bi c))])) := ho
   refine any_step (i := 14) (o := { dst := some 152, op := Op.call { callee := Callee.builtin Builtin.append, args := #[Operand.tmp 142, Operand.tmp 151], argTypes := #[30, 30] }, type := 30, pos := "words.go:113", after := #[{ on := 4, ground := Ground.data }, { on := 13, ground := Ground.data }], guard := none }) (v := .slice a_9 (word.length + 1) c_9) (w' := w_9) rfl (by kernel_rfl) (by kernel_rfl) (exec_app _ _ 30 30 rfl _ _ _ (by kernel_rfl) (by kernel_rfl) hrun) (HB.out.cell 3) (fun hH => ?_)
   try simp only [pA, pB, p1, p2, p3]
   clear hrun ho hc
   refine aT (i := 15) (oi := { dst := some 153, op := Op.nilCheck (Operand.tmp 138), type := 0, pos := "words.go:113", after := #[{ on := 0, ground := Ground.data }, { on := 0, ground := Ground.phase }, { on := 1, ground := Ground.phase }, { on := 2, ground := Ground.phase }, { on := 3, ground := Ground.phase }, { on := 4, ground := Ground.phase }, { on := 5, ground := Ground.phase }, { on := 6, ground := Ground.phase }, { on := 7, ground := Ground.phase }, { on := 8, ground := Ground.phase }, { on := 9, ground := Ground.phase }, { on := 10, ground := Ground.phase }, { on := 11, ground := Ground.phase }, { on := 12, ground := Ground.phase }, { on := 13, ground := Ground.phase }, { on := 14, ground := Ground.phase }], guard := none }) (v := .pointer (some ⟨g, 0, none⟩)) (fun _ _ => by kernel_rfl) hH ?_
   try simp only [pA, pB, p1, p2, p3]
   refine aT (i := 16) (oi := { dst := some 154, op := Op.fieldAddr 46 (Operand.tmp 153) 1, type := 0, pos := "words.go:113", after := #[{ on := 15, ground := Ground.data }, { on := 0, ground := Ground.phase }, { on := 1, ground := Ground.phase }, { on := 2, ground := Ground.phase }, { on := 3, ground := Ground.phase }, { on := 4, ground := Ground.phase }, { on := 5, ground := Ground.phase }, { on := 6, ground := Ground.phase }, { on := 7, ground := Ground.phase }, { on := 8, ground := Ground.phase }, { on := 9, ground := Ground.phase }, { on := 10, ground := Ground.phase }, { on := 11, ground := Ground.phase }, { on := 12, ground := Ground.phase }, { on := 13, ground := Ground.phase }, { on := 14, ground := Ground.phase }], guard := none }) (v := .pointer (some ⟨g, 1, none⟩)) (fun _ _ => by kernel_rfl) hH ?_
   try simp only [pA, pB, p1, p2, p3]
   have hst : (storeVar 30 ⟨g, 1, none⟩ (.slice a_9 (word.length + 1) c_9)).run Try.prog w_9 = .ok () (w_9.setRow g #[.int .i64 5, .slice a_9 (word.length + 1) c_9, .slice wa ws.length wc, .int .i64 dg, .bool false]) := run_store_to (cur := [.int .i64 5, .slice ba word.length bc, .slice wa ws.length wc, .int .i64 dg, .bool false]) (vs := [.slice a_9 (word.length + 1) c_9]) (new := [.int .i64 5, .slice a_9 (word.length + 1) c_9, .slice wa ws.length wc, .int .i64 dg, .bool false]) HB.out (by kernel_rfl) S30 (Nat.le_of_ble_eq_true (by kernel_rfl)) (by simp [Value.oneCell', strV, u8V]) (by kernel_rfl)
   have HW : Hid (Own 9 1 (w_9.setRow g #[.int .i64 5, .slice a_9 (word.length + 1) c_9, .slice wa ws.length wc, .int .i64 dg, .bool false]) n0 wa wc ws.length (ws.map strV)) := HW.out.kept (Kept.setRow _ _ _) (HW.out.notBox HB.out (by decide))
   have HY : Hid (Own 5 1 (w_9.setRow g #[.int .i64 5, .slice a_9 (word.length + 1) c_9, .slice wa ws.length wc, .int .i64 dg, .bool false]) n0 a_9 c_9 (word.length + 1) (word.map u8V ++ [.int .u8 (16 * dg + hexI (bi c))])) := HY.out.kept (Kept.setRow _ _ _) (HY.out.notBox HB.out (by decide))
   have HK : Hid (Kept (Sg n0 g) w (w_9.setRow g #[.int .i64 5, .slice a_9 (word.length + 1) c_9, .slice wa ws.length wc, .int .i64 dg, .bool false])) := HK.out.inRow (S := Sg n0 g) (Or.inl rfl) _
   have HB : Hid (Box (w_9.setRow g #[.int .i64 5, .slice a_9 (word.length + 1) c_9, .slice wa ws.length wc, .int .i64 dg, .bool false]) g 46 #[.int .i64 5, .slice a_9 (word.length + 1) c_9, .slice wa ws.length wc, .int .i64 dg, .bool false]) := HB.out.setRow _
   refine any_store (i := 17) (o := { dst := none, op := Op.store 30 (Operand.tmp 154) (Operand.tmp 152), type := 0, pos := "words.go:113", after := #[{ on := 16, ground := Ground.data }, { on := 14, ground := Ground.data }, { on := 14, ground := Ground.chain }, { on := 0, ground := Ground.phase }, { on := 1, ground := Ground.phase }, { on := 2, ground := Ground.phase }, { on := 3, ground := Ground.phase }, { on := 4, ground := Ground.phase }, { on := 5, ground := Ground.phase }, { on := 6, ground := Ground.phase }, { on := 7, ground := Ground.phase }, { on := 8, ground := Ground.phase }, { on := 9, ground := Ground.phase }, { on := 10, ground := Ground.phase }, { on := 11, ground := Ground.phase }, { on := 12, ground := Ground.phase }, { on := 13, ground := Ground.phase }, { on := 14, ground := Ground.phase }], guard := none }) (w' := w_9.setRow g #[.int .i64 5, .slice a_9 (word.length + 1) c_9, .slice wa ws.length wc, .int .i64 dg, .bool false]) rfl (by kernel_rfl) (by kernel_rfl) 30 _ _ rfl ⟨g, 1, none⟩ (.slice a_9 (word.length + 1) c_9) (by kernel_rfl) (by kernel_rfl) hst (HB.out.cell 3) (fun hH => ?_)
   try simp only [pA, pB, p1, p2, p3]
   clear hst
   generalize w_9.setRow g #[.int .i64 5, .slice a_9 (word.length + 1) c_9, .slice wa ws.length wc, .int .i64 dg, .bool false] = wk11 at HW HY HK HB hH ⊢
   refine wpAnyH_done (by kernel_rfl) ?_ _
   try simp only [pA, pB, p1, p2, p3]
   clear hH
   go_upto_region 34 with fail
   refine WL.start ?_
   refine tK (.pointer (some ⟨g, 0, none⟩)) ?_
   try simp only [pA, pB, p1, p2, p3]
   refine tK (.pointer (some ⟨g, 0, none⟩)) ?_
   try simp only [pA, pB, p1, p2, p3]
   refine tK (.pointer (some ⟨g, 0, none⟩)) ?_
   try simp only [pA, pB, p1, p2, p3]
   have hst : (storeVar 3 ⟨g, 0, none⟩ (.int .i64 2)).run Try.prog wk11 = .ok () (wk11.setRow g #[.int .i64 2, .slice a_9 (word.length + 1) c_9, .slice wa ws.length wc, .int .i64 dg, .bool false]) := run_store_to (cur := [.int .i64 5, .slice a_9 (word.length + 1) c_9, .slice wa ws.length wc, .int .i64 dg, .bool false]) (vs := [.int .i64 2]) (new := [.int .i64 2, .slice a_9 (word.length + 1) c_9, .slice wa ws.length wc, .int .i64 dg, .bool false]) HB.out (by kernel_rfl) S3 (Nat.le_of_ble_eq_true (by kernel_rfl)) (by simp [Value.oneCell', strV, u8V]) (by kernel_rfl)
   have HW : Hid (Own 9 1 (wk11.setRow g #[.int .i64 2, .slice a_9 (word.length + 1) c_9, .slice wa ws.length wc, .int .i64 dg, .bool false]) n0 wa wc ws.length (ws.map strV)) := HW.out.kept (Kept.setRow _ _ _) (HW.out.notBox HB.out (by decide))
   have HY : Hid (Own 5 1 (wk11.setRow g #[.int .i64 2, .slice a_9 (word.length + 1) c_9, .slice wa ws.length wc, .int .i64 dg, .bool false]) n0 a_9 c_9 (word.length + 1) (word.map u8V ++ [.int .u8 (16 * dg + hexI (bi c))])) := HY.out.kept (Kept.setRow _ _ _) (HY.out.notBox HB.out (by decide))
   have HK : Hid (Kept (Sg n0 g) w (wk11.setRow g #[.int .i64 2, .slice a_9 (word.length + 1) c_9, .slice wa ws.length wc, .int .i64 dg, .bool false])) := HK.out.inRow (S := Sg n0 g) (Or.inl rfl) _
   have HB : Hid (Box (wk11.setRow g #[.int .i64 2, .slice a_9 (word.length + 1) c_9, .slice wa ws.length wc, .int .i64 dg, .bool false]) g 46 #[.int .i64 2, .slice a_9 (word.length + 1) c_9, .slice wa ws.length wc, .int .i64 dg, .bool false]) := HB.out.setRow _
   refine wp_storeW 3 _ _ rfl ⟨g, 0, none⟩ (.int .i64 2) (by kernel_rfl) (by kernel_rfl) (wk11.setRow g #[.int .i64 2, .slice a_9 (word.length + 1) c_9, .slice wa ws.length wc, .int .i64 dg, .bool false]) hst (by kernel_rfl) ?_
   try simp only [pA, pB, p1, p2, p3]
   clear hst
   generalize wk11.setRow g #[.int .i64 2, .slice a_9 (word.length + 1) c_9, .slice wa ws.length wc, .int .i64 dg, .bool false] = wk12 at HW HY HK HB ⊢
   refine WL.nil ?_
   try simp only [pA, pB, p1, p2, p3]
   go_wp2
   go_end0
   rw [HC.out]
   exact ⟨rfl, by rw [HS.out]; exact RdA.of _ HB.out HW.out HY.out (Nat.le_trans HL.out HK.out.size) (by simp) (by simp [strV]) (by simp) (by simp) (by simp) (by have := HDg.out; have := HHx.out; simp [u8V_of (16 * dg + hexI (bi c)) (by omega) (by omega)]) (by simp), HK.out⟩
set_option maxRecDepth 100000 in
set_option maxHeartbeats 4000000 in
theorem nx_6s (n0 g : Nat) (word : List UInt8) (ws : List (List UInt8)) (dg : Int) (c : UInt8) (w : World) (hcut : RdA n0 w g ⟨6, word, ws, dg, false⟩) (hws : ws.length ≤ 1000000000000) (hbt : word.length ≤ 1000000000000) (h32 : bi c = 32)  : Calls Try.prog 20 #[.pointer (some ⟨g, 0, none⟩), .int .u8 (bi c)] w (PostR n0 g (nextS ⟨6, word, ws, dg, false⟩ c) w) := by
  obtain ⟨C, hC⟩ : ∃ C : Ending → World → Prop, C = (PostR n0 g (nextS ⟨6, word, ws, dg, false⟩ c) w) := ⟨_, rfl⟩
  have HC : Hid (C = (PostR n0 g (nextS ⟨6, word, ws, dg, false⟩ c) w)) := hC
  rw [← hC]
  clear hC
  have e32 : (bi c == 32) = true := by simp [h32]
  have hbl : isB (bi c) = true := by unfold isB; simp [e32]
  have HS : Hid (nextS ⟨6, word, ws, dg, false⟩ c = ⟨0, word, ws, dg, false⟩) := by show _ = _; unfold nextS; simp [h32, hbl, isB32, isB9, isB34, isB35]
  clear h32
  clear hbl
  obtain ⟨wa, wc, ba, bc, hC0⟩ := hcut
  have HB : Hid (Box w g 46 #[.int .i64 6, .slice ba word.length bc, .slice wa ws.length wc, .int .i64 dg, .bool false]) := hC0.box
  have HW : Hid (Own 9 1 w n0 wa wc ws.length (ws.map strV)) := hC0.hw
  have HY : Hid (Own 5 1 w n0 ba bc word.length (word.map u8V)) := hC0.hb
  have HL : Hid (n0 ≤ w.heap.size) := hC0.hn
  have HWd : Hid (ws.length ≤ 1000000000000) := hws
  have HBd : Hid (word.length ≤ 1000000000000) := hbt
  have HK : Hid (Kept (Sg n0 g) w w) := Kept.refl _ _
  clear hC0 hws hbt
  go_enter Try.func20, Try.ntmps20
  go_upto_region 0 with fail
  refine WL.start ?_
  refine tK (.int .u8 (bi c)) ?_
  try simp only [pA, pB, p1, p2, p3]
  refine tW (.bool true) (exec_bin .eql 5 _ _ _ rfl (.int .u8 (bi c)) (.int .u8 32) (.bool true) (by kernel_rfl) (by kernel_rfl) (by kernel_rfl) (by rw [b_eq5, e32])) ?_
  try simp only [pA, pB, p1, p2, p3]
  refine tK (.bool true) ?_
  try simp only [pA, pB, p1, p2, p3]
  refine sK ?_
  try simp only [pA, pB, p1, p2, p3]
  refine sK ?_
  try simp only [pA, pB, p1, p2, p3]
  refine tK (.bool true) ?_
  try simp only [pA, pB, p1, p2, p3]
  refine tK (.bool true) ?_
  try simp only [pA, pB, p1, p2, p3]
  refine WL.nil ?_
  try simp only [pA, pB, p1, p2, p3]
  go_upto_region 1 with fail
  refine WL.start ?_
  refine tK (.pointer (some ⟨g, 0, none⟩)) ?_
  try simp only [pA, pB, p1, p2, p3]
  refine tK (.pointer (some ⟨g, 0, none⟩)) ?_
  try simp only [pA, pB, p1, p2, p3]
  refine tK (.pointer (some ⟨g, 0, none⟩)) ?_
  try simp only [pA, pB, p1, p2, p3]
  refine tW (.int .i64 6) (exec_load 3 _ rfl ⟨g, 0, none⟩ (by kernel_rfl) (.int .i64 6) (load_one (HB.out.cell 0) U3 rfl)) ?_
  try simp only [pA, pB, p1, p2, p3]
  refine WL.nil ?_
  try simp only [pA, pB, p1, p2, p3]
  go_upto_region 2 with fail
  refine WL.start ?_
  refine tK (.bool false) ?_
  try simp only [pA, pB, p1, p2, p3]
  refine tK (.bool false) ?_
  try simp only [pA, pB, p1, p2, p3]
  refine WL.nil ?_
  try simp only [pA, pB, p1, p2, p3]
  go_upto_region 10 with fail
  refine WL.start ?_
  refine tK (.bool false) ?_
  try simp only [pA, pB, p1, p2, p3]
  refine tK (.bool false) ?_
  try simp only [pA, pB, p1, p2, p3]
  refine WL.nil ?_
  try simp only [pA, pB, p1, p2, p3]
  go_upto_region 16 with fail
  refine WL.start ?_
  refine tK (.bool false) ?_
  try simp only [pA, pB, p1, p2, p3]
  refine tK (.bool false) ?_
  try simp only [pA, pB, p1, p2, p3]
  refine WL.nil ?_
  try simp only [pA, pB, p1, p2, p3]
  go_upto_region 23 with fail
  refine WL.start ?_
  refine tK (.bool false) ?_
  try simp only [pA, pB, p1, p2, p3]
  refine tK (.bool false) ?_
  try simp only [pA, pB, p1, p2, p3]
  refine WL.nil ?_
  try simp only [pA, pB, p1, p2, p3]
  go_upto_region 25 with fail
  refine WL.start ?_
  refine tK (.bool false) ?_
  try simp only [pA, pB, p1, p2, p3]
  refine tK (.bool false) ?_
  try simp only [pA, pB, p1, p2, p3]
  refine WL.nil ?_
  try simp only [pA, pB, p1, p2, p3]
  go_upto_region 29 with fail
  refine WL.start ?_
  refine tK (.bool false) ?_
  try simp only [pA, pB, p1, p2, p3]
  refine tK (.bool false) ?_
  try simp only [pA, pB, p1, p2, p3]
  refine WL.nil ?_
  try simp only [pA, pB, p1, p2, p3]
  go_upto_region 35 with fail
  refine WL.start ?_
  refine tK (.bool true) ?_
  try simp only [pA, pB, p1, p2, p3]
  refine tK (.bool true) ?_
  try simp only [pA, pB, p1, p2, p3]
  refine WL.nil ?_
  try simp only [pA, pB, p1, p2, p3]
  go_upto_region 36 with fail
  refine WL.start ?_
  refine tK (.pointer (some ⟨g, 0, none⟩)) ?_
  try simp only [pA, pB, p1, p2, p3]
  refine tK (.pointer (some ⟨g, 0, none⟩)) ?_
  try simp only [pA, pB, p1, p2, p3]
  refine tK (.pointer (some ⟨g, 0, none⟩)) ?_
  try simp only [pA, pB, p1, p2, p3]
  refine tK (.pointer (some ⟨g, 4, none⟩)) ?_
  try simp only [pA, pB, p1, p2, p3]
  refine tW (.bool false) (exec_load 4 _ rfl ⟨g, 4, none⟩ (by kernel_rfl) (.bool false) (load_one (HB.out.cell 4) U4 rfl)) ?_
  try simp only [pA, pB, p1, p2, p3]
  refine tK (.bool false) ?_
  try simp only [pA, pB, p1, p2, p3]
  refine tK (.bool true) ?_
  try simp only [pA, pB, p1, p2, p3]
  refine tK (.bool false) ?_
  try simp only [pA, pB, p1, p2, p3]
  refine tK (.bool false) ?_
  try simp only [pA, pB, p1, p2, p3]
  refine tK (.pointer (some ⟨g, 0, none⟩)) ?_
  try simp only [pA, pB, p1, p2, p3]
  refine tK (.pointer (some ⟨g, 4, none⟩)) ?_
  try simp only [pA, pB, p1, p2, p3]
  have hst : (storeVar 4 ⟨g, 4, none⟩ (.bool false)).run Try.prog w = .ok () (w.setRow g #[.int .i64 6, .slice ba word.length bc, .slice wa ws.length wc, .int .i64 dg, .bool false]) := run_store_to (cur := [.int .i64 6, .slice ba word.length bc, .slice wa ws.length wc, .int .i64 dg, .bool false]) (vs := [.bool false]) (new := [.int .i64 6, .slice ba word.length bc, .slice wa ws.length wc, .int .i64 dg, .bool false]) HB.out (by kernel_rfl) S4 (Nat.le_of_ble_eq_true (by kernel_rfl)) (by simp [Value.oneCell', strV, u8V]) (by kernel_rfl)
  have HW : Hid (Own 9 1 (w.setRow g #[.int .i64 6, .slice ba word.length bc, .slice wa ws.length wc, .int .i64 dg, .bool false]) n0 wa wc ws.length (ws.map strV)) := HW.out.kept (Kept.setRow _ _ _) (HW.out.notBox HB.out (by decide))
  have HY : Hid (Own 5 1 (w.setRow g #[.int .i64 6, .slice ba word.length bc, .slice wa ws.length wc, .int .i64 dg, .bool false]) n0 ba bc word.length (word.map u8V)) := HY.out.kept (Kept.setRow _ _ _) (HY.out.notBox HB.out (by decide))
  have HK : Hid (Kept (Sg n0 g) w (w.setRow g #[.int .i64 6, .slice ba word.length bc, .slice wa ws.length wc, .int .i64 dg, .bool false])) := HK.out.inRow (S := Sg n0 g) (Or.inl rfl) _
  have HB : Hid (Box (w.setRow g #[.int .i64 6, .slice ba word.length bc, .slice wa ws.length wc, .int .i64 dg, .bool false]) g 46 #[.int .i64 6, .slice ba word.length bc, .slice wa ws.length wc, .int .i64 dg, .bool false]) := HB.out.setRow _
  refine wp_storeW 4 _ _ rfl ⟨g, 4, none⟩ (.bool false) (by kernel_rfl) (by kernel_rfl) (w.setRow g #[.int .i64 6, .slice ba word.length bc, .slice wa ws.length wc, .int .i64 dg, .bool false]) hst (by kernel_rfl) ?_
  try simp only [pA, pB, p1, p2, p3]
  clear hst
  generalize w.setRow g #[.int .i64 6, .slice ba word.length bc, .slice wa ws.length wc, .int .i64 dg, .bool false] = wk1 at HW HY HK HB ⊢
  refine WL.nil ?_
  try simp only [pA, pB, p1, p2, p3]
  go_upto_region 37 with fail
  refine WL.start ?_
  refine tK (.pointer (some ⟨g, 0, none⟩)) ?_
  try simp only [pA, pB, p1, p2, p3]
  refine tK (.pointer (some ⟨g, 0, none⟩)) ?_
  try simp only [pA, pB, p1, p2, p3]
  refine tK (.pointer (some ⟨g, 0, none⟩)) ?_
  try simp only [pA, pB, p1, p2, p3]
  have hst : (storeVar 3 ⟨g, 0, none⟩ (.int .i64 0)).run Try.prog wk1 = .ok () (wk1.setRow g #[.int .i64 0, .slice ba word.length bc, .slice wa ws.length wc, .int .i64 dg, .bool false]) := run_store_to (cur := [.int .i64 6, .slice ba word.length bc, .slice wa ws.length wc, .int .i64 dg, .bool false]) (vs := [.int .i64 0]) (new := [.int .i64 0, .slice ba word.length bc, .slice wa ws.length wc, .int .i64 dg, .bool false]) HB.out (by kernel_rfl) S3 (Nat.le_of_ble_eq_true (by kernel_rfl)) (by simp [Value.oneCell', strV, u8V]) (by kernel_rfl)
  have HW : Hid (Own 9 1 (wk1.setRow g #[.int .i64 0, .slice ba word.length bc, .slice wa ws.length wc, .int .i64 dg, .bool false]) n0 wa wc ws.length (ws.map strV)) := HW.out.kept (Kept.setRow _ _ _) (HW.out.notBox HB.out (by decide))
  have HY : Hid (Own 5 1 (wk1.setRow g #[.int .i64 0, .slice ba word.length bc, .slice wa ws.length wc, .int .i64 dg, .bool false]) n0 ba bc word.length (word.map u8V)) := HY.out.kept (Kept.setRow _ _ _) (HY.out.notBox HB.out (by decide))
  have HK : Hid (Kept (Sg n0 g) w (wk1.setRow g #[.int .i64 0, .slice ba word.length bc, .slice wa ws.length wc, .int .i64 dg, .bool false])) := HK.out.inRow (S := Sg n0 g) (Or.inl rfl) _
  have HB : Hid (Box (wk1.setRow g #[.int .i64 0, .slice ba word.length bc, .slice wa ws.length wc, .int .i64 dg, .bool false]) g 46 #[.int .i64 0, .slice ba word.length bc, .slice wa ws.length wc, .int .i64 dg, .bool false]) := HB.out.setRow _
  refine wp_storeW 3 _ _ rfl ⟨g, 0, none⟩ (.int .i64 0) (by kernel_rfl) (by kernel_rfl) (wk1.setRow g #[.int .i64 0, .slice ba word.length bc, .slice wa ws.length wc, .int .i64 dg, .bool false]) hst (by kernel_rfl) ?_
  try simp only [pA, pB, p1, p2, p3]
  clear hst
  generalize wk1.setRow g #[.int .i64 0, .slice ba word.length bc, .slice wa ws.length wc, .int .i64 dg, .bool false] = wk2 at HW HY HK HB ⊢
  refine WL.nil ?_
  try simp only [pA, pB, p1, p2, p3]
  go_wp2
  go_end0
  rw [HC.out]
  exact ⟨rfl, by rw [HS.out]; exact RdA.of _ HB.out HW.out HY.out (Nat.le_trans HL.out HK.out.size) (by simp) (by simp [strV]) (by simp) (by simp) (by simp) (by simp [u8V, bi]) (by simp), HK.out⟩
set_option maxRecDepth 100000 in
set_option maxHeartbeats 4000000 in
theorem nx_6t (n0 g : Nat) (word : List UInt8) (ws : List (List UInt8)) (dg : Int) (c : UInt8) (w : World) (hcut : RdA n0 w g ⟨6, word, ws, dg, false⟩) (hws : ws.length ≤ 1000000000000) (hbt : word.length ≤ 1000000000000) (h32 : bi c ≠ 32) (h9 : bi c = 9)  : Calls Try.prog 20 #[.pointer (some ⟨g, 0, none⟩), .int .u8 (bi c)] w (PostR n0 g (nextS ⟨6, word, ws, dg, false⟩ c) w) := by
  obtain ⟨C, hC⟩ : ∃ C : Ending → World → Prop, C = (PostR n0 g (nextS ⟨6, word, ws, dg, false⟩ c) w) := ⟨_, rfl⟩
  have HC : Hid (C = (PostR n0 g (nextS ⟨6, word, ws, dg, false⟩ c) w)) := hC
  rw [← hC]
  clear hC
  have e32 : (bi c == 32) = false := by simp [h32]
  have e9 : (bi c == 9) = true := by simp [h9]
  have hbl : isB (bi c) = true := by unfold isB; simp [e32, e9]
  have HS : Hid (nextS ⟨6, word, ws, dg, false⟩ c = ⟨0, word, ws, dg, false⟩) := by show _ = _; unfold nextS; simp [h32, h9, hbl, isB32, isB9, isB34, isB35]
  clear h32 h9
  clear hbl
  obtain ⟨wa, wc, ba, bc, hC0⟩ := hcut
  have HB : Hid (Box w g 46 #[.int .i64 6, .slice ba word.length bc, .slice wa ws.length wc, .int .i64 dg, .bool false]) := hC0.box
  have HW : Hid (Own 9 1 w n0 wa wc ws.length (ws.map strV)) := hC0.hw
  have HY : Hid (Own 5 1 w n0 ba bc word.length (word.map u8V)) := hC0.hb
  have HL : Hid (n0 ≤ w.heap.size) := hC0.hn
  have HWd : Hid (ws.length ≤ 1000000000000) := hws
  have HBd : Hid (word.length ≤ 1000000000000) := hbt
  have HK : Hid (Kept (Sg n0 g) w w) := Kept.refl _ _
  clear hC0 hws hbt
  go_enter Try.func20, Try.ntmps20
  go_upto_region 0 with fail
  refine WL.start ?_
  refine tK (.int .u8 (bi c)) ?_
  try simp only [pA, pB, p1, p2, p3]
  refine tW (.bool false) (exec_bin .eql 5 _ _ _ rfl (.int .u8 (bi c)) (.int .u8 32) (.bool false) (by kernel_rfl) (by kernel_rfl) (by kernel_rfl) (by rw [b_eq5, e32])) ?_
  try simp only [pA, pB, p1, p2, p3]
  refine tK (.bool false) ?_
  try simp only [pA, pB, p1, p2, p3]
  refine tK (.int .u8 (bi c)) ?_
  try simp only [pA, pB, p1, p2, p3]
  refine tW (.bool true) (exec_bin .eql 5 _ _ _ rfl (.int .u8 (bi c)) (.int .u8 9) (.bool true) (by kernel_rfl) (by kernel_rfl) (by kernel_rfl) (by rw [b_eq5, e9])) ?_
  try simp only [pA, pB, p1, p2, p3]
  refine tK (.bool true) ?_
  try simp only [pA, pB, p1, p2, p3]
  refine tK (.bool true) ?_
  try simp only [pA, pB, p1, p2, p3]
  refine WL.nil ?_
  try simp only [pA, pB, p1, p2, p3]
  go_upto_region 1 with fail
  refine WL.start ?_
  refine tK (.pointer (some ⟨g, 0, none⟩)) ?_
  try simp only [pA, pB, p1, p2, p3]
  refine tK (.pointer (some ⟨g, 0, none⟩)) ?_
  try simp only [pA, pB, p1, p2, p3]
  refine tK (.pointer (some ⟨g, 0, none⟩)) ?_
  try simp only [pA, pB, p1, p2, p3]
  refine tW (.int .i64 6) (exec_load 3 _ rfl ⟨g, 0, none⟩ (by kernel_rfl) (.int .i64 6) (load_one (HB.out.cell 0) U3 rfl)) ?_
  try simp only [pA, pB, p1, p2, p3]
  refine WL.nil ?_
  try simp only [pA, pB, p1, p2, p3]
  go_upto_region 2 with fail
  refine WL.start ?_
  refine tK (.bool false) ?_
  try simp only [pA, pB, p1, p2, p3]
  refine tK (.bool false) ?_
  try simp only [pA, pB, p1, p2, p3]
  refine WL.nil ?_
  try simp only [pA, pB, p1, p2, p3]
  go_upto_region 10 with fail
  refine WL.start ?_
  refine tK (.bool false) ?_
  try simp only [pA, pB, p1, p2, p3]
  refine tK (.bool false) ?_
  try simp only [pA, pB, p1, p2, p3]
  refine WL.nil ?_
  try simp only [pA, pB, p1, p2, p3]
  go_upto_region 16 with fail
  refine WL.start ?_
  refine tK (.bool false) ?_
  try simp only [pA, pB, p1, p2, p3]
  refine tK (.bool false) ?_
  try simp only [pA, pB, p1, p2, p3]
  refine WL.nil ?_
  try simp only [pA, pB, p1, p2, p3]
  go_upto_region 23 with fail
  refine WL.start ?_
  refine tK (.bool false) ?_
  try simp only [pA, pB, p1, p2, p3]
  refine tK (.bool false) ?_
  try simp only [pA, pB, p1, p2, p3]
  refine WL.nil ?_
  try simp only [pA, pB, p1, p2, p3]
  go_upto_region 25 with fail
  refine WL.start ?_
  refine tK (.bool false) ?_
  try simp only [pA, pB, p1, p2, p3]
  refine tK (.bool false) ?_
  try simp only [pA, pB, p1, p2, p3]
  refine WL.nil ?_
  try simp only [pA, pB, p1, p2, p3]
  go_upto_region 29 with fail
  refine WL.start ?_
  refine tK (.bool false) ?_
  try simp only [pA, pB, p1, p2, p3]
  refine tK (.bool false) ?_
  try simp only [pA, pB, p1, p2, p3]
  refine WL.nil ?_
  try simp only [pA, pB, p1, p2, p3]
  go_upto_region 35 with fail
  refine WL.start ?_
  refine tK (.bool true) ?_
  try simp only [pA, pB, p1, p2, p3]
  refine tK (.bool true) ?_
  try simp only [pA, pB, p1, p2, p3]
  refine WL.nil ?_
  try simp only [pA, pB, p1, p2, p3]
  go_upto_region 36 with fail
  refine WL.start ?_
  refine tK (.pointer (some ⟨g, 0, none⟩)) ?_
  try simp only [pA, pB, p1, p2, p3]
  refine tK (.pointer (some ⟨g, 0, none⟩)) ?_
  try simp only [pA, pB, p1, p2, p3]
  refine tK (.pointer (some ⟨g, 0, none⟩)) ?_
  try simp only [pA, pB, p1, p2, p3]
  refine tK (.pointer (some ⟨g, 4, none⟩)) ?_
  try simp only [pA, pB, p1, p2, p3]
  refine tW (.bool false) (exec_load 4 _ rfl ⟨g, 4, none⟩ (by kernel_rfl) (.bool false) (load_one (HB.out.cell 4) U4 rfl)) ?_
  try simp only [pA, pB, p1, p2, p3]
  refine tK (.bool false) ?_
  try simp only [pA, pB, p1, p2, p3]
  refine tK (.bool true) ?_
  try simp only [pA, pB, p1, p2, p3]
  refine tK (.bool false) ?_
  try simp only [pA, pB, p1, p2, p3]
  refine tK (.bool false) ?_
  try simp only [pA, pB, p1, p2, p3]
  refine tK (.pointer (some ⟨g, 0, none⟩)) ?_
  try simp only [pA, pB, p1, p2, p3]
  refine tK (.pointer (some ⟨g, 4, none⟩)) ?_
  try simp only [pA, pB, p1, p2, p3]
  have hst : (storeVar 4 ⟨g, 4, none⟩ (.bool false)).run Try.prog w = .ok () (w.setRow g #[.int .i64 6, .slice ba word.length bc, .slice wa ws.length wc, .int .i64 dg, .bool false]) := run_store_to (cur := [.int .i64 6, .slice ba word.length bc, .slice wa ws.length wc, .int .i64 dg, .bool false]) (vs := [.bool false]) (new := [.int .i64 6, .slice ba word.length bc, .slice wa ws.length wc, .int .i64 dg, .bool false]) HB.out (by kernel_rfl) S4 (Nat.le_of_ble_eq_true (by kernel_rfl)) (by simp [Value.oneCell', strV, u8V]) (by kernel_rfl)
  have HW : Hid (Own 9 1 (w.setRow g #[.int .i64 6, .slice ba word.length bc, .slice wa ws.length wc, .int .i64 dg, .bool false]) n0 wa wc ws.length (ws.map strV)) := HW.out.kept (Kept.setRow _ _ _) (HW.out.notBox HB.out (by decide))
  have HY : Hid (Own 5 1 (w.setRow g #[.int .i64 6, .slice ba word.length bc, .slice wa ws.length wc, .int .i64 dg, .bool false]) n0 ba bc word.length (word.map u8V)) := HY.out.kept (Kept.setRow _ _ _) (HY.out.notBox HB.out (by decide))
  have HK : Hid (Kept (Sg n0 g) w (w.setRow g #[.int .i64 6, .slice ba word.length bc, .slice wa ws.length wc, .int .i64 dg, .bool false])) := HK.out.inRow (S := Sg n0 g) (Or.inl rfl) _
  have HB : Hid (Box (w.setRow g #[.int .i64 6, .slice ba word.length bc, .slice wa ws.length wc, .int .i64 dg, .bool false]) g 46 #[.int .i64 6, .slice ba word.length bc, .slice wa ws.length wc, .int .i64 dg, .bool false]) := HB.out.setRow _
  refine wp_storeW 4 _ _ rfl ⟨g, 4, none⟩ (.bool false) (by kernel_rfl) (by kernel_rfl) (w.setRow g #[.int .i64 6, .slice ba word.length bc, .slice wa ws.length wc, .int .i64 dg, .bool false]) hst (by kernel_rfl) ?_
  try simp only [pA, pB, p1, p2, p3]
  clear hst
  generalize w.setRow g #[.int .i64 6, .slice ba word.length bc, .slice wa ws.length wc, .int .i64 dg, .bool false] = wk1 at HW HY HK HB ⊢
  refine WL.nil ?_
  try simp only [pA, pB, p1, p2, p3]
  go_upto_region 37 with fail
  refine WL.start ?_
  refine tK (.pointer (some ⟨g, 0, none⟩)) ?_
  try simp only [pA, pB, p1, p2, p3]
  refine tK (.pointer (some ⟨g, 0, none⟩)) ?_
  try simp only [pA, pB, p1, p2, p3]
  refine tK (.pointer (some ⟨g, 0, none⟩)) ?_
  try simp only [pA, pB, p1, p2, p3]
  have hst : (storeVar 3 ⟨g, 0, none⟩ (.int .i64 0)).run Try.prog wk1 = .ok () (wk1.setRow g #[.int .i64 0, .slice ba word.length bc, .slice wa ws.length wc, .int .i64 dg, .bool false]) := run_store_to (cur := [.int .i64 6, .slice ba word.length bc, .slice wa ws.length wc, .int .i64 dg, .bool false]) (vs := [.int .i64 0]) (new := [.int .i64 0, .slice ba word.length bc, .slice wa ws.length wc, .int .i64 dg, .bool false]) HB.out (by kernel_rfl) S3 (Nat.le_of_ble_eq_true (by kernel_rfl)) (by simp [Value.oneCell', strV, u8V]) (by kernel_rfl)
  have HW : Hid (Own 9 1 (wk1.setRow g #[.int .i64 0, .slice ba word.length bc, .slice wa ws.length wc, .int .i64 dg, .bool false]) n0 wa wc ws.length (ws.map strV)) := HW.out.kept (Kept.setRow _ _ _) (HW.out.notBox HB.out (by decide))
  have HY : Hid (Own 5 1 (wk1.setRow g #[.int .i64 0, .slice ba word.length bc, .slice wa ws.length wc, .int .i64 dg, .bool false]) n0 ba bc word.length (word.map u8V)) := HY.out.kept (Kept.setRow _ _ _) (HY.out.notBox HB.out (by decide))
  have HK : Hid (Kept (Sg n0 g) w (wk1.setRow g #[.int .i64 0, .slice ba word.length bc, .slice wa ws.length wc, .int .i64 dg, .bool false])) := HK.out.inRow (S := Sg n0 g) (Or.inl rfl) _
  have HB : Hid (Box (wk1.setRow g #[.int .i64 0, .slice ba word.length bc, .slice wa ws.length wc, .int .i64 dg, .bool false]) g 46 #[.int .i64 0, .slice ba word.length bc, .slice wa ws.length wc, .int .i64 dg, .bool false]) := HB.out.setRow _
  refine wp_storeW 3 _ _ rfl ⟨g, 0, none⟩ (.int .i64 0) (by kernel_rfl) (by kernel_rfl) (wk1.setRow g #[.int .i64 0, .slice ba word.length bc, .slice wa ws.length wc, .int .i64 dg, .bool false]) hst (by kernel_rfl) ?_
  try simp only [pA, pB, p1, p2, p3]
  clear hst
  generalize wk1.setRow g #[.int .i64 0, .slice ba word.length bc, .slice wa ws.length wc, .int .i64 dg, .bool false] = wk2 at HW HY HK HB ⊢
  refine WL.nil ?_
  try simp only [pA, pB, p1, p2, p3]
  go_wp2
  go_end0
  rw [HC.out]
  exact ⟨rfl, by rw [HS.out]; exact RdA.of _ HB.out HW.out HY.out (Nat.le_trans HL.out HK.out.size) (by simp) (by simp [strV]) (by simp) (by simp) (by simp) (by simp [u8V, bi]) (by simp), HK.out⟩
set_option maxRecDepth 100000 in
set_option maxHeartbeats 4000000 in
theorem nx_6n (n0 g : Nat) (word : List UInt8) (ws : List (List UInt8)) (dg : Int) (c : UInt8) (w : World) (hcut : RdA n0 w g ⟨6, word, ws, dg, false⟩) (hws : ws.length ≤ 1000000000000) (hbt : word.length ≤ 1000000000000) (h32 : bi c ≠ 32) (h9 : bi c ≠ 9)  : Calls Try.prog 20 #[.pointer (some ⟨g, 0, none⟩), .int .u8 (bi c)] w (PostR n0 g (nextS ⟨6, word, ws, dg, false⟩ c) w) := by
  obtain ⟨C, hC⟩ : ∃ C : Ending → World → Prop, C = (PostR n0 g (nextS ⟨6, word, ws, dg, false⟩ c) w) := ⟨_, rfl⟩
  have HC : Hid (C = (PostR n0 g (nextS ⟨6, word, ws, dg, false⟩ c) w)) := hC
  rw [← hC]
  clear hC
  have e32 : (bi c == 32) = false := by simp [h32]
  have e9 : (bi c == 9) = false := by simp [h9]
  have hbl : isB (bi c) = false := isB_of e32 e9
  have HS : Hid (nextS ⟨6, word, ws, dg, false⟩ c = ⟨0, word, ws, dg, true⟩) := by show _ = _; unfold nextS; simp [h32, h9, hbl, isB32, isB9, isB34, isB35]
  clear h32 h9
  clear hbl
  obtain ⟨wa, wc, ba, bc, hC0⟩ := hcut
  have HB : Hid (Box w g 46 #[.int .i64 6, .slice ba word.length bc, .slice wa ws.length wc, .int .i64 dg, .bool false]) := hC0.box
  have HW : Hid (Own 9 1 w n0 wa wc ws.length (ws.map strV)) := hC0.hw
  have HY : Hid (Own 5 1 w n0 ba bc word.length (word.map u8V)) := hC0.hb
  have HL : Hid (n0 ≤ w.heap.size) := hC0.hn
  have HWd : Hid (ws.length ≤ 1000000000000) := hws
  have HBd : Hid (word.length ≤ 1000000000000) := hbt
  have HK : Hid (Kept (Sg n0 g) w w) := Kept.refl _ _
  clear hC0 hws hbt
  go_enter Try.func20, Try.ntmps20
  go_upto_region 0 with fail
  refine WL.start ?_
  refine tK (.int .u8 (bi c)) ?_
  try simp only [pA, pB, p1, p2, p3]
  refine tW (.bool false) (exec_bin .eql 5 _ _ _ rfl (.int .u8 (bi c)) (.int .u8 32) (.bool false) (by kernel_rfl) (by kernel_rfl) (by kernel_rfl) (by rw [b_eq5, e32])) ?_
  try simp only [pA, pB, p1, p2, p3]
  refine tK (.bool false) ?_
  try simp only [pA, pB, p1, p2, p3]
  refine tK (.int .u8 (bi c)) ?_
  try simp only [pA, pB, p1, p2, p3]
  refine tW (.bool false) (exec_bin .eql 5 _ _ _ rfl (.int .u8 (bi c)) (.int .u8 9) (.bool false) (by kernel_rfl) (by kernel_rfl) (by kernel_rfl) (by rw [b_eq5, e9])) ?_
  try simp only [pA, pB, p1, p2, p3]
  refine tK (.bool false) ?_
  try simp only [pA, pB, p1, p2, p3]
  refine tK (.bool false) ?_
  try simp only [pA, pB, p1, p2, p3]
  refine WL.nil ?_
  try simp only [pA, pB, p1, p2, p3]
  go_upto_region 1 with fail
  refine WL.start ?_
  refine tK (.pointer (some ⟨g, 0, none⟩)) ?_
  try simp only [pA, pB, p1, p2, p3]
  refine tK (.pointer (some ⟨g, 0, none⟩)) ?_
  try simp only [pA, pB, p1, p2, p3]
  refine tK (.pointer (some ⟨g, 0, none⟩)) ?_
  try simp only [pA, pB, p1, p2, p3]
  refine tW (.int .i64 6) (exec_load 3 _ rfl ⟨g, 0, none⟩ (by kernel_rfl) (.int .i64 6) (load_one (HB.out.cell 0) U3 rfl)) ?_
  try simp only [pA, pB, p1, p2, p3]
  refine WL.nil ?_
  try simp only [pA, pB, p1, p2, p3]
  go_upto_region 2 with fail
  refine WL.start ?_
  refine tK (.bool false) ?_
  try simp only [pA, pB, p1, p2, p3]
  refine tK (.bool false) ?_
  try simp only [pA, pB, p1, p2, p3]
  refine WL.nil ?_
  try simp only [pA, pB, p1, p2, p3]
  go_upto_region 10 with fail
  refine WL.start ?_
  refine tK (.bool false) ?_
  try simp only [pA, pB, p1, p2, p3]
  refine tK (.bool false) ?_
  try simp only [pA, pB, p1, p2, p3]
  refine WL.nil ?_
  try simp only [pA, pB, p1, p2, p3]
  go_upto_region 16 with fail
  refine WL.start ?_
  refine tK (.bool false) ?_
  try simp only [pA, pB, p1, p2, p3]
  refine tK (.bool false) ?_
  try simp only [pA, pB, p1, p2, p3]
  refine WL.nil ?_
  try simp only [pA, pB, p1, p2, p3]
  go_upto_region 23 with fail
  refine WL.start ?_
  refine tK (.bool false) ?_
  try simp only [pA, pB, p1, p2, p3]
  refine tK (.bool false) ?_
  try simp only [pA, pB, p1, p2, p3]
  refine WL.nil ?_
  try simp only [pA, pB, p1, p2, p3]
  go_upto_region 25 with fail
  refine WL.start ?_
  refine tK (.bool false) ?_
  try simp only [pA, pB, p1, p2, p3]
  refine tK (.bool false) ?_
  try simp only [pA, pB, p1, p2, p3]
  refine WL.nil ?_
  try simp only [pA, pB, p1, p2, p3]
  go_upto_region 29 with fail
  refine WL.start ?_
  refine tK (.bool false) ?_
  try simp only [pA, pB, p1, p2, p3]
  refine tK (.bool false) ?_
  try simp only [pA, pB, p1, p2, p3]
  refine WL.nil ?_
  try simp only [pA, pB, p1, p2, p3]
  go_upto_region 35 with fail
  refine WL.start ?_
  refine tK (.bool true) ?_
  try simp only [pA, pB, p1, p2, p3]
  refine tK (.bool true) ?_
  try simp only [pA, pB, p1, p2, p3]
  refine WL.nil ?_
  try simp only [pA, pB, p1, p2, p3]
  go_upto_region 36 with fail
  refine WL.start ?_
  refine tK (.pointer (some ⟨g, 0, none⟩)) ?_
  try simp only [pA, pB, p1, p2, p3]
  refine tK (.pointer (some ⟨g, 0, none⟩)) ?_
  try simp only [pA, pB, p1, p2, p3]
  refine tK (.pointer (some ⟨g, 0, none⟩)) ?_
  try simp only [pA, pB, p1, p2, p3]
  refine tK (.pointer (some ⟨g, 4, none⟩)) ?_
  try simp only [pA, pB, p1, p2, p3]
  refine tW (.bool false) (exec_load 4 _ rfl ⟨g, 4, none⟩ (by kernel_rfl) (.bool false) (load_one (HB.out.cell 4) U4 rfl)) ?_
  try simp only [pA, pB, p1, p2, p3]
  refine tK (.bool false) ?_
  try simp only [pA, pB, p1, p2, p3]
  refine tK (.bool false) ?_
  try simp only [pA, pB, p1, p2, p3]
  refine tK (.bool true) ?_
  try simp only [pA, pB, p1, p2, p3]
  refine tK (.bool true) ?_
  try simp only [pA, pB, p1, p2, p3]
  refine tK (.pointer (some ⟨g, 0, none⟩)) ?_
  try simp only [pA, pB, p1, p2, p3]
  refine tK (.pointer (some ⟨g, 4, none⟩)) ?_
  try simp only [pA, pB, p1, p2, p3]
  have hst : (storeVar 4 ⟨g, 4, none⟩ (.bool true)).run Try.prog w = .ok () (w.setRow g #[.int .i64 6, .slice ba word.length bc, .slice wa ws.length wc, .int .i64 dg, .bool true]) := run_store_to (cur := [.int .i64 6, .slice ba word.length bc, .slice wa ws.length wc, .int .i64 dg, .bool false]) (vs := [.bool true]) (new := [.int .i64 6, .slice ba word.length bc, .slice wa ws.length wc, .int .i64 dg, .bool true]) HB.out (by kernel_rfl) S4 (Nat.le_of_ble_eq_true (by kernel_rfl)) (by simp [Value.oneCell', strV, u8V]) (by kernel_rfl)
  have HW : Hid (Own 9 1 (w.setRow g #[.int .i64 6, .slice ba word.length bc, .slice wa ws.length wc, .int .i64 dg, .bool true]) n0 wa wc ws.length (ws.map strV)) := HW.out.kept (Kept.setRow _ _ _) (HW.out.notBox HB.out (by decide))
  have HY : Hid (Own 5 1 (w.setRow g #[.int .i64 6, .slice ba word.length bc, .slice wa ws.length wc, .int .i64 dg, .bool true]) n0 ba bc word.length (word.map u8V)) := HY.out.kept (Kept.setRow _ _ _) (HY.out.notBox HB.out (by decide))
  have HK : Hid (Kept (Sg n0 g) w (w.setRow g #[.int .i64 6, .slice ba word.length bc, .slice wa ws.length wc, .int .i64 dg, .bool true])) := HK.out.inRow (S := Sg n0 g) (Or.inl rfl) _
  have HB : Hid (Box (w.setRow g #[.int .i64 6, .slice ba word.length bc, .slice wa ws.length wc, .int .i64 dg, .bool true]) g 46 #[.int .i64 6, .slice ba word.length bc, .slice wa ws.length wc, .int .i64 dg, .bool true]) := HB.out.setRow _
  refine wp_storeW 4 _ _ rfl ⟨g, 4, none⟩ (.bool true) (by kernel_rfl) (by kernel_rfl) (w.setRow g #[.int .i64 6, .slice ba word.length bc, .slice wa ws.length wc, .int .i64 dg, .bool true]) hst (by kernel_rfl) ?_
  try simp only [pA, pB, p1, p2, p3]
  clear hst
  generalize w.setRow g #[.int .i64 6, .slice ba word.length bc, .slice wa ws.length wc, .int .i64 dg, .bool true] = wk1 at HW HY HK HB ⊢
  refine WL.nil ?_
  try simp only [pA, pB, p1, p2, p3]
  go_upto_region 37 with fail
  refine WL.start ?_
  refine tK (.pointer (some ⟨g, 0, none⟩)) ?_
  try simp only [pA, pB, p1, p2, p3]
  refine tK (.pointer (some ⟨g, 0, none⟩)) ?_
  try simp only [pA, pB, p1, p2, p3]
  refine tK (.pointer (some ⟨g, 0, none⟩)) ?_
  try simp only [pA, pB, p1, p2, p3]
  have hst : (storeVar 3 ⟨g, 0, none⟩ (.int .i64 0)).run Try.prog wk1 = .ok () (wk1.setRow g #[.int .i64 0, .slice ba word.length bc, .slice wa ws.length wc, .int .i64 dg, .bool true]) := run_store_to (cur := [.int .i64 6, .slice ba word.length bc, .slice wa ws.length wc, .int .i64 dg, .bool true]) (vs := [.int .i64 0]) (new := [.int .i64 0, .slice ba word.length bc, .slice wa ws.length wc, .int .i64 dg, .bool true]) HB.out (by kernel_rfl) S3 (Nat.le_of_ble_eq_true (by kernel_rfl)) (by simp [Value.oneCell', strV, u8V]) (by kernel_rfl)
  have HW : Hid (Own 9 1 (wk1.setRow g #[.int .i64 0, .slice ba word.length bc, .slice wa ws.length wc, .int .i64 dg, .bool true]) n0 wa wc ws.length (ws.map strV)) := HW.out.kept (Kept.setRow _ _ _) (HW.out.notBox HB.out (by decide))
  have HY : Hid (Own 5 1 (wk1.setRow g #[.int .i64 0, .slice ba word.length bc, .slice wa ws.length wc, .int .i64 dg, .bool true]) n0 ba bc word.length (word.map u8V)) := HY.out.kept (Kept.setRow _ _ _) (HY.out.notBox HB.out (by decide))
  have HK : Hid (Kept (Sg n0 g) w (wk1.setRow g #[.int .i64 0, .slice ba word.length bc, .slice wa ws.length wc, .int .i64 dg, .bool true])) := HK.out.inRow (S := Sg n0 g) (Or.inl rfl) _
  have HB : Hid (Box (wk1.setRow g #[.int .i64 0, .slice ba word.length bc, .slice wa ws.length wc, .int .i64 dg, .bool true]) g 46 #[.int .i64 0, .slice ba word.length bc, .slice wa ws.length wc, .int .i64 dg, .bool true]) := HB.out.setRow _
  refine wp_storeW 3 _ _ rfl ⟨g, 0, none⟩ (.int .i64 0) (by kernel_rfl) (by kernel_rfl) (wk1.setRow g #[.int .i64 0, .slice ba word.length bc, .slice wa ws.length wc, .int .i64 dg, .bool true]) hst (by kernel_rfl) ?_
  try simp only [pA, pB, p1, p2, p3]
  clear hst
  generalize wk1.setRow g #[.int .i64 0, .slice ba word.length bc, .slice wa ws.length wc, .int .i64 dg, .bool true] = wk2 at HW HY HK HB ⊢
  refine WL.nil ?_
  try simp only [pA, pB, p1, p2, p3]
  go_wp2
  go_end0
  rw [HC.out]
  exact ⟨rfl, by rw [HS.out]; exact RdA.of _ HB.out HW.out HY.out (Nat.le_trans HL.out HK.out.size) (by simp) (by simp [strV]) (by simp) (by simp) (by simp) (by simp [u8V, bi]) (by simp), HK.out⟩
set_option maxRecDepth 100000 in
set_option maxHeartbeats 4000000 in
theorem nx_7s (n0 g : Nat) (word : List UInt8) (ws : List (List UInt8)) (dg : Int) (c : UInt8) (w : World) (hcut : RdA n0 w g ⟨7, word, ws, dg, false⟩) (hws : ws.length ≤ 1000000000000) (hbt : word.length ≤ 1000000000000) (h32 : bi c = 32)  : Calls Try.prog 20 #[.pointer (some ⟨g, 0, none⟩), .int .u8 (bi c)] w (PostR n0 g (nextS ⟨7, word, ws, dg, false⟩ c) w) := by
  obtain ⟨C, hC⟩ : ∃ C : Ending → World → Prop, C = (PostR n0 g (nextS ⟨7, word, ws, dg, false⟩ c) w) := ⟨_, rfl⟩
  have HC : Hid (C = (PostR n0 g (nextS ⟨7, word, ws, dg, false⟩ c) w)) := hC
  rw [← hC]
  clear hC
  have e32 : (bi c == 32) = true := by simp [h32]
  have HS : Hid (nextS ⟨7, word, ws, dg, false⟩ c = ⟨7, word, ws, dg, false⟩) := by show _ = _; unfold nextS; simp [h32]
  clear h32
  obtain ⟨wa, wc, ba, bc, hC0⟩ := hcut
  have HB : Hid (Box w g 46 #[.int .i64 7, .slice ba word.length bc, .slice wa ws.length wc, .int .i64 dg, .bool false]) := hC0.box
  have HW : Hid (Own 9 1 w n0 wa wc ws.length (ws.map strV)) := hC0.hw
  have HY : Hid (Own 5 1 w n0 ba bc word.length (word.map u8V)) := hC0.hb
  have HL : Hid (n0 ≤ w.heap.size) := hC0.hn
  have HWd : Hid (ws.length ≤ 1000000000000) := hws
  have HBd : Hid (word.length ≤ 1000000000000) := hbt
  have HK : Hid (Kept (Sg n0 g) w w) := Kept.refl _ _
  clear hC0 hws hbt
  go_enter Try.func20, Try.ntmps20
  go_upto_region 0 with fail
  refine WL.start ?_
  refine tK (.int .u8 (bi c)) ?_
  try simp only [pA, pB, p1, p2, p3]
  refine tW (.bool true) (exec_bin .eql 5 _ _ _ rfl (.int .u8 (bi c)) (.int .u8 32) (.bool true) (by kernel_rfl) (by kernel_rfl) (by kernel_rfl) (by rw [b_eq5, e32])) ?_
  try simp only [pA, pB, p1, p2, p3]
  refine tK (.bool true) ?_
  try simp only [pA, pB, p1, p2, p3]
  refine sK ?_
  try simp only [pA, pB, p1, p2, p3]
  refine sK ?_
  try simp only [pA, pB, p1, p2, p3]
  refine tK (.bool true) ?_
  try simp only [pA, pB, p1, p2, p3]
  refine tK (.bool true) ?_
  try simp only [pA, pB, p1, p2, p3]
  refine WL.nil ?_
  try simp only [pA, pB, p1, p2, p3]
  go_upto_region 1 with fail
  refine WL.start ?_
  refine tK (.pointer (some ⟨g, 0, none⟩)) ?_
  try simp only [pA, pB, p1, p2, p3]
  refine tK (.pointer (some ⟨g, 0, none⟩)) ?_
  try simp only [pA, pB, p1, p2, p3]
  refine tK (.pointer (some ⟨g, 0, none⟩)) ?_
  try simp only [pA, pB, p1, p2, p3]
  refine tW (.int .i64 7) (exec_load 3 _ rfl ⟨g, 0, none⟩ (by kernel_rfl) (.int .i64 7) (load_one (HB.out.cell 0) U3 rfl)) ?_
  try simp only [pA, pB, p1, p2, p3]
  refine WL.nil ?_
  try simp only [pA, pB, p1, p2, p3]
  go_upto_region 2 with fail
  refine WL.start ?_
  refine tK (.bool false) ?_
  try simp only [pA, pB, p1, p2, p3]
  refine tK (.bool false) ?_
  try simp only [pA, pB, p1, p2, p3]
  refine WL.nil ?_
  try simp only [pA, pB, p1, p2, p3]
  go_upto_region 10 with fail
  refine WL.start ?_
  refine tK (.bool false) ?_
  try simp only [pA, pB, p1, p2, p3]
  refine tK (.bool false) ?_
  try simp only [pA, pB, p1, p2, p3]
  refine WL.nil ?_
  try simp only [pA, pB, p1, p2, p3]
  go_upto_region 16 with fail
  refine WL.start ?_
  refine tK (.bool false) ?_
  try simp only [pA, pB, p1, p2, p3]
  refine tK (.bool false) ?_
  try simp only [pA, pB, p1, p2, p3]
  refine WL.nil ?_
  try simp only [pA, pB, p1, p2, p3]
  go_upto_region 23 with fail
  refine WL.start ?_
  refine tK (.bool false) ?_
  try simp only [pA, pB, p1, p2, p3]
  refine tK (.bool false) ?_
  try simp only [pA, pB, p1, p2, p3]
  refine WL.nil ?_
  try simp only [pA, pB, p1, p2, p3]
  go_upto_region 25 with fail
  refine WL.start ?_
  refine tK (.bool false) ?_
  try simp only [pA, pB, p1, p2, p3]
  refine tK (.bool false) ?_
  try simp only [pA, pB, p1, p2, p3]
  refine WL.nil ?_
  try simp only [pA, pB, p1, p2, p3]
  go_upto_region 29 with fail
  refine WL.start ?_
  refine tK (.bool false) ?_
  try simp only [pA, pB, p1, p2, p3]
  refine tK (.bool false) ?_
  try simp only [pA, pB, p1, p2, p3]
  refine WL.nil ?_
  try simp only [pA, pB, p1, p2, p3]
  go_upto_region 35 with fail
  refine WL.start ?_
  refine tK (.bool false) ?_
  try simp only [pA, pB, p1, p2, p3]
  refine tK (.bool false) ?_
  try simp only [pA, pB, p1, p2, p3]
  refine WL.nil ?_
  try simp only [pA, pB, p1, p2, p3]
  go_wp2
  go_end0
  rw [HC.out]
  exact ⟨rfl, by rw [HS.out]; exact RdA.of _ HB.out HW.out HY.out (Nat.le_trans HL.out HK.out.size) (by simp) (by simp [strV]) (by simp) (by simp) (by simp) (by simp [u8V, bi]) (by simp), HK.out⟩
set_option maxRecDepth 100000 in
set_option maxHeartbeats 4000000 in
theorem nx_7t (n0 g : Nat) (word : List UInt8) (ws : List (List UInt8)) (dg : Int) (c : UInt8) (w : World) (hcut : RdA n0 w g ⟨7, word, ws, dg, false⟩) (hws : ws.length ≤ 1000000000000) (hbt : word.length ≤ 1000000000000) (h32 : bi c ≠ 32) (h9 : bi c = 9)  : Calls Try.prog 20 #[.pointer (some ⟨g, 0, none⟩), .int .u8 (bi c)] w (PostR n0 g (nextS ⟨7, word, ws, dg, false⟩ c) w) := by
  obtain ⟨C, hC⟩ : ∃ C : Ending → World → Prop, C = (PostR n0 g (nextS ⟨7, word, ws, dg, false⟩ c) w) := ⟨_, rfl⟩
  have HC : Hid (C = (PostR n0 g (nextS ⟨7, word, ws, dg, false⟩ c) w)) := hC
  rw [← hC]
  clear hC
  have e32 : (bi c == 32) = false := by simp [h32]
  have e9 : (bi c == 9) = true := by simp [h9]
  have HS : Hid (nextS ⟨7, word, ws, dg, false⟩ c = ⟨7, word, ws, dg, false⟩) := by show _ = _; unfold nextS; simp [h32, h9]
  clear h32 h9
  obtain ⟨wa, wc, ba, bc, hC0⟩ := hcut
  have HB : Hid (Box w g 46 #[.int .i64 7, .slice ba word.length bc, .slice wa ws.length wc, .int .i64 dg, .bool false]) := hC0.box
  have HW : Hid (Own 9 1 w n0 wa wc ws.length (ws.map strV)) := hC0.hw
  have HY : Hid (Own 5 1 w n0 ba bc word.length (word.map u8V)) := hC0.hb
  have HL : Hid (n0 ≤ w.heap.size) := hC0.hn
  have HWd : Hid (ws.length ≤ 1000000000000) := hws
  have HBd : Hid (word.length ≤ 1000000000000) := hbt
  have HK : Hid (Kept (Sg n0 g) w w) := Kept.refl _ _
  clear hC0 hws hbt
  go_enter Try.func20, Try.ntmps20
  go_upto_region 0 with fail
  refine WL.start ?_
  refine tK (.int .u8 (bi c)) ?_
  try simp only [pA, pB, p1, p2, p3]
  refine tW (.bool false) (exec_bin .eql 5 _ _ _ rfl (.int .u8 (bi c)) (.int .u8 32) (.bool false) (by kernel_rfl) (by kernel_rfl) (by kernel_rfl) (by rw [b_eq5, e32])) ?_
  try simp only [pA, pB, p1, p2, p3]
  refine tK (.bool false) ?_
  try simp only [pA, pB, p1, p2, p3]
  refine tK (.int .u8 (bi c)) ?_
  try simp only [pA, pB, p1, p2, p3]
  refine tW (.bool true) (exec_bin .eql 5 _ _ _ rfl (.int .u8 (bi c)) (.int .u8 9) (.bool true) (by kernel_rfl) (by kernel_rfl) (by kernel_rfl) (by rw [b_eq5, e9])) ?_
  try simp only [pA, pB, p1, p2, p3]
  refine tK (.bool true) ?_
  try simp only [pA, pB, p1, p2, p3]
  refine tK (.bool true) ?_
  try simp only [pA, pB, p1, p2, p3]
  refine WL.nil ?_
  try simp only [pA, pB, p1, p2, p3]
  go_upto_region 1 with fail
  refine WL.start ?_
  refine tK (.pointer (some ⟨g, 0, none⟩)) ?_
  try simp only [pA, pB, p1, p2, p3]
  refine tK (.pointer (some ⟨g, 0, none⟩)) ?_
  try simp only [pA, pB, p1, p2, p3]
  refine tK (.pointer (some ⟨g, 0, none⟩)) ?_
  try simp only [pA, pB, p1, p2, p3]
  refine tW (.int .i64 7) (exec_load 3 _ rfl ⟨g, 0, none⟩ (by kernel_rfl) (.int .i64 7) (load_one (HB.out.cell 0) U3 rfl)) ?_
  try simp only [pA, pB, p1, p2, p3]
  refine WL.nil ?_
  try simp only [pA, pB, p1, p2, p3]
  go_upto_region 2 with fail
  refine WL.start ?_
  refine tK (.bool false) ?_
  try simp only [pA, pB, p1, p2, p3]
  refine tK (.bool false) ?_
  try simp only [pA, pB, p1, p2, p3]
  refine WL.nil ?_
  try simp only [pA, pB, p1, p2, p3]
  go_upto_region 10 with fail
  refine WL.start ?_
  refine tK (.bool false) ?_
  try simp only [pA, pB, p1, p2, p3]
  refine tK (.bool false) ?_
  try simp only [pA, pB, p1, p2, p3]
  refine WL.nil ?_
  try simp only [pA, pB, p1, p2, p3]
  go_upto_region 16 with fail
  refine WL.start ?_
  refine tK (.bool false) ?_
  try simp only [pA, pB, p1, p2, p3]
  refine tK (.bool false) ?_
  try simp only [pA, pB, p1, p2, p3]
  refine WL.nil ?_
  try simp only [pA, pB, p1, p2, p3]
  go_upto_region 23 with fail
  refine WL.start ?_
  refine tK (.bool false) ?_
  try simp only [pA, pB, p1, p2, p3]
  refine tK (.bool false) ?_
  try simp only [pA, pB, p1, p2, p3]
  refine WL.nil ?_
  try simp only [pA, pB, p1, p2, p3]
  go_upto_region 25 with fail
  refine WL.start ?_
  refine tK (.bool false) ?_
  try simp only [pA, pB, p1, p2, p3]
  refine tK (.bool false) ?_
  try simp only [pA, pB, p1, p2, p3]
  refine WL.nil ?_
  try simp only [pA, pB, p1, p2, p3]
  go_upto_region 29 with fail
  refine WL.start ?_
  refine tK (.bool false) ?_
  try simp only [pA, pB, p1, p2, p3]
  refine tK (.bool false) ?_
  try simp only [pA, pB, p1, p2, p3]
  refine WL.nil ?_
  try simp only [pA, pB, p1, p2, p3]
  go_upto_region 35 with fail
  refine WL.start ?_
  refine tK (.bool false) ?_
  try simp only [pA, pB, p1, p2, p3]
  refine tK (.bool false) ?_
  try simp only [pA, pB, p1, p2, p3]
  refine WL.nil ?_
  try simp only [pA, pB, p1, p2, p3]
  go_wp2
  go_end0
  rw [HC.out]
  exact ⟨rfl, by rw [HS.out]; exact RdA.of _ HB.out HW.out HY.out (Nat.le_trans HL.out HK.out.size) (by simp) (by simp [strV]) (by simp) (by simp) (by simp) (by simp [u8V, bi]) (by simp), HK.out⟩
set_option maxRecDepth 100000 in
set_option maxHeartbeats 4000000 in
theorem nx_7n (n0 g : Nat) (word : List UInt8) (ws : List (List UInt8)) (dg : Int) (c : UInt8) (w : World) (hcut : RdA n0 w g ⟨7, word, ws, dg, false⟩) (hws : ws.length ≤ 1000000000000) (hbt : word.length ≤ 1000000000000) (h32 : bi c ≠ 32) (h9 : bi c ≠ 9)  : Calls Try.prog 20 #[.pointer (some ⟨g, 0, none⟩), .int .u8 (bi c)] w (PostR n0 g (nextS ⟨7, word, ws, dg, false⟩ c) w) := by
  obtain ⟨C, hC⟩ : ∃ C : Ending → World → Prop, C = (PostR n0 g (nextS ⟨7, word, ws, dg, false⟩ c) w) := ⟨_, rfl⟩
  have HC : Hid (C = (PostR n0 g (nextS ⟨7, word, ws, dg, false⟩ c) w)) := hC
  rw [← hC]
  clear hC
  have e32 : (bi c == 32) = false := by simp [h32]
  have e9 : (bi c == 9) = false := by simp [h9]
  have HS : Hid (nextS ⟨7, word, ws, dg, false⟩ c = ⟨7, word, ws, dg, false⟩) := by show _ = _; unfold nextS; simp [h32, h9]
  clear h32 h9
  obtain ⟨wa, wc, ba, bc, hC0⟩ := hcut
  have HB : Hid (Box w g 46 #[.int .i64 7, .slice ba word.length bc, .slice wa ws.length wc, .int .i64 dg, .bool false]) := hC0.box
  have HW : Hid (Own 9 1 w n0 wa wc ws.length (ws.map strV)) := hC0.hw
  have HY : Hid (Own 5 1 w n0 ba bc word.length (word.map u8V)) := hC0.hb
  have HL : Hid (n0 ≤ w.heap.size) := hC0.hn
  have HWd : Hid (ws.length ≤ 1000000000000) := hws
  have HBd : Hid (word.length ≤ 1000000000000) := hbt
  have HK : Hid (Kept (Sg n0 g) w w) := Kept.refl _ _
  clear hC0 hws hbt
  go_enter Try.func20, Try.ntmps20
  go_upto_region 0 with fail
  refine WL.start ?_
  refine tK (.int .u8 (bi c)) ?_
  try simp only [pA, pB, p1, p2, p3]
  refine tW (.bool false) (exec_bin .eql 5 _ _ _ rfl (.int .u8 (bi c)) (.int .u8 32) (.bool false) (by kernel_rfl) (by kernel_rfl) (by kernel_rfl) (by rw [b_eq5, e32])) ?_
  try simp only [pA, pB, p1, p2, p3]
  refine tK (.bool false) ?_
  try simp only [pA, pB, p1, p2, p3]
  refine tK (.int .u8 (bi c)) ?_
  try simp only [pA, pB, p1, p2, p3]
  refine tW (.bool false) (exec_bin .eql 5 _ _ _ rfl (.int .u8 (bi c)) (.int .u8 9) (.bool false) (by kernel_rfl) (by kernel_rfl) (by kernel_rfl) (by rw [b_eq5, e9])) ?_
  try simp only [pA, pB, p1, p2, p3]
  refine tK (.bool false) ?_
  try simp only [pA, pB, p1, p2, p3]
  refine tK (.bool false) ?_
  try simp only [pA, pB, p1, p2, p3]
  refine WL.nil ?_
  try simp only [pA, pB, p1, p2, p3]
  go_upto_region 1 with fail
  refine WL.start ?_
  refine tK (.pointer (some ⟨g, 0, none⟩)) ?_
  try simp only [pA, pB, p1, p2, p3]
  refine tK (.pointer (some ⟨g, 0, none⟩)) ?_
  try simp only [pA, pB, p1, p2, p3]
  refine tK (.pointer (some ⟨g, 0, none⟩)) ?_
  try simp only [pA, pB, p1, p2, p3]
  refine tW (.int .i64 7) (exec_load 3 _ rfl ⟨g, 0, none⟩ (by kernel_rfl) (.int .i64 7) (load_one (HB.out.cell 0) U3 rfl)) ?_
  try simp only [pA, pB, p1, p2, p3]
  refine WL.nil ?_
  try simp only [pA, pB, p1, p2, p3]
  go_upto_region 2 with fail
  refine WL.start ?_
  refine tK (.bool false) ?_
  try simp only [pA, pB, p1, p2, p3]
  refine tK (.bool false) ?_
  try simp only [pA, pB, p1, p2, p3]
  refine WL.nil ?_
  try simp only [pA, pB, p1, p2, p3]
  go_upto_region 10 with fail
  refine WL.start ?_
  refine tK (.bool false) ?_
  try simp only [pA, pB, p1, p2, p3]
  refine tK (.bool false) ?_
  try simp only [pA, pB, p1, p2, p3]
  refine WL.nil ?_
  try simp only [pA, pB, p1, p2, p3]
  go_upto_region 16 with fail
  refine WL.start ?_
  refine tK (.bool false) ?_
  try simp only [pA, pB, p1, p2, p3]
  refine tK (.bool false) ?_
  try simp only [pA, pB, p1, p2, p3]
  refine WL.nil ?_
  try simp only [pA, pB, p1, p2, p3]
  go_upto_region 23 with fail
  refine WL.start ?_
  refine tK (.bool false) ?_
  try simp only [pA, pB, p1, p2, p3]
  refine tK (.bool false) ?_
  try simp only [pA, pB, p1, p2, p3]
  refine WL.nil ?_
  try simp only [pA, pB, p1, p2, p3]
  go_upto_region 25 with fail
  refine WL.start ?_
  refine tK (.bool false) ?_
  try simp only [pA, pB, p1, p2, p3]
  refine tK (.bool false) ?_
  try simp only [pA, pB, p1, p2, p3]
  refine WL.nil ?_
  try simp only [pA, pB, p1, p2, p3]
  go_upto_region 29 with fail
  refine WL.start ?_
  refine tK (.bool false) ?_
  try simp only [pA, pB, p1, p2, p3]
  refine tK (.bool false) ?_
  try simp only [pA, pB, p1, p2, p3]
  refine WL.nil ?_
  try simp only [pA, pB, p1, p2, p3]
  go_upto_region 35 with fail
  refine WL.start ?_
  refine tK (.bool false) ?_
  try simp only [pA, pB, p1, p2, p3]
  refine tK (.bool false) ?_
  try simp only [pA, pB, p1, p2, p3]
  refine WL.nil ?_
  try simp only [pA, pB, p1, p2, p3]
  go_wp2
  go_end0
  rw [HC.out]
  exact ⟨rfl, by rw [HS.out]; exact RdA.of _ HB.out HW.out HY.out (Nat.le_trans HL.out HK.out.size) (by simp) (by simp [strV]) (by simp) (by simp) (by simp) (by simp [u8V, bi]) (by simp), HK.out⟩

end Go.Proofs.Ytgnfeegnhdbnkaa
