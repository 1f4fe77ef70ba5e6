import Derived.Test.YtgnfeegnhdbnkaaG
namespace Go.Proofs.Ytgnfeegnhdbnkaa
open Go.RowKit Go.Lib
set_option linter.unusedVariables false
set_option linter.unusedSimpArgs false

theorem wrap_u8 (x : Int) (h0 : 0 ≤ x) (h1 : x ≤ 255) : IntKind.u8.wrap x = x := by
  unfold IntKind.wrap
  simp [IntKind.bits, IntKind.signed]
  omega
theorem b_shl4 (h : Int) (h0 : 0 ≤ h ∧ h ≤ 15) (w : World) : (binOp .shl 5 (.int .u8 h) (.int .u64 4)).run Try.prog w = .ok (.int .u8 (16 * h)) w := by
  rw [binOp_shl]
  unfold Op.shift
  rw [if_neg (by omega)]
  show Result.ok (Value.int .u8 (IntKind.u8.wrap (h * 16))) w = _
  rw [wrap_u8 _ (by omega) (by omega), Int.mul_comm]
theorem b_orD (d h : Int) (hd : 0 ≤ d ∧ d ≤ 15) (h0 : 0 ≤ h ∧ h ≤ 15) (w : World) : (binOp .or 5 (.int .u8 (16 * d)) (.int .u8 h)).run Try.prog w = .ok (.int .u8 (16 * d + h)) w := by
  obtain ⟨n, rfl⟩ : ∃ n : Nat, d = (n : Int) := ⟨d.toNat, by omega⟩
  obtain ⟨m, rfl⟩ : ∃ n : Nat, h = (n : Int) := ⟨h.toNat, by omega⟩
  have hn : n < 16 := by omega
  have hm : m < 16 := by omega
  clear h0 hd
  have key : ∀ n < 16, ∀ m < 16, (16 * n) ||| m = 16 * n + m := by decide
  have e := key n hn m hm
  rw [show binOp .or 5 (.int .u8 (16 * (n : Int))) (.int .u8 (m : Int)) = Op.intBits .or .u8 (16 * (n : Int)) (m : Int) by simp [binOp]]
  have := (bits_nat .u8 8 (by decide) (fun n h0 h1 => wrap_u8 n h0 (by have : (2 : Int) ^ 8 = 256 := rfl; omega)) (16 * n) m (by have : (2 : Nat) ^ 8 = 256 := rfl; omega) (by have : (2 : Nat) ^ 8 = 256 := rfl; omega)).2
  rw [e] at this
  rw [show (16 * (n : Int) + (m : Int)) = ((16 * n + m : Nat) : Int) by omega, ← this, show (16 * (n : Int)) = ((16 * n : Nat) : Int) by omega]
  rfl
theorem Own.cellAt {t : TypeId} {w : World} {base g cap n : Nat} {vs : List Value} (h : Own t 1 w base (some ⟨g, 0, none⟩) cap n vs) {i : Nat} {v : Value} (hv : vs[i]? = some v) : w.cell? ⟨g, i, none⟩ = some v := by
  have hl : vs.length = n * 1 := h.1
  rcases h.cases hl with ⟨e, _⟩ | ⟨g', e, _, _, sp, hg, _⟩
  · cases e
  · cases e
    have hi := (List.getElem?_eq_some_iff.1 hv).1
    rw [cell_of_row w g i _ t (0, 0) hg, List.getElem?_toArray, List.getElem?_append_left hi, hv]
theorem Own.some_of {t : TypeId} {w : World} {base cap n : Nat} {a : Option Addr} {vs : List Value} (h : Own t 1 w base a cap n vs) (hn : 0 < n) : ∃ g, a = some ⟨g, 0, none⟩ := by
  rcases h.cases h.1 with ⟨_, _, h0⟩ | ⟨g, e, _⟩
  · omega
  · exact ⟨g, e⟩
theorem E30 : Try.prog.underlying 30 = some (.slice (Try.prog.elem 30)) := by kernel_rfl
theorem F30 : (Try.prog.info? (Try.prog.elem 30)).map (·.size) = some 1 := by kernel_rfl
theorem E22 : Try.prog.underlying 22 = some (.slice (Try.prog.elem 22)) := by kernel_rfl
theorem F22 : (Try.prog.info? (Try.prog.elem 22)).map (·.size) = some 1 := by kernel_rfl
set_option maxRecDepth 100000 in
set_option maxHeartbeats 4000000 in
theorem dig_n (n0 g : Nat) (l : List UInt8) (s : Cs) (i : Nat) (r : Int) (w : World) (hcut : CutA n0 w g l s) (hi : i < l.length) (hl : l.length ≤ 1000000000000) (hr : 0 ≤ r ∧ r ≤ 2147483647) (b0 : List UInt8) (x : UInt8) (hbt : s.bt = b0 ++ [x]) (hbl : s.bt.length ≤ 1000000000000) (hx : hexD r = none) : Calls Try.prog 17 #[.pointer (some ⟨g, 0, none⟩), .int .i64 (i : Int), .int .i32 r] w (fun e w' => e = .returned (.tuple #[]) ∧ CutA n0 w' g l (digS s i r) ∧ Kept (Sg n0 g) w w') := by
  obtain ⟨C, hC⟩ : ∃ C : Ending → World → Prop, C = (fun e w' => e = .returned (.tuple #[]) ∧ CutA n0 w' g l (digS s i r) ∧ Kept (Sg n0 g) w w') := ⟨_, rfl⟩
  have HC : Hid (C = (fun e w' => e = .returned (.tuple #[]) ∧ CutA n0 w' g l (digS s i r) ∧ Kept (Sg n0 g) w w')) := hC
  rw [← hC]
  clear hC
  have HS : Hid (digS s i r = { s with pl := 7 }) := by show _ = _; unfold digS; rw [hx]
  have hx : Hid (hexD r = none) := hx
  obtain ⟨wa, wc, ba, bc, hC0⟩ := hcut
  have HB : Hid (Box w g 40 #[.string (bs l), .slice wa s.ws.length wc, .int .i64 (s.pl : Int), .int .i64 (s.fr : Int), .slice ba s.bt.length bc]) := hC0.box
  have HW : Hid (Own 9 1 w n0 wa wc s.ws.length (s.ws.map strV)) := hC0.hw
  have HY : Hid (Own 5 1 w n0 ba bc s.bt.length (s.bt.map u8V)) := hC0.hb
  have HL : Hid (n0 ≤ w.heap.size) := hC0.hn
  have HK : Hid (Kept (Sg n0 g) w w) := Kept.refl _ _
  clear hC0
  obtain ⟨n, hn⟩ : ∃ n, n = b0.length := ⟨_, rfl⟩
  have hbl2 : s.bt.length = n + 1 := by rw [hbt, hn]; simp
  have hbm : s.bt.map u8V = b0.map u8V ++ [u8V x] := by rw [hbt]; simp
  obtain ⟨bb, hbb⟩ := HY.out.some_of (by rw [hbl2]; omega)
  subst hbb
  rw [hbl2] at HB HY
  rw [hbm] at HY
  have HBt : Hid (s.bt = b0 ++ [x]) := hbt
  have HN : Hid (n = b0.length) := hn
  have HI : Hid (i < l.length ∧ l.length ≤ 1000000000000 ∧ n + 1 ≤ 1000000000000) := ⟨hi, hl, by rw [← hbl2]; exact hbl⟩
  have HR : Hid (0 ≤ r ∧ r ≤ 2147483647) := hr
  have HLst : Hid ((b0.map u8V ++ [u8V x])[0 + n * 1]? = some (u8V x)) := by show _ = _; rw [hn]; simp
  clear hi hl hr hbt hbl hbl2 hbm hn
  go_enter Try.func17, Try.ntmps17
  go_upto_region 0 with fail
  refine WL.start ?_
  refine tK (.pointer (some ⟨g, 0, none⟩)) ?_
  try simp only [pA, pB, p1, p2, p3]
  refine tK (.pointer (some ⟨g, 0, none⟩)) ?_
  try simp only [pA, pB, p1, p2, p3]
  refine tK (.pointer (some ⟨g, 4, none⟩)) ?_
  try simp only [pA, pB, p1, p2, p3]
  refine tW (.slice (some ⟨bb, 0, none⟩) (n + 1) bc) (exec_load 30 _ rfl ⟨g, 4, none⟩ (by kernel_rfl) (.slice (some ⟨bb, 0, none⟩) (n + 1) bc) (load_one (HB.out.cell 4) U30 rfl)) ?_
  try simp only [pA, pB, p1, p2, p3]
  refine tK (.int .i64 (((n + 1) : Nat) : Int)) ?_
  try simp only [pA, pB, p1, p2, p3]
  refine tW (.int .i64 (n : Int)) (exec_bin .sub 3 _ _ _ rfl (.int .i64 (((n + 1) : Nat) : Int)) (.int .i64 1) (.int .i64 (n : Int)) (by kernel_rfl) (by kernel_rfl) (by kernel_rfl) (b_sub1 n (by have := HI.out; omega) _)) ?_
  try simp only [pA, pB, p1, p2, p3]
  refine tK (.int .i64 (n : Int)) ?_
  try simp only [pA, pB, p1, p2, p3]
  refine WL.nil ?_
  try simp only [pA, pB, p1, p2, p3]
  go_upto_region 1 with fail
  refine WL.start ?_
  refine tK (.int .i32 r) ?_
  try simp only [pA, pB, p1, p2, p3]
  refine wp_callW 23 #[.int .i32 r] (by kernel_rfl) _ (digitOf_any _ HR.out w) (by kernel_rfl) ?_
  rintro e wq ⟨rfl, hwq⟩
  rw [hwq]
  clear hwq wq
  refine ⟨.tuple #[.int .u8 0, .bool false], by rw [hx.out]; rfl, ?_⟩
  try simp only [pA, pB, p1, p2, p3]
  refine tK (.tuple #[.int .u8 0, .bool false]) ?_
  try simp only [pA, pB, p1, p2, p3]
  refine tK (.int .u8 0) ?_
  try simp only [pA, pB, p1, p2, p3]
  refine tK (.bool false) ?_
  try simp only [pA, pB, p1, p2, p3]
  refine tK (.int .u8 0) ?_
  try simp only [pA, pB, p1, p2, p3]
  refine tK (.bool false) ?_
  try simp only [pA, pB, p1, p2, p3]
  refine WL.nil ?_
  try simp only [pA, pB, p1, p2, p3]
  go_upto_region 4 with fail
  refine WL.start ?_
  refine tK (.bool false) ?_
  try simp only [pA, pB, p1, p2, p3]
  refine tK (.bool true) ?_
  try simp only [pA, pB, p1, p2, p3]
  refine tK (.bool true) ?_
  try simp only [pA, pB, p1, p2, p3]
  refine WL.nil ?_
  try simp only [pA, pB, p1, p2, p3]
  go_upto_region 5 with fail
  refine WL.start ?_
  refine tK (.pointer (some ⟨g, 0, none⟩)) ?_
  try simp only [pA, pB, p1, p2, p3]
  refine tK (.pointer (some ⟨g, 0, none⟩)) ?_
  try simp only [pA, pB, p1, p2, p3]
  refine tK (.pointer (some ⟨g, 2, none⟩)) ?_
  try simp only [pA, pB, p1, p2, p3]
  have hst : (storeVar 38 ⟨g, 2, none⟩ (.int .i64 7)).run Try.prog w = .ok () (w.setRow g #[.string (bs l), .slice wa s.ws.length wc, .int .i64 7, .int .i64 (s.fr : Int), .slice (some ⟨bb, 0, none⟩) (n + 1) bc]) := run_store_to (cur := [.string (bs l), .slice wa s.ws.length wc, .int .i64 (s.pl : Int), .int .i64 (s.fr : Int), .slice (some ⟨bb, 0, none⟩) (n + 1) bc]) (vs := [.int .i64 7]) (new := [.string (bs l), .slice wa s.ws.length wc, .int .i64 7, .int .i64 (s.fr : Int), .slice (some ⟨bb, 0, none⟩) (n + 1) bc]) HB.out (by kernel_rfl) S38 (Nat.le_of_ble_eq_true (by kernel_rfl)) (by simp [Value.oneCell', strV, u8V]) (by kernel_rfl)
  have HW : Hid (Own 9 1 (w.setRow g #[.string (bs l), .slice wa s.ws.length wc, .int .i64 7, .int .i64 (s.fr : Int), .slice (some ⟨bb, 0, none⟩) (n + 1) bc]) n0 wa wc s.ws.length (s.ws.map strV)) := HW.out.kept (Kept.setRow _ _ _) (HW.out.notBox HB.out (by decide))
  have HY : Hid (Own 5 1 (w.setRow g #[.string (bs l), .slice wa s.ws.length wc, .int .i64 7, .int .i64 (s.fr : Int), .slice (some ⟨bb, 0, none⟩) (n + 1) bc]) n0 (some ⟨bb, 0, none⟩) bc (n + 1) (b0.map u8V ++ [u8V x])) := HY.out.kept (Kept.setRow _ _ _) (HY.out.notBox HB.out (by decide))
  have HK : Hid (Kept (Sg n0 g) w (w.setRow g #[.string (bs l), .slice wa s.ws.length wc, .int .i64 7, .int .i64 (s.fr : Int), .slice (some ⟨bb, 0, none⟩) (n + 1) bc])) := HK.out.inRow (S := Sg n0 g) (Or.inl rfl) _
  have HB : Hid (Box (w.setRow g #[.string (bs l), .slice wa s.ws.length wc, .int .i64 7, .int .i64 (s.fr : Int), .slice (some ⟨bb, 0, none⟩) (n + 1) bc]) g 40 #[.string (bs l), .slice wa s.ws.length wc, .int .i64 7, .int .i64 (s.fr : Int), .slice (some ⟨bb, 0, none⟩) (n + 1) bc]) := HB.out.setRow _
  refine wp_storeW 38 _ _ rfl ⟨g, 2, none⟩ (.int .i64 7) (by kernel_rfl) (by kernel_rfl) (w.setRow g #[.string (bs l), .slice wa s.ws.length wc, .int .i64 7, .int .i64 (s.fr : Int), .slice (some ⟨bb, 0, none⟩) (n + 1) bc]) hst (by kernel_rfl) ?_
  try simp only [pA, pB, p1, p2, p3]
  clear hst
  generalize w.setRow g #[.string (bs l), .slice wa s.ws.length wc, .int .i64 7, .int .i64 (s.fr : Int), .slice (some ⟨bb, 0, none⟩) (n + 1) bc] = wk1 at HW HY HK HB ⊢
  refine WL.nil ?_
  try simp only [pA, pB, p1, p2, p3]
  go_wp2
  go_end0
  rw [HC.out]
  have hq := HN.out
  have hb := HBt.out
  have hh := HS.out
  exact ⟨rfl, by rw [hh]; exact CutA.of _ HB.out HW.out HY.out (Nat.le_trans HL.out HK.out.size) (by simp) (by simp) (by simp) (by simp) (by simp [hb, hq]) (by simp [hb]), HK.out⟩
set_option maxRecDepth 100000 in
set_option maxHeartbeats 4000000 in
theorem dig_h (n0 g : Nat) (l : List UInt8) (s : Cs) (i : Nat) (r : Int) (w : World) (hcut : CutA n0 w g l s) (hi : i < l.length) (hl : l.length ≤ 1000000000000) (hr : 0 ≤ r ∧ r ≤ 2147483647) (b0 : List UInt8) (x : UInt8) (hbt : s.bt = b0 ++ [x]) (hbl : s.bt.length ≤ 1000000000000) (h : Int) (hx : hexD r = some h) (hp : s.pl = 4) : Calls Try.prog 17 #[.pointer (some ⟨g, 0, none⟩), .int .i64 (i : Int), .int .i32 r] w (fun e w' => e = .returned (.tuple #[]) ∧ CutA n0 w' g l (digS s i r) ∧ Kept (Sg n0 g) w w') := by
  obtain ⟨C, hC⟩ : ∃ C : Ending → World → Prop, C = (fun e w' => e = .returned (.tuple #[]) ∧ CutA n0 w' g l (digS s i r) ∧ Kept (Sg n0 g) w w') := ⟨_, rfl⟩
  have HC : Hid (C = (fun e w' => e = .returned (.tuple #[]) ∧ CutA n0 w' g l (digS s i r) ∧ Kept (Sg n0 g) w w')) := hC
  rw [← hC]
  clear hC
  have HH : Hid (0 ≤ h ∧ h ≤ 15) := hexD_le hx
  have hp4 : ((s.pl : Int) == 4) = true := by rw [hp]; rfl
  have HS : Hid (digS s i r = { s with pl := 5, bt := setLast s.bt (UInt8.ofNat (16 * h).toNat) }) := by show _ = _; unfold digS; rw [hx]; simp [hp]
  have hx : Hid (hexD r = some h) := hx
  clear hp
  obtain ⟨wa, wc, ba, bc, hC0⟩ := hcut
  have HB : Hid (Box w g 40 #[.string (bs l), .slice wa s.ws.length wc, .int .i64 (s.pl : Int), .int .i64 (s.fr : Int), .slice ba s.bt.length bc]) := hC0.box
  have HW : Hid (Own 9 1 w n0 wa wc s.ws.length (s.ws.map strV)) := hC0.hw
  have HY : Hid (Own 5 1 w n0 ba bc s.bt.length (s.bt.map u8V)) := hC0.hb
  have HL : Hid (n0 ≤ w.heap.size) := hC0.hn
  have HK : Hid (Kept (Sg n0 g) w w) := Kept.refl _ _
  clear hC0
  obtain ⟨n, hn⟩ : ∃ n, n = b0.length := ⟨_, rfl⟩
  have hbl2 : s.bt.length = n + 1 := by rw [hbt, hn]; simp
  have hbm : s.bt.map u8V = b0.map u8V ++ [u8V x] := by rw [hbt]; simp
  obtain ⟨bb, hbb⟩ := HY.out.some_of (by rw [hbl2]; omega)
  subst hbb
  rw [hbl2] at HB HY
  rw [hbm] at HY
  have HBt : Hid (s.bt = b0 ++ [x]) := hbt
  have HN : Hid (n = b0.length) := hn
  have HI : Hid (i < l.length ∧ l.length ≤ 1000000000000 ∧ n + 1 ≤ 1000000000000) := ⟨hi, hl, by rw [← hbl2]; exact hbl⟩
  have HR : Hid (0 ≤ r ∧ r ≤ 2147483647) := hr
  have HLst : Hid ((b0.map u8V ++ [u8V x])[0 + n * 1]? = some (u8V x)) := by show _ = _; rw [hn]; simp
  clear hi hl hr hbt hbl hbl2 hbm hn
  go_enter Try.func17, Try.ntmps17
  go_upto_region 0 with fail
  refine WL.start ?_
  refine tK (.pointer (some ⟨g, 0, none⟩)) ?_
  try simp only [pA, pB, p1, p2, p3]
  refine tK (.pointer (some ⟨g, 0, none⟩)) ?_
  try simp only [pA, pB, p1, p2, p3]
  refine tK (.pointer (some ⟨g, 4, none⟩)) ?_
  try simp only [pA, pB, p1, p2, p3]
  refine tW (.slice (some ⟨bb, 0, none⟩) (n + 1) bc) (exec_load 30 _ rfl ⟨g, 4, none⟩ (by kernel_rfl) (.slice (some ⟨bb, 0, none⟩) (n + 1) bc) (load_one (HB.out.cell 4) U30 rfl)) ?_
  try simp only [pA, pB, p1, p2, p3]
  refine tK (.int .i64 (((n + 1) : Nat) : Int)) ?_
  try simp only [pA, pB, p1, p2, p3]
  refine tW (.int .i64 (n : Int)) (exec_bin .sub 3 _ _ _ rfl (.int .i64 (((n + 1) : Nat) : Int)) (.int .i64 1) (.int .i64 (n : Int)) (by kernel_rfl) (by kernel_rfl) (by kernel_rfl) (b_sub1 n (by have := HI.out; omega) _)) ?_
  try simp only [pA, pB, p1, p2, p3]
  refine tK (.int .i64 (n : Int)) ?_
  try simp only [pA, pB, p1, p2, p3]
  refine WL.nil ?_
  try simp only [pA, pB, p1, p2, p3]
  go_upto_region 1 with fail
  refine WL.start ?_
  refine tK (.int .i32 r) ?_
  try simp only [pA, pB, p1, p2, p3]
  refine wp_callW 23 #[.int .i32 r] (by kernel_rfl) _ (digitOf_any _ HR.out w) (by kernel_rfl) ?_
  rintro e wq ⟨rfl, hwq⟩
  rw [hwq]
  clear hwq wq
  refine ⟨.tuple #[.int .u8 h, .bool true], by rw [hx.out]; rfl, ?_⟩
  try simp only [pA, pB, p1, p2, p3]
  refine tK (.tuple #[.int .u8 h, .bool true]) ?_
  try simp only [pA, pB, p1, p2, p3]
  refine tK (.int .u8 h) ?_
  try simp only [pA, pB, p1, p2, p3]
  refine tK (.bool true) ?_
  try simp only [pA, pB, p1, p2, p3]
  refine tK (.int .u8 h) ?_
  try simp only [pA, pB, p1, p2, p3]
  refine tK (.bool true) ?_
  try simp only [pA, pB, p1, p2, p3]
  refine WL.nil ?_
  try simp only [pA, pB, p1, p2, p3]
  go_upto_region 4 with fail
  refine WL.start ?_
  refine tK (.bool true) ?_
  try simp only [pA, pB, p1, p2, p3]
  refine tK (.bool false) ?_
  try simp only [pA, pB, p1, p2, p3]
  refine tK (.bool false) ?_
  try simp only [pA, pB, p1, p2, p3]
  refine WL.nil ?_
  try simp only [pA, pB, p1, p2, p3]
  go_upto_region 6 with fail
  refine WL.start ?_
  refine tK (.pointer (some ⟨g, 0, none⟩)) ?_
  try simp only [pA, pB, p1, p2, p3]
  refine tK (.pointer (some ⟨g, 0, none⟩)) ?_
  try simp only [pA, pB, p1, p2, p3]
  refine tK (.pointer (some ⟨g, 2, none⟩)) ?_
  try simp only [pA, pB, p1, p2, p3]
  refine tW (.int .i64 (s.pl : Int)) (exec_load 38 _ rfl ⟨g, 2, none⟩ (by kernel_rfl) (.int .i64 (s.pl : Int)) (load_one (HB.out.cell 2) U38 rfl)) ?_
  try simp only [pA, pB, p1, p2, p3]
  refine tW (.bool true) (exec_bin .eql 38 _ _ _ rfl (.int .i64 (s.pl : Int)) (.int .i64 4) (.bool true) (by kernel_rfl) (by kernel_rfl) (by kernel_rfl) (by rw [b_eq38, hp4])) ?_
  try simp only [pA, pB, p1, p2, p3]
  refine tK (.bool true) ?_
  try simp only [pA, pB, p1, p2, p3]
  refine WL.nil ?_
  try simp only [pA, pB, p1, p2, p3]
  go_upto_region 7 with fail
  refine WL.start ?_
  refine tK (.pointer (some ⟨g, 0, none⟩)) ?_
  try simp only [pA, pB, p1, p2, p3]
  refine tK (.pointer (some ⟨g, 0, none⟩)) ?_
  try simp only [pA, pB, p1, p2, p3]
  refine tK (.pointer (some ⟨g, 0, none⟩)) ?_
  try simp only [pA, pB, p1, p2, p3]
  refine tK (.pointer (some ⟨g, 4, none⟩)) ?_
  try simp only [pA, pB, p1, p2, p3]
  refine tW (.slice (some ⟨bb, 0, none⟩) (n + 1) bc) (exec_load 30 _ rfl ⟨g, 4, none⟩ (by kernel_rfl) (.slice (some ⟨bb, 0, none⟩) (n + 1) bc) (load_one (HB.out.cell 4) U30 rfl)) ?_
  try simp only [pA, pB, p1, p2, p3]
  refine tK (.int .i64 (n : Int)) ?_
  try simp only [pA, pB, p1, p2, p3]
  refine tK (.int .u8 h) ?_
  try simp only [pA, pB, p1, p2, p3]
  refine tW (.int .u8 (16 * h)) (exec_bin .shl 5 _ _ _ rfl (.int .u8 h) (.int .u64 4) (.int .u8 (16 * h)) (by kernel_rfl) (by kernel_rfl) (by kernel_rfl) (b_shl4 h HH.out _)) ?_
  try simp only [pA, pB, p1, p2, p3]
  refine tK (.pointer (some ⟨g, 0, none⟩)) ?_
  try simp only [pA, pB, p1, p2, p3]
  refine tK (.pointer (some ⟨g, 2, none⟩)) ?_
  try simp only [pA, pB, p1, p2, p3]
  have hst : (storeVar 38 ⟨g, 2, none⟩ (.int .i64 5)).run Try.prog w = .ok () (w.setRow g #[.string (bs l), .slice wa s.ws.length wc, .int .i64 5, .int .i64 (s.fr : Int), .slice (some ⟨bb, 0, none⟩) (n + 1) bc]) := run_store_to (cur := [.string (bs l), .slice wa s.ws.length wc, .int .i64 (s.pl : Int), .int .i64 (s.fr : Int), .slice (some ⟨bb, 0, none⟩) (n + 1) bc]) (vs := [.int .i64 5]) (new := [.string (bs l), .slice wa s.ws.length wc, .int .i64 5, .int .i64 (s.fr : Int), .slice (some ⟨bb, 0, none⟩) (n + 1) bc]) HB.out (by kernel_rfl) S38 (Nat.le_of_ble_eq_true (by kernel_rfl)) (by simp [Value.oneCell', strV, u8V]) (by kernel_rfl)
  have HW : Hid (Own 9 1 (w.setRow g #[.string (bs l), .slice wa s.ws.length wc, .int .i64 5, .int .i64 (s.fr : Int), .slice (some ⟨bb, 0, none⟩) (n + 1) bc]) n0 wa wc s.ws.length (s.ws.map strV)) := HW.out.kept (Kept.setRow _ _ _) (HW.out.notBox HB.out (by decide))
  have HY : Hid (Own 5 1 (w.setRow g #[.string (bs l), .slice wa s.ws.length wc, .int .i64 5, .int .i64 (s.fr : Int), .slice (some ⟨bb, 0, none⟩) (n + 1) bc]) n0 (some ⟨bb, 0, none⟩) bc (n + 1) (b0.map u8V ++ [u8V x])) := HY.out.kept (Kept.setRow _ _ _) (HY.out.notBox HB.out (by decide))
  have HK : Hid (Kept (Sg n0 g) w (w.setRow g #[.string (bs l), .slice wa s.ws.length wc, .int .i64 5, .int .i64 (s.fr : Int), .slice (some ⟨bb, 0, none⟩) (n + 1) bc])) := HK.out.inRow (S := Sg n0 g) (Or.inl rfl) _
  have HB : Hid (Box (w.setRow g #[.string (bs l), .slice wa s.ws.length wc, .int .i64 5, .int .i64 (s.fr : Int), .slice (some ⟨bb, 0, none⟩) (n + 1) bc]) g 40 #[.string (bs l), .slice wa s.ws.length wc, .int .i64 5, .int .i64 (s.fr : Int), .slice (some ⟨bb, 0, none⟩) (n + 1) bc]) := HB.out.setRow _
  refine wp_storeW 38 _ _ rfl ⟨g, 2, none⟩ (.int .i64 5) (by kernel_rfl) (by kernel_rfl) (w.setRow g #[.string (bs l), .slice wa s.ws.length wc, .int .i64 5, .int .i64 (s.fr : Int), .slice (some ⟨bb, 0, none⟩) (n + 1) bc]) hst (by kernel_rfl) ?_
  try simp only [pA, pB, p1, p2, p3]
  clear hst
  generalize w.setRow g #[.string (bs l), .slice wa s.ws.length wc, .int .i64 5, .int .i64 (s.fr : Int), .slice (some ⟨bb, 0, none⟩) (n + 1) bc] = wk1 at HW HY HK HB ⊢
  refine tW (.pointer (some ⟨bb, 0 + n * 1, none⟩)) (exec_ixA 30 1 E30 F30 _ _ rfl bb 0 (n + 1) bc n (by kernel_rfl) (by kernel_rfl) (by omega)) ?_
  try simp only [pA, pB, p1, p2, p3]
  obtain ⟨cs_2, hst, hset⟩ := HY.out.set1 (i := 0 + n * 1) (g := bb) (by omega) rfl (v := .int .u8 (16 * h)) rfl rfl S5
  refine wp_storeW 5 _ _ rfl ⟨bb, 0 + n * 1, none⟩ (.int .u8 (16 * h)) (by kernel_rfl) (by kernel_rfl) (wk1.setRow bb cs_2) hst (by kernel_rfl) ?_
  try simp only [pA, pB, p1, p2, p3]
  have HW : Hid (Own 9 1 (wk1.setRow bb cs_2) n0 wa wc s.ws.length (s.ws.map strV)) := HW.out.kept (Kept.setRow _ _ _) (fun k h e => own_apart HW.out HY.out (by decide) k h ⟨_, rfl, (show k = bb from e).symm⟩)
  have HB : Hid (Box (wk1.setRow bb cs_2) g 40 #[.string (bs l), .slice wa s.ws.length wc, .int .i64 5, .int .i64 (s.fr : Int), .slice (some ⟨bb, 0, none⟩) (n + 1) bc]) := HB.out.kept (Kept.setRow _ _ _) (fun e => HY.out.offBox HB.out (by decide) ⟨_, rfl, (show g = bb from e).symm⟩)
  have HK : Hid (Kept (Sg n0 g) w (wk1.setRow bb cs_2)) := HK.out.inRow (S := Sg n0 g) (Or.inr (HY.out.base ⟨_, rfl, rfl⟩)) _
  have HY : Hid (Own 5 1 (wk1.setRow bb cs_2) n0 (some ⟨bb, 0, none⟩) bc (n + 1) ((b0.map u8V ++ [u8V x]).set (0 + n * 1) (.int .u8 (16 * h)))) := hset
  clear hst hset
  generalize wk1.setRow bb cs_2 = wk3 at HW HY HK HB ⊢
  refine WL.nil ?_
  try simp only [pA, pB, p1, p2, p3]
  go_wp2
  go_end0
  rw [HC.out]
  have hq := HN.out
  have hb := HBt.out
  have hh := HS.out
  exact ⟨rfl, by rw [hh]; exact CutA.of _ HB.out HW.out HY.out (Nat.le_trans HL.out HK.out.size) (by simp) (by simp) (by simp) (by simp) (by simp [hb, hq, setLast]) (by have h1 := HH.out; skip; simp [hb, hq, setLast, u8V]; omega), HK.out⟩
set_option maxRecDepth 100000 in
set_option maxHeartbeats 4000000 in
theorem dig_l (n0 g : Nat) (l : List UInt8) (s : Cs) (i : Nat) (r : Int) (w : World) (hcut : CutA n0 w g l s) (hi : i < l.length) (hl : l.length ≤ 1000000000000) (hr : 0 ≤ r ∧ r ≤ 2147483647) (b0 : List UInt8) (x : UInt8) (hbt : s.bt = b0 ++ [x]) (hbl : s.bt.length ≤ 1000000000000) (h : Int) (hx : hexD r = some h) (hp : s.pl ≠ 4) (dd : Int) (hd : 0 ≤ dd ∧ dd ≤ 15) (hxd : (x.toNat : Int) = 16 * dd) : Calls Try.prog 17 #[.pointer (some ⟨g, 0, none⟩), .int .i64 (i : Int), .int .i32 r] w (fun e w' => e = .returned (.tuple #[]) ∧ CutA n0 w' g l (digS s i r) ∧ Kept (Sg n0 g) w w') := by
  obtain ⟨C, hC⟩ : ∃ C : Ending → World → Prop, C = (fun e w' => e = .returned (.tuple #[]) ∧ CutA n0 w' g l (digS s i r) ∧ Kept (Sg n0 g) w w') := ⟨_, rfl⟩
  have HC : Hid (C = (fun e w' => e = .returned (.tuple #[]) ∧ CutA n0 w' g l (digS s i r) ∧ Kept (Sg n0 g) w w')) := hC
  rw [← hC]
  clear hC
  have HH : Hid (0 ≤ h ∧ h ≤ 15) := hexD_le hx
  have HD : Hid (0 ≤ dd ∧ dd ≤ 15) := hd
  have HX5 : Hid ((x.toNat : Int) = 16 * dd) := hxd
  have hp4 : ((s.pl : Int) == 4) = false := by simp; omega
  have HS : Hid (digS s i r = { s with pl := 2, fr := i + 1, bt := setLast s.bt (UInt8.ofNat (((s.bt.getLastD 0).toNat : Int) + h).toNat) }) := by show _ = _; unfold digS; rw [hx]; simp [hp]
  have hx : Hid (hexD r = some h) := hx
  clear hp hd hxd
  obtain ⟨wa, wc, ba, bc, hC0⟩ := hcut
  have HB : Hid (Box w g 40 #[.string (bs l), .slice wa s.ws.length wc, .int .i64 (s.pl : Int), .int .i64 (s.fr : Int), .slice ba s.bt.length bc]) := hC0.box
  have HW : Hid (Own 9 1 w n0 wa wc s.ws.length (s.ws.map strV)) := hC0.hw
  have HY : Hid (Own 5 1 w n0 ba bc s.bt.length (s.bt.map u8V)) := hC0.hb
  have HL : Hid (n0 ≤ w.heap.size) := hC0.hn
  have HK : Hid (Kept (Sg n0 g) w w) := Kept.refl _ _
  clear hC0
  obtain ⟨n, hn⟩ : ∃ n, n = b0.length := ⟨_, rfl⟩
  have hbl2 : s.bt.length = n + 1 := by rw [hbt, hn]; simp
  have hbm : s.bt.map u8V = b0.map u8V ++ [u8V x] := by rw [hbt]; simp
  obtain ⟨bb, hbb⟩ := HY.out.some_of (by rw [hbl2]; omega)
  subst hbb
  rw [hbl2] at HB HY
  rw [hbm] at HY
  have HBt : Hid (s.bt = b0 ++ [x]) := hbt
  have HN : Hid (n = b0.length) := hn
  have HI : Hid (i < l.length ∧ l.length ≤ 1000000000000 ∧ n + 1 ≤ 1000000000000) := ⟨hi, hl, by rw [← hbl2]; exact hbl⟩
  have HR : Hid (0 ≤ r ∧ r ≤ 2147483647) := hr
  have HLst : Hid ((b0.map u8V ++ [u8V x])[0 + n * 1]? = some (u8V x)) := by show _ = _; rw [hn]; simp
  clear hi hl hr hbt hbl hbl2 hbm hn
  go_enter Try.func17, Try.ntmps17
  go_upto_region 0 with fail
  refine WL.start ?_
  refine tK (.pointer (some ⟨g, 0, none⟩)) ?_
  try simp only [pA, pB, p1, p2, p3]
  refine tK (.pointer (some ⟨g, 0, none⟩)) ?_
  try simp only [pA, pB, p1, p2, p3]
  refine tK (.pointer (some ⟨g, 4, none⟩)) ?_
  try simp only [pA, pB, p1, p2, p3]
  refine tW (.slice (some ⟨bb, 0, none⟩) (n + 1) bc) (exec_load 30 _ rfl ⟨g, 4, none⟩ (by kernel_rfl) (.slice (some ⟨bb, 0, none⟩) (n + 1) bc) (load_one (HB.out.cell 4) U30 rfl)) ?_
  try simp only [pA, pB, p1, p2, p3]
  refine tK (.int .i64 (((n + 1) : Nat) : Int)) ?_
  try simp only [pA, pB, p1, p2, p3]
  refine tW (.int .i64 (n : Int)) (exec_bin .sub 3 _ _ _ rfl (.int .i64 (((n + 1) : Nat) : Int)) (.int .i64 1) (.int .i64 (n : Int)) (by kernel_rfl) (by kernel_rfl) (by kernel_rfl) (b_sub1 n (by have := HI.out; omega) _)) ?_
  try simp only [pA, pB, p1, p2, p3]
  refine tK (.int .i64 (n : Int)) ?_
  try simp only [pA, pB, p1, p2, p3]
  refine WL.nil ?_
  try simp only [pA, pB, p1, p2, p3]
  go_upto_region 1 with fail
  refine WL.start ?_
  refine tK (.int .i32 r) ?_
  try simp only [pA, pB, p1, p2, p3]
  refine wp_callW 23 #[.int .i32 r] (by kernel_rfl) _ (digitOf_any _ HR.out w) (by kernel_rfl) ?_
  rintro e wq ⟨rfl, hwq⟩
  rw [hwq]
  clear hwq wq
  refine ⟨.tuple #[.int .u8 h, .bool true], by rw [hx.out]; rfl, ?_⟩
  try simp only [pA, pB, p1, p2, p3]
  refine tK (.tuple #[.int .u8 h, .bool true]) ?_
  try simp only [pA, pB, p1, p2, p3]
  refine tK (.int .u8 h) ?_
  try simp only [pA, pB, p1, p2, p3]
  refine tK (.bool true) ?_
  try simp only [pA, pB, p1, p2, p3]
  refine tK (.int .u8 h) ?_
  try simp only [pA, pB, p1, p2, p3]
  refine tK (.bool true) ?_
  try simp only [pA, pB, p1, p2, p3]
  refine WL.nil ?_
  try simp only [pA, pB, p1, p2, p3]
  go_upto_region 4 with fail
  refine WL.start ?_
  refine tK (.bool true) ?_
  try simp only [pA, pB, p1, p2, p3]
  refine tK (.bool false) ?_
  try simp only [pA, pB, p1, p2, p3]
  refine tK (.bool false) ?_
  try simp only [pA, pB, p1, p2, p3]
  refine WL.nil ?_
  try simp only [pA, pB, p1, p2, p3]
  go_upto_region 6 with fail
  refine WL.start ?_
  refine tK (.pointer (some ⟨g, 0, none⟩)) ?_
  try simp only [pA, pB, p1, p2, p3]
  refine tK (.pointer (some ⟨g, 0, none⟩)) ?_
  try simp only [pA, pB, p1, p2, p3]
  refine tK (.pointer (some ⟨g, 2, none⟩)) ?_
  try simp only [pA, pB, p1, p2, p3]
  refine tW (.int .i64 (s.pl : Int)) (exec_load 38 _ rfl ⟨g, 2, none⟩ (by kernel_rfl) (.int .i64 (s.pl : Int)) (load_one (HB.out.cell 2) U38 rfl)) ?_
  try simp only [pA, pB, p1, p2, p3]
  refine tW (.bool false) (exec_bin .eql 38 _ _ _ rfl (.int .i64 (s.pl : Int)) (.int .i64 4) (.bool false) (by kernel_rfl) (by kernel_rfl) (by kernel_rfl) (by rw [b_eq38, hp4])) ?_
  try simp only [pA, pB, p1, p2, p3]
  refine tK (.bool false) ?_
  try simp only [pA, pB, p1, p2, p3]
  refine WL.nil ?_
  try simp only [pA, pB, p1, p2, p3]
  go_upto_region 2 with fail
  refine WL.start ?_
  refine tK (.pointer (some ⟨g, 0, none⟩)) ?_
  try simp only [pA, pB, p1, p2, p3]
  refine tK (.pointer (some ⟨g, 0, none⟩)) ?_
  try simp only [pA, pB, p1, p2, p3]
  refine tK (.int .i64 (i : Int)) ?_
  try simp only [pA, pB, p1, p2, p3]
  refine tW (.int .i64 ((i + 1 : Nat) : Int)) (exec_bin .add 3 _ _ _ rfl (.int .i64 (i : Int)) (.int .i64 1) (.int .i64 ((i + 1 : Nat) : Int)) (by kernel_rfl) (by kernel_rfl) (by kernel_rfl) (b_add1 i (by have := HI.out; omega) _)) ?_
  try simp only [pA, pB, p1, p2, p3]
  refine tK (.pointer (some ⟨g, 0, none⟩)) ?_
  try simp only [pA, pB, p1, p2, p3]
  refine tK (.pointer (some ⟨g, 2, none⟩)) ?_
  try simp only [pA, pB, p1, p2, p3]
  have hst : (storeVar 38 ⟨g, 2, none⟩ (.int .i64 2)).run Try.prog w = .ok () (w.setRow g #[.string (bs l), .slice wa s.ws.length wc, .int .i64 2, .int .i64 (s.fr : Int), .slice (some ⟨bb, 0, none⟩) (n + 1) bc]) := run_store_to (cur := [.string (bs l), .slice wa s.ws.length wc, .int .i64 (s.pl : Int), .int .i64 (s.fr : Int), .slice (some ⟨bb, 0, none⟩) (n + 1) bc]) (vs := [.int .i64 2]) (new := [.string (bs l), .slice wa s.ws.length wc, .int .i64 2, .int .i64 (s.fr : Int), .slice (some ⟨bb, 0, none⟩) (n + 1) bc]) HB.out (by kernel_rfl) S38 (Nat.le_of_ble_eq_true (by kernel_rfl)) (by simp [Value.oneCell', strV, u8V]) (by kernel_rfl)
  have HW : Hid (Own 9 1 (w.setRow g #[.string (bs l), .slice wa s.ws.length wc, .int .i64 2, .int .i64 (s.fr : Int), .slice (some ⟨bb, 0, none⟩) (n + 1) bc]) n0 wa wc s.ws.length (s.ws.map strV)) := HW.out.kept (Kept.setRow _ _ _) (HW.out.notBox HB.out (by decide))
  have HY : Hid (Own 5 1 (w.setRow g #[.string (bs l), .slice wa s.ws.length wc, .int .i64 2, .int .i64 (s.fr : Int), .slice (some ⟨bb, 0, none⟩) (n + 1) bc]) n0 (some ⟨bb, 0, none⟩) bc (n + 1) (b0.map u8V ++ [u8V x])) := HY.out.kept (Kept.setRow _ _ _) (HY.out.notBox HB.out (by decide))
  have HK : Hid (Kept (Sg n0 g) w (w.setRow g #[.string (bs l), .slice wa s.ws.length wc, .int .i64 2, .int .i64 (s.fr : Int), .slice (some ⟨bb, 0, none⟩) (n + 1) bc])) := HK.out.inRow (S := Sg n0 g) (Or.inl rfl) _
  have HB : Hid (Box (w.setRow g #[.string (bs l), .slice wa s.ws.length wc, .int .i64 2, .int .i64 (s.fr : Int), .slice (some ⟨bb, 0, none⟩) (n + 1) bc]) g 40 #[.string (bs l), .slice wa s.ws.length wc, .int .i64 2, .int .i64 (s.fr : Int), .slice (some ⟨bb, 0, none⟩) (n + 1) bc]) := HB.out.setRow _
  refine wp_storeW 38 _ _ rfl ⟨g, 2, none⟩ (.int .i64 2) (by kernel_rfl) (by kernel_rfl) (w.setRow g #[.string (bs l), .slice wa s.ws.length wc, .int .i64 2, .int .i64 (s.fr : Int), .slice (some ⟨bb, 0, none⟩) (n + 1) bc]) hst (by kernel_rfl) ?_
  try simp only [pA, pB, p1, p2, p3]
  clear hst
  generalize w.setRow g #[.string (bs l), .slice wa s.ws.length wc, .int .i64 2, .int .i64 (s.fr : Int), .slice (some ⟨bb, 0, none⟩) (n + 1) bc] = wk1 at HW HY HK HB ⊢
  refine tK (.pointer (some ⟨g, 0, none⟩)) ?_
  try simp only [pA, pB, p1, p2, p3]
  refine tK (.pointer (some ⟨g, 3, none⟩)) ?_
  try simp only [pA, pB, p1, p2, p3]
  have hst : (storeVar 3 ⟨g, 3, none⟩ (.int .i64 ((i + 1 : Nat) : Int))).run Try.prog wk1 = .ok () (wk1.setRow g #[.string (bs l), .slice wa s.ws.length wc, .int .i64 2, .int .i64 ((i + 1 : Nat) : Int), .slice (some ⟨bb, 0, none⟩) (n + 1) bc]) := run_store_to (cur := [.string (bs l), .slice wa s.ws.length wc, .int .i64 2, .int .i64 (s.fr : Int), .slice (some ⟨bb, 0, none⟩) (n + 1) bc]) (vs := [.int .i64 ((i + 1 : Nat) : Int)]) (new := [.string (bs l), .slice wa s.ws.length wc, .int .i64 2, .int .i64 ((i + 1 : Nat) : Int), .slice (some ⟨bb, 0, none⟩) (n + 1) bc]) HB.out (by kernel_rfl) S3 (Nat.le_of_ble_eq_true (by kernel_rfl)) (by simp [Value.oneCell', strV, u8V]) (by kernel_rfl)
  have HW : Hid (Own 9 1 (wk1.setRow g #[.string (bs l), .slice wa s.ws.length wc, .int .i64 2, .int .i64 ((i + 1 : Nat) : Int), .slice (some ⟨bb, 0, none⟩) (n + 1) bc]) n0 wa wc s.ws.length (s.ws.map strV)) := HW.out.kept (Kept.setRow _ _ _) (HW.out.notBox HB.out (by decide))
  have HY : Hid (Own 5 1 (wk1.setRow g #[.string (bs l), .slice wa s.ws.length wc, .int .i64 2, .int .i64 ((i + 1 : Nat) : Int), .slice (some ⟨bb, 0, none⟩) (n + 1) bc]) n0 (some ⟨bb, 0, none⟩) bc (n + 1) (b0.map u8V ++ [u8V x])) := HY.out.kept (Kept.setRow _ _ _) (HY.out.notBox HB.out (by decide))
  have HK : Hid (Kept (Sg n0 g) w (wk1.setRow g #[.string (bs l), .slice wa s.ws.length wc, .int .i64 2, .int .i64 ((i + 1 : Nat) : Int), .slice (some ⟨bb, 0, none⟩) (n + 1) bc])) := HK.out.inRow (S := Sg n0 g) (Or.inl rfl) _
  have HB : Hid (Box (wk1.setRow g #[.string (bs l), .slice wa s.ws.length wc, .int .i64 2, .int .i64 ((i + 1 : Nat) : Int), .slice (some ⟨bb, 0, none⟩) (n + 1) bc]) g 40 #[.string (bs l), .slice wa s.ws.length wc, .int .i64 2, .int .i64 ((i + 1 : Nat) : Int), .slice (some ⟨bb, 0, none⟩) (n + 1) bc]) := HB.out.setRow _
  refine wp_storeW 3 _ _ rfl ⟨g, 3, none⟩ (.int .i64 ((i + 1 : Nat) : Int)) (by kernel_rfl) (by kernel_rfl) (wk1.setRow g #[.string (bs l), .slice wa s.ws.length wc, .int .i64 2, .int .i64 ((i + 1 : Nat) : Int), .slice (some ⟨bb, 0, none⟩) (n + 1) bc]) hst (by kernel_rfl) ?_
  try simp only [pA, pB, p1, p2, p3]
  clear hst
  generalize wk1.setRow g #[.string (bs l), .slice wa s.ws.length wc, .int .i64 2, .int .i64 ((i + 1 : Nat) : Int), .slice (some ⟨bb, 0, none⟩) (n + 1) bc] = wk2 at HW HY HK HB ⊢
  refine WL.nil ?_
  try simp only [pA, pB, p1, p2, p3]
  go_upto_region 3 with fail
  refine WL.start ?_
  refine tK (.pointer (some ⟨g, 0, none⟩)) ?_
  try simp only [pA, pB, p1, p2, p3]
  refine tK (.pointer (some ⟨g, 0, none⟩)) ?_
  try simp only [pA, pB, p1, p2, p3]
  refine tK (.pointer (some ⟨g, 4, none⟩)) ?_
  try simp only [pA, pB, p1, p2, p3]
  refine tW (.slice (some ⟨bb, 0, none⟩) (n + 1) bc) (exec_load 30 _ rfl ⟨g, 4, none⟩ (by kernel_rfl) (.slice (some ⟨bb, 0, none⟩) (n + 1) bc) (load_one (HB.out.cell 4) U30 rfl)) ?_
  try simp only [pA, pB, p1, p2, p3]
  refine tK (.int .i64 (n : Int)) ?_
  try simp only [pA, pB, p1, p2, p3]
  refine tW (.pointer (some ⟨bb, 0 + n * 1, none⟩)) (exec_ixA 30 1 E30 F30 _ _ rfl bb 0 (n + 1) bc n (by kernel_rfl) (by kernel_rfl) (by omega)) ?_
  try simp only [pA, pB, p1, p2, p3]
  refine tW (.int .u8 (x.toNat : Int)) (exec_load 5 _ rfl ⟨bb, 0 + n * 1, none⟩ (by kernel_rfl) (.int .u8 (x.toNat : Int)) (load_one (HY.out.cellAt (HLst.out)) U5 rfl)) ?_
  try simp only [pA, pB, p1, p2, p3]
  refine tK (.int .u8 h) ?_
  try simp only [pA, pB, p1, p2, p3]
  refine tW (.int .u8 (16 * dd + h)) (exec_bin .or 5 _ _ _ rfl (.int .u8 (x.toNat : Int)) (.int .u8 h) (.int .u8 (16 * dd + h)) (by kernel_rfl) (by kernel_rfl) (by kernel_rfl) ((by rw [HX5.out]; exact b_orD dd h HD.out HH.out _))) ?_
  try simp only [pA, pB, p1, p2, p3]
  refine tW (.pointer (some ⟨bb, 0 + n * 1, none⟩)) (exec_ixA 30 1 E30 F30 _ _ rfl bb 0 (n + 1) bc n (by kernel_rfl) (by kernel_rfl) (by omega)) ?_
  try simp only [pA, pB, p1, p2, p3]
  obtain ⟨cs_3, hst, hset⟩ := HY.out.set1 (i := 0 + n * 1) (g := bb) (by omega) rfl (v := .int .u8 (16 * dd + h)) rfl rfl S5
  refine wp_storeW 5 _ _ rfl ⟨bb, 0 + n * 1, none⟩ (.int .u8 (16 * dd + h)) (by kernel_rfl) (by kernel_rfl) (wk2.setRow bb cs_3) hst (by kernel_rfl) ?_
  try simp only [pA, pB, p1, p2, p3]
  have HW : Hid (Own 9 1 (wk2.setRow bb cs_3) n0 wa wc s.ws.length (s.ws.map strV)) := HW.out.kept (Kept.setRow _ _ _) (fun k h e => own_apart HW.out HY.out (by decide) k h ⟨_, rfl, (show k = bb from e).symm⟩)
  have HB : Hid (Box (wk2.setRow bb cs_3) g 40 #[.string (bs l), .slice wa s.ws.length wc, .int .i64 2, .int .i64 ((i + 1 : Nat) : Int), .slice (some ⟨bb, 0, none⟩) (n + 1) bc]) := HB.out.kept (Kept.setRow _ _ _) (fun e => HY.out.offBox HB.out (by decide) ⟨_, rfl, (show g = bb from e).symm⟩)
  have HK : Hid (Kept (Sg n0 g) w (wk2.setRow bb cs_3)) := HK.out.inRow (S := Sg n0 g) (Or.inr (HY.out.base ⟨_, rfl, rfl⟩)) _
  have HY : Hid (Own 5 1 (wk2.setRow bb cs_3) n0 (some ⟨bb, 0, none⟩) bc (n + 1) ((b0.map u8V ++ [u8V x]).set (0 + n * 1) (.int .u8 (16 * dd + h)))) := hset
  clear hst hset
  generalize wk2.setRow bb cs_3 = wk4 at HW HY HK HB ⊢
  refine WL.nil ?_
  try simp only [pA, pB, p1, p2, p3]
  go_wp2
  go_end0
  rw [HC.out]
  have hq := HN.out
  have hb := HBt.out
  have hh := HS.out
  exact ⟨rfl, by rw [hh]; exact CutA.of _ HB.out HW.out HY.out (Nat.le_trans HL.out HK.out.size) (by simp) (by simp) (by simp) (by simp) (by simp [hb, hq, setLast]) (by have h1 := HH.out; have h2 := HD.out; have h3 := HX5.out; simp [hb, hq, setLast, u8V]; omega), HK.out⟩

end Go.Proofs.Ytgnfeegnhdbnkaa
