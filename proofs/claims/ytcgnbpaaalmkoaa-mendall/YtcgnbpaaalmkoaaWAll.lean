import Derived.Test.YtcgnbpaaalmkoaaHc
namespace Go.Proofs.Ytcgnbpaaalmkoaa
open Go.RowKit
set_option linter.unusedVariables false
set_option linter.unusedSimpArgs false

theorem HoI.wl {u : Int} {m : Nat} {a : Hd} {ae : List En} {ap : List Pl} (H : HoI u m a ae ap) (h1 : u ≤ 1000) (h2 : m ≤ 1000) : Wl a [] ae [] ap :=
  ⟨H.may, H.cm, by rw [H.up]; exact H.bk, .inl ⟨by rw [H.b]; rfl, rfl⟩, by rw [H.up]; omega, fun x hx => by have := H.hi x hx; omega⟩
theorem Wl.ops {a : Hd} {ab : List Int} {ae : List En} {al : List La} {ap : List Pl} (H : Wl a ab ae al ap) : OpsOk a.k.up ap := fun x hx =>
  ⟨fun e => by rw [H.cm x hx e]; rfl, rise_low ap _ _ H.may.rise (Int.le_refl _) x hx⟩
set_option maxRecDepth 100000 in
set_option maxHeartbeats 4000000 in
theorem allWalk (sv : Int) (pa oa : Option Addr) (pn pc on oc : Nat) (ps os : List Int) (w : World) (hps : Nums .i64 w pa ps) (hpl : ps.length = pn) (hpn : pn ≤ 100000000000000) (hos : Nums .i64 w oa os) (hol : os.length = on) (hon : on ≤ 100000000000000) : Calls Try.prog 8 #[.int .i64 sv, .slice pa pn pc, .slice oa on oc] w (fun e w' => e = .returned (.bool true) ∧ Kept No w w') := by
  obtain ⟨C, hC⟩ : ∃ C : Ending → World → Prop, C = (fun e w' => e = .returned (.bool true) ∧ Kept No w w') := ⟨_, rfl⟩
  have HC : Hid (C = (fun e w' => e = .returned (.bool true) ∧ Kept No w w')) := hC
  rw [← hC]
  clear hC
  have HPS : Hid (Nums .i64 w pa ps) := hps
  have HOS : Hid (Nums .i64 w oa os) := hos
  clear hps hos
  have HF : Hid (Fr No w w []) := Fr.start _ _
  go_enter Try.func8, Try.ntmps8
  go_upto_region 0 with fail
  refine WL.start ?_
  refine tK (.bool false) ?_
  try simp only [pA, pB, p1, p2, p3]
  refine WL.nil ?_
  try simp only [pA, pB, p1, p2, p3]
  go_upto_region 1 with fail
  refine WL.start ?_
  refine wp_callW 9 #[] (by kernel_rfl) _ (known_any _) (by kernel_rfl) ?_
  rintro e wk1 ⟨rfl, hk⟩
  have HF : Hid (Fr No w (wk1) []) := HF.out.no hk
  clear hk
  refine ⟨.bool true, rfl, ?_⟩
  try simp only [pA, pB, p1, p2, p3]
  refine tK (.bool false) ?_
  try simp only [pA, pB, p1, p2, p3]
  refine WL.nil ?_
  try simp only [pA, pB, p1, p2, p3]
  go_upto_region 3 with fail
  refine WL.start ?_
  refine tK (.int .i64 sv) ?_
  try simp only [pA, pB, p1, p2, p3]
  refine wp_callW 26 #[.int .i64 sv, .int .i64 4] (by kernel_rfl) _ (rnd_any sv 4 _ (by omega) (by omega)) (by kernel_rfl) ?_
  rintro e wq ⟨r1, hr1, rfl, hwq⟩
  rw [hwq]
  clear hwq wq
  refine ⟨.int .i64 ((r1 : Nat) : Int), rfl, ?_⟩
  try simp only [pA, pB, p1, p2, p3]
  refine tW (.int .i64 (((r1 + 2) : Nat) : Int)) (exec_bin .add 3 _ _ _ rfl (.int .i64 ((r1 : Nat) : Int)) (.int .i64 2) (.int .i64 (((r1 + 2) : Nat) : Int)) (by kernel_rfl) (by kernel_rfl) (by kernel_rfl) (b_addw _ _ _ (by rw [IntKind.wrap_i64]; omega) _)) ?_
  try simp only [pA, pB, p1, p2, p3]
  refine tK (.int .i64 (((r1 + 2) : Nat) : Int)) ?_
  try simp only [pA, pB, p1, p2, p3]
  refine WL.nil ?_
  try simp only [pA, pB, p1, p2, p3]
  have hn2 : 2 ≤ r1 + 2 ∧ r1 + 2 ≤ 5 := by omega
  generalize r1 + 2 = n at hn2 ⊢
  clear hr1
  go_upto_region 4 with fail
  refine WL.start ?_
  refine tW (.agg (Ky.cells ⟨1, 3, 1, 0⟩)) (exec_build 23 _ rfl (Ky.cells ⟨1, 3, 1, 0⟩) (by kernel_rfl)) ?_
  try simp only [pA, pB, p1, p2, p3]
  refine wp_runW (.pointer (some ⟨wk1.heap.size, 0, none⟩)) (wk1.alloc (.cells (Ky.cells kyZ) 23)) (exec_alloc 23 rfl (Ky.cells kyZ) zero23) (by kernel_rfl) ?_
  try simp only [pA, pB, p1, p2, p3]
  have HF : Hid (Fr No w (wk1.alloc (.cells (Ky.cells kyZ) 23)) [(wk1.heap.size, 23, Ky.cells kyZ)]) := HF.out.alloc _ _
  generalize wk1.alloc (.cells (Ky.cells kyZ) 23) = wk3 at HF ⊢
  generalize wk1.heap.size = gk2 at HF ⊢
  refine wp_storeW 23 _ _ rfl ⟨gk2, 0, none⟩ (.agg (Ky.cells ⟨1, 3, 1, 0⟩)) (by kernel_rfl) (by kernel_rfl) (wk3.setRow gk2 (Ky.cells ⟨1, 3, 1, 0⟩)) (run_store_to (cur := Ky.cs kyZ) (vs := Ky.cs ⟨1, 3, 1, 0⟩) (new := Ky.cs ⟨1, 3, 1, 0⟩) (HF.out.box 0 _ _ _ rfl) (by kernel_rfl) Try.size23 (Nat.le_of_ble_eq_true (by kernel_rfl)) (Ky.oneL _) (by kernel_rfl)) (by kernel_rfl) ?_
  try simp only [pA, pB, p1, p2, p3]
  have HF : Hid (Fr No w (wk3.setRow gk2 (Ky.cells ⟨1, 3, 1, 0⟩)) [(gk2, 23, Ky.cells ⟨1, 3, 1, 0⟩)]) := HF.out.set 0 rfl _
  generalize wk3.setRow gk2 (Ky.cells ⟨1, 3, 1, 0⟩) = wk4 at HF ⊢
  refine WL.nil ?_
  try simp only [pA, pB, p1, p2, p3]
  go_upto_region 5 with fail
  refine WL.start ?_
  refine tK (.slice none 0 0) ?_
  try simp only [pA, pB, p1, p2, p3]
  refine WL.nil ?_
  try simp only [pA, pB, p1, p2, p3]
  go_upto_region 6 with fail
  refine WL.start ?_
  refine tK (.int .i64 0) ?_
  try simp only [pA, pB, p1, p2, p3]
  refine WL.nil ?_
  try simp only [pA, pB, p1, p2, p3]
  go_wp2
  go_loopw [9, 10, 11, 12, 13] (fun v9 v10 v11 v12 v13 wr => ∃ (i : Nat) (la : Option Addr) (lc : Nat) (X : Nat → Sv), v9 = .slice la i lc ∧ v10 = .int .i64 ((i : Nat) : Int) ∧ i ≤ n ∧ Hid (Own 35 7 wr w.heap.size la lc i (svL i X)) ∧ Hid (MemS wr i X) ∧ Hid (OffS (At la) i X) ∧ Hid (WlS i X) ∧ Hid (Fr No w wr [(gk2, 23, Ky.cells ⟨1, 3, 1, 0⟩)])) (fun i9 i10 i11 i12 i13 _ => n - (intOf i10).toNat)
  case atStart => exact ⟨0, none, 0, fun _ => ⟨hdZ, [], [], [], []⟩, rfl, by go_num, by omega, Own.nil _ _ _ _, fun j hj => absurd hj (Nat.not_lt_zero _), fun j hj => absurd hj (Nat.not_lt_zero _), fun j hj => absurd hj (Nat.not_lt_zero _), HF⟩
  case round =>
    clear HF
    obtain ⟨i, la, lc, X, rfl, rfl, hi, HO, HM, HOf, HW, HF⟩ := hrel
    by_cases hlt : i < n
    · skip
      have HOs : Hid (Own 35 7 wr w.heap.size la lc i (svL i X)) := HO
      have HMs : Hid (MemS wr i X) := HM
      clear HO HM
      have HK0 : Hid (Kept No wr wr) := Kept.refl _ _
      obtain ⟨s0, hs0⟩ : ∃ n, wr.heap.size = n := ⟨_, rfl⟩
      have HS0 : Hid (wr.heap.size = s0) := hs0
      clear hs0
      go_upto_region 7 with fail
      refine WL.start ?_
      refine tK (.int .i64 ((i : Nat) : Int)) ?_
      try simp only [pA, pB, p1, p2, p3]
      refine tK (.int .i64 ((n : Nat) : Int)) ?_
      try simp only [pA, pB, p1, p2, p3]
      refine tW (.bool true) (exec_bin .lss 3 _ _ _ rfl (.int .i64 ((i : Nat) : Int)) (.int .i64 ((n : Nat) : Int)) (.bool true) (by kernel_rfl) (by kernel_rfl) (by kernel_rfl) (by rw [b_lss, decide_eq_true (by omega)])) ?_
      try simp only [pA, pB, p1, p2, p3]
      refine WL.nil ?_
      try simp only [pA, pB, p1, p2, p3]
      go_upto_region 9 with fail
      refine WL.start ?_
      refine tK (.int .i64 0) ?_
      try simp only [pA, pB, p1, p2, p3]
      refine WL.nil ?_
      try simp only [pA, pB, p1, p2, p3]
      by_cases hip : i < pn
      · skip
        obtain ⟨pb, po, hca, hcz⟩ := HPS.out i (by rw [hpl]; exact hip)
        obtain ⟨z, hz⟩ : ∃ z, z = ps[i]?.getD 0 := ⟨_, rfl⟩
        rw [← hz] at hcz
        have cz : Hid (w.cell? ⟨pb, po + i * 1, none⟩ = some (.int .i64 z)) := by show _ = _; rw [Nat.mul_one]; exact hcz
        have hsl : Hid (Value.slice pa pn pc = .slice (some ⟨pb, po, none⟩) pn pc) := congrArg (fun x => Value.slice x pn pc) hca
        clear hca hcz hz
        go_upto_region 10 with fail
        refine WL.start ?_
        refine tK (.int .i64 ((i : Nat) : Int)) ?_
        try simp only [pA, pB, p1, p2, p3]
        refine tK (.slice pa pn pc) ?_
        try simp only [pA, pB, p1, p2, p3]
        refine tK (.int .i64 ((pn : Nat) : Int)) ?_
        try simp only [pA, pB, p1, p2, p3]
        refine tW (.bool true) (exec_bin .lss 3 _ _ _ rfl (.int .i64 ((i : Nat) : Int)) (.int .i64 ((pn : Nat) : Int)) (.bool true) (by kernel_rfl) (by kernel_rfl) (by kernel_rfl) (by rw [b_lss, decide_eq_true (by omega)])) ?_
        try simp only [pA, pB, p1, p2, p3]
        refine WL.nil ?_
        try simp only [pA, pB, p1, p2, p3]
        go_upto_region 11 with fail
        refine WL.start ?_
        refine tK (.slice pa pn pc) ?_
        try simp only [pA, pB, p1, p2, p3]
        refine tK (.int .i64 ((i : Nat) : Int)) ?_
        try simp only [pA, pB, p1, p2, p3]
        refine tW (.pointer (some ⟨pb, po + i * 1, none⟩)) (exec_ixA 74 1 Try.und74e Try.size74e _ _ rfl pb po pn pc i (Eq.trans (b := .slice pa pn pc) (by kernel_rfl) hsl.out) (by kernel_rfl) hip) ?_
        try simp only [pA, pB, p1, p2, p3]
        refine tW (.int .i64 z) (exec_load 3 _ rfl ⟨pb, po + i * 1, none⟩ (by kernel_rfl) (.int .i64 z) (load_one (HF.out.kept.cell (cz.out) (fun e => e)) Try.und3 rfl)) ?_
        try simp only [pA, pB, p1, p2, p3]
        refine wp_callW 26 #[.int .i64 z, .int .i64 1099511627776] (by kernel_rfl) _ (rnd_big z 1099511627776 _ (by omega) (by omega)) (by kernel_rfl) ?_
        rintro e wq ⟨r2, hr2, rfl, hwq⟩
        rw [hwq]
        clear hwq wq
        refine ⟨.int .i64 ((r2 : Nat) : Int), rfl, ?_⟩
        try simp only [pA, pB, p1, p2, p3]
        refine tK (.int .i64 ((r2 : Nat) : Int)) ?_
        try simp only [pA, pB, p1, p2, p3]
        refine WL.nil ?_
        try simp only [pA, pB, p1, p2, p3]
        go_upto_region 12 with fail
        refine WL.start ?_
        refine tK (.int .i64 ((r2 : Nat) : Int)) ?_
        try simp only [pA, pB, p1, p2, p3]
        refine tW (.int .i64 (((r2 % 7) : Nat) : Int)) (exec_bin .rem 3 _ _ _ rfl (.int .i64 ((r2 : Nat) : Int)) (.int .i64 7) (.int .i64 (((r2 % 7) : Nat) : Int)) (by kernel_rfl) (by kernel_rfl) (by kernel_rfl) (b_remN r2 7 _ rfl (by omega) _)) ?_
        try simp only [pA, pB, p1, p2, p3]
        refine tK (.int .i64 ((r2 : Nat) : Int)) ?_
        try simp only [pA, pB, p1, p2, p3]
        refine tW (.int .i64 (((r2 / 7) : Nat) : Int)) (exec_bin .quo 3 _ _ _ rfl (.int .i64 ((r2 : Nat) : Int)) (.int .i64 7) (.int .i64 (((r2 / 7) : Nat) : Int)) (by kernel_rfl) (by kernel_rfl) (by kernel_rfl) (b_quoN r2 7 _ rfl (by omega) (by omega) _)) ?_
        try simp only [pA, pB, p1, p2, p3]
        refine tW (.int .i64 ((((r2 / 7) % 40) : Nat) : Int)) (exec_bin .rem 3 _ _ _ rfl (.int .i64 (((r2 / 7) : Nat) : Int)) (.int .i64 40) (.int .i64 ((((r2 / 7) % 40) : Nat) : Int)) (by kernel_rfl) (by kernel_rfl) (by kernel_rfl) (b_remN (r2 / 7) 40 _ rfl (by omega) _)) ?_
        try simp only [pA, pB, p1, p2, p3]
        refine tW (.int .i64 ((((r2 % 7) * ((r2 / 7) % 40)) : Nat) : Int)) (exec_bin .mul 3 _ _ _ rfl (.int .i64 (((r2 % 7) : Nat) : Int)) (.int .i64 ((((r2 / 7) % 40) : Nat) : Int)) (.int .i64 ((((r2 % 7) * ((r2 / 7) % 40)) : Nat) : Int)) (by kernel_rfl) (by kernel_rfl) (by kernel_rfl) (b_mulN (r2 % 7) ((r2 / 7) % 40) _ rfl (by have := up_le r2; omega) _)) ?_
        try simp only [pA, pB, p1, p2, p3]
        refine tK (.int .i64 ((r2 : Nat) : Int)) ?_
        try simp only [pA, pB, p1, p2, p3]
        refine tW (.int .i64 (((r2 / 280) : Nat) : Int)) (exec_bin .quo 3 _ _ _ rfl (.int .i64 ((r2 : Nat) : Int)) (.int .i64 280) (.int .i64 (((r2 / 280) : Nat) : Int)) (by kernel_rfl) (by kernel_rfl) (by kernel_rfl) (b_quoN r2 280 _ rfl (by omega) (by omega) _)) ?_
        try simp only [pA, pB, p1, p2, p3]
        refine tW (.int .i64 ((((r2 / 280) % 90) : Nat) : Int)) (exec_bin .rem 3 _ _ _ rfl (.int .i64 (((r2 / 280) : Nat) : Int)) (.int .i64 90) (.int .i64 ((((r2 / 280) % 90) : Nat) : Int)) (by kernel_rfl) (by kernel_rfl) (by kernel_rfl) (b_remN (r2 / 280) 90 _ rfl (by omega) _)) ?_
        try simp only [pA, pB, p1, p2, p3]
        refine tK (.int .i64 ((r2 : Nat) : Int)) ?_
        try simp only [pA, pB, p1, p2, p3]
        refine tW (.int .i64 (((r2 / 25200) : Nat) : Int)) (exec_bin .quo 3 _ _ _ rfl (.int .i64 ((r2 : Nat) : Int)) (.int .i64 25200) (.int .i64 (((r2 / 25200) : Nat) : Int)) (by kernel_rfl) (by kernel_rfl) (by kernel_rfl) (b_quoN r2 25200 _ rfl (by omega) (by omega) _)) ?_
        try simp only [pA, pB, p1, p2, p3]
        refine tK (.int .i64 ((r2 : Nat) : Int)) ?_
        try simp only [pA, pB, p1, p2, p3]
        refine tW (.int .i64 (((r2 / 100000) : Nat) : Int)) (exec_bin .quo 3 _ _ _ rfl (.int .i64 ((r2 : Nat) : Int)) (.int .i64 100000) (.int .i64 (((r2 / 100000) : Nat) : Int)) (by kernel_rfl) (by kernel_rfl) (by kernel_rfl) (b_quoN r2 100000 _ rfl (by omega) (by omega) _)) ?_
        try simp only [pA, pB, p1, p2, p3]
        refine tK (.int .i64 ((r2 : Nat) : Int)) ?_
        try simp only [pA, pB, p1, p2, p3]
        refine tW (.int .i64 (((r2 / 7) : Nat) : Int)) (exec_bin .quo 3 _ _ _ rfl (.int .i64 ((r2 : Nat) : Int)) (.int .i64 7) (.int .i64 (((r2 / 7) : Nat) : Int)) (by kernel_rfl) (by kernel_rfl) (by kernel_rfl) (b_quoN r2 7 _ rfl (by omega) (by omega) _)) ?_
        try simp only [pA, pB, p1, p2, p3]
        refine wp_runW (.slice (some ⟨wr.heap.size, 0, none⟩) 3 3) (wr.alloc (.cells (([.int .i64 (((r2 / 25200) : Nat) : Int), .int .i64 (((r2 / 100000) : Nat) : Int), .int .i64 (((r2 / 7) : Nat) : Int)]).toArray) 3)) (exec_sliceN 3 74 3 _ rfl (([.int .i64 (((r2 / 25200) : Nat) : Int), .int .i64 (((r2 / 100000) : Nat) : Int), .int .i64 (((r2 / 7) : Nat) : Int)]).toArray) #[(0, .int .i64 (((r2 / 25200) : Nat) : Int)), (1, .int .i64 (((r2 / 100000) : Nat) : Int)), (2, .int .i64 (((r2 / 7) : Nat) : Int))] (by kernel_rfl) (by kernel_rfl)) (by kernel_rfl) ?_
        try simp only [pA, pB, p1, p2, p3]
        have hx0_gk5 : s0 ≤ wr.heap.size := by rw [← HS0.out]; exact HK0.out.size
        have HK0 : Hid (Kept No wr (wr.alloc (.cells (([.int .i64 (((r2 / 25200) : Nat) : Int), .int .i64 (((r2 / 100000) : Nat) : Int), .int .i64 (((r2 / 7) : Nat) : Int)]).toArray) 3))) := HK0.out.no ((Kept.refl No _).alloc _)
        have HF : Hid (Fr No w (wr.alloc (.cells (([.int .i64 (((r2 / 25200) : Nat) : Int), .int .i64 (((r2 / 100000) : Nat) : Int), .int .i64 (((r2 / 7) : Nat) : Int)]).toArray) 3)) [(gk2, 23, Ky.cells ⟨1, 3, 1, 0⟩), (wr.heap.size, 3, ([.int .i64 (((r2 / 25200) : Nat) : Int), .int .i64 (((r2 / 100000) : Nat) : Int), .int .i64 (((r2 / 7) : Nat) : Int)]).toArray)]) := HF.out.alloc _ _
        generalize wr.alloc (.cells (([.int .i64 (((r2 / 25200) : Nat) : Int), .int .i64 (((r2 / 100000) : Nat) : Int), .int .i64 (((r2 / 7) : Nat) : Int)]).toArray) 3) = wk6 at HF HK0 ⊢
        generalize wr.heap.size = gk5 at HF hx0_gk5 ⊢
        have hsz0 : s0 ≤ wk6.heap.size := by rw [← HS0.out]; exact HK0.out.size
        refine wp_callW 25 #[.int .i64 ((((r2 % 7) * ((r2 / 7) % 40)) : Nat) : Int), .int .i64 ((((r2 / 280) % 90) : Nat) : Int), .slice (some ⟨gk5, 0, none⟩) 3 3] (by kernel_rfl) _ (holds_off (((r2 % 7 * (r2 / 7 % 40)) : Nat) : Int) (r2 / 280 % 90) (some ⟨gk5, 0, none⟩) 3 3 [(((r2 / 25200) : Nat) : Int), (((r2 / 100000) : Nat) : Int), (((r2 / 7) : Nat) : Int)] _ (by omega) (by have := up_le r2; omega) (by omega) (Box.nums (zs := [(((r2 / 25200) : Nat) : Int), (((r2 / 100000) : Nat) : Int), (((r2 / 7) : Nat) : Int)]) (HF.out.box 1 _ _ _ rfl) 3) rfl (by omega)) (by kernel_rfl) ?_
        rintro e wk7 ⟨a, ae, ap, rfl, hh, hi3, ho, hk⟩
        have HK0 : Hid (Kept No wr (wk7)) := HK0.out.no hk
        have HF : Hid (Fr No w (wk7) [(gk2, 23, Ky.cells ⟨1, 3, 1, 0⟩), (gk5, 3, ([.int .i64 (((r2 / 25200) : Nat) : Int), .int .i64 (((r2 / 100000) : Nat) : Int), .int .i64 (((r2 / 7) : Nat) : Int)]).toArray)]) := HF.out.no hk
        have HHn : Hid (HdAt wk7 a [] ae [] ap) := hh
        have HIn : Hid (HoI (((r2 % 7 * (r2 / 7 % 40)) : Nat) : Int) (r2 / 280 % 90) a ae ap) := hi3
        have hsz : s0 ≤ wk6.heap.size := hsz0
        have HOn : Hid (HdOff (fun k => k < s0) a [] ae [] ap) := ho.mono (fun k e => by omega)
        clear hh hi3 ho hk hsz hsz0
        have HK1 : Hid (Kept No wk7 wk7) := Kept.refl _ _
        obtain ⟨s1, hs1⟩ : ∃ n, wk7.heap.size = n := ⟨_, rfl⟩
        have HS1 : Hid (wk7.heap.size = s1) := hs1
        clear hs1
        refine ⟨.agg (Hd.cells a), rfl, ?_⟩
        try simp only [pA, pB, p1, p2, p3]
        refine wp_runW (.pointer (some ⟨wk7.heap.size, 0, none⟩)) (wk7.alloc (.cells (Hd.cells hdZ) 35)) (exec_alloc 35 rfl (Hd.cells hdZ) zero35) (by kernel_rfl) ?_
        try simp only [pA, pB, p1, p2, p3]
        have hx0_gk8 : s0 ≤ wk7.heap.size := by rw [← HS0.out]; exact HK0.out.size
        have hx1_gk8 : s1 ≤ wk7.heap.size := by rw [← HS1.out]; exact HK1.out.size
        have HK0 : Hid (Kept No wr (wk7.alloc (.cells (Hd.cells hdZ) 35))) := HK0.out.no ((Kept.refl No _).alloc _)
        have HK1 : Hid (Kept No wk7 (wk7.alloc (.cells (Hd.cells hdZ) 35))) := HK1.out.no ((Kept.refl No _).alloc _)
        have HF : Hid (Fr No w (wk7.alloc (.cells (Hd.cells hdZ) 35)) [(gk2, 23, Ky.cells ⟨1, 3, 1, 0⟩), (gk5, 3, ([.int .i64 (((r2 / 25200) : Nat) : Int), .int .i64 (((r2 / 100000) : Nat) : Int), .int .i64 (((r2 / 7) : Nat) : Int)]).toArray), (wk7.heap.size, 35, Hd.cells hdZ)]) := HF.out.alloc _ _
        generalize wk7.alloc (.cells (Hd.cells hdZ) 35) = wk9 at HF HK0 HK1 ⊢
        generalize wk7.heap.size = gk8 at HF hx0_gk8 hx1_gk8 ⊢
        refine wp_storeW 35 _ _ rfl ⟨gk8, 0, none⟩ (.agg (Hd.cells a)) (by kernel_rfl) (by kernel_rfl) (wk9.setRow gk8 (Hd.cells a)) (run_store_to (cur := Hd.cs hdZ) (vs := Hd.cs a) (new := Hd.cs a) (HF.out.box 2 _ _ _ rfl) (by kernel_rfl) Try.size35 (Nat.le_of_ble_eq_true (by kernel_rfl)) (Hd.oneL _) (by kernel_rfl)) (by kernel_rfl) ?_
        try simp only [pA, pB, p1, p2, p3]
        have HK0 : Hid (Kept No wr (wk9.setRow gk8 (Hd.cells a))) := HK0.out.newRow (by rw [HS0.out]; exact hx0_gk8) _
        have HK1 : Hid (Kept No wk7 (wk9.setRow gk8 (Hd.cells a))) := HK1.out.newRow (by rw [HS1.out]; exact hx1_gk8) _
        have HF : Hid (Fr No w (wk9.setRow gk8 (Hd.cells a)) [(gk2, 23, Ky.cells ⟨1, 3, 1, 0⟩), (gk5, 3, ([.int .i64 (((r2 / 25200) : Nat) : Int), .int .i64 (((r2 / 100000) : Nat) : Int), .int .i64 (((r2 / 7) : Nat) : Int)]).toArray), (gk8, 35, Hd.cells a)]) := HF.out.set 2 rfl _
        generalize wk9.setRow gk8 (Hd.cells a) = wk10 at HF HK0 HK1 ⊢
        refine WL.nil ?_
        try simp only [pA, pB, p1, p2, p3]
        go_upto_region 13 with fail
        refine WL.start ?_
        refine tK (.int .i64 ((r2 : Nat) : Int)) ?_
        try simp only [pA, pB, p1, p2, p3]
        refine tW (.int .i64 (((r2 / 3) : Nat) : Int)) (exec_bin .quo 3 _ _ _ rfl (.int .i64 ((r2 : Nat) : Int)) (.int .i64 3) (.int .i64 (((r2 / 3) : Nat) : Int)) (by kernel_rfl) (by kernel_rfl) (by kernel_rfl) (b_quoN r2 3 _ rfl (by omega) (by omega) _)) ?_
        try simp only [pA, pB, p1, p2, p3]
        refine tW (.int .i64 ((((r2 / 3) % 4) : Nat) : Int)) (exec_bin .rem 3 _ _ _ rfl (.int .i64 (((r2 / 3) : Nat) : Int)) (.int .i64 4) (.int .i64 ((((r2 / 3) % 4) : Nat) : Int)) (by kernel_rfl) (by kernel_rfl) (by kernel_rfl) (b_remN (r2 / 3) 4 _ rfl (by omega) _)) ?_
        try simp only [pA, pB, p1, p2, p3]
        refine tK (.int .i64 ((r2 : Nat) : Int)) ?_
        try simp only [pA, pB, p1, p2, p3]
        refine tW (.int .i64 (((r2 / 12) : Nat) : Int)) (exec_bin .quo 3 _ _ _ rfl (.int .i64 ((r2 : Nat) : Int)) (.int .i64 12) (.int .i64 (((r2 / 12) : Nat) : Int)) (by kernel_rfl) (by kernel_rfl) (by kernel_rfl) (b_quoN r2 12 _ rfl (by omega) (by omega) _)) ?_
        try simp only [pA, pB, p1, p2, p3]
        refine tW (.int .i64 ((((r2 / 12) % 3) : Nat) : Int)) (exec_bin .rem 3 _ _ _ rfl (.int .i64 (((r2 / 12) : Nat) : Int)) (.int .i64 3) (.int .i64 ((((r2 / 12) % 3) : Nat) : Int)) (by kernel_rfl) (by kernel_rfl) (by kernel_rfl) (b_remN (r2 / 12) 3 _ rfl (by omega) _)) ?_
        try simp only [pA, pB, p1, p2, p3]
        refine tW (.int .i64 (((((r2 / 12) % 3) + 1) : Nat) : Int)) (exec_bin .add 3 _ _ _ rfl (.int .i64 ((((r2 / 12) % 3) : Nat) : Int)) (.int .i64 1) (.int .i64 (((((r2 / 12) % 3) + 1) : Nat) : Int)) (by kernel_rfl) (by kernel_rfl) (by kernel_rfl) (b_addw _ _ _ (by rw [IntKind.wrap_i64]; omega) _)) ?_
        try simp only [pA, pB, p1, p2, p3]
        refine tW (.agg (Sp.cells ⟨((((r2 / 3) % 4) : Nat) : Int), (((((r2 / 12) % 3) + 1) : Nat) : Int)⟩)) (exec_build 25 _ rfl (Sp.cells ⟨((((r2 / 3) % 4) : Nat) : Int), (((((r2 / 12) % 3) + 1) : Nat) : Int)⟩) (by kernel_rfl)) ?_
        try simp only [pA, pB, p1, p2, p3]
        refine wp_runW (.pointer (some ⟨wk10.heap.size, 0, none⟩)) (wk10.alloc (.cells (Sp.cells spZ) 25)) (exec_alloc 25 rfl (Sp.cells spZ) zero25) (by kernel_rfl) ?_
        try simp only [pA, pB, p1, p2, p3]
        have hx0_gk11 : s0 ≤ wk10.heap.size := by rw [← HS0.out]; exact HK0.out.size
        have hx1_gk11 : s1 ≤ wk10.heap.size := by rw [← HS1.out]; exact HK1.out.size
        have HK0 : Hid (Kept No wr (wk10.alloc (.cells (Sp.cells spZ) 25))) := HK0.out.no ((Kept.refl No _).alloc _)
        have HK1 : Hid (Kept No wk7 (wk10.alloc (.cells (Sp.cells spZ) 25))) := HK1.out.no ((Kept.refl No _).alloc _)
        have HF : Hid (Fr No w (wk10.alloc (.cells (Sp.cells spZ) 25)) [(gk2, 23, Ky.cells ⟨1, 3, 1, 0⟩), (gk5, 3, ([.int .i64 (((r2 / 25200) : Nat) : Int), .int .i64 (((r2 / 100000) : Nat) : Int), .int .i64 (((r2 / 7) : Nat) : Int)]).toArray), (gk8, 35, Hd.cells a), (wk10.heap.size, 25, Sp.cells spZ)]) := HF.out.alloc _ _
        generalize wk10.alloc (.cells (Sp.cells spZ) 25) = wk12 at HF HK0 HK1 ⊢
        generalize wk10.heap.size = gk11 at HF hx0_gk11 hx1_gk11 ⊢
        refine wp_storeW 25 _ _ rfl ⟨gk11, 0, none⟩ (.agg (Sp.cells ⟨((((r2 / 3) % 4) : Nat) : Int), (((((r2 / 12) % 3) + 1) : Nat) : Int)⟩)) (by kernel_rfl) (by kernel_rfl) (wk12.setRow gk11 (Sp.cells ⟨((((r2 / 3) % 4) : Nat) : Int), (((((r2 / 12) % 3) + 1) : Nat) : Int)⟩)) (run_store_to (cur := Sp.cs spZ) (vs := Sp.cs ⟨((((r2 / 3) % 4) : Nat) : Int), (((((r2 / 12) % 3) + 1) : Nat) : Int)⟩) (new := Sp.cs ⟨((((r2 / 3) % 4) : Nat) : Int), (((((r2 / 12) % 3) + 1) : Nat) : Int)⟩) (HF.out.box 3 _ _ _ rfl) (by kernel_rfl) Try.size25 (Nat.le_of_ble_eq_true (by kernel_rfl)) (Sp.oneL _) (by kernel_rfl)) (by kernel_rfl) ?_
        try simp only [pA, pB, p1, p2, p3]
        have HK0 : Hid (Kept No wr (wk12.setRow gk11 (Sp.cells ⟨((((r2 / 3) % 4) : Nat) : Int), (((((r2 / 12) % 3) + 1) : Nat) : Int)⟩))) := HK0.out.newRow (by rw [HS0.out]; exact hx0_gk11) _
        have HK1 : Hid (Kept No wk7 (wk12.setRow gk11 (Sp.cells ⟨((((r2 / 3) % 4) : Nat) : Int), (((((r2 / 12) % 3) + 1) : Nat) : Int)⟩))) := HK1.out.newRow (by rw [HS1.out]; exact hx1_gk11) _
        have HF : Hid (Fr No w (wk12.setRow gk11 (Sp.cells ⟨((((r2 / 3) % 4) : Nat) : Int), (((((r2 / 12) % 3) + 1) : Nat) : Int)⟩)) [(gk2, 23, Ky.cells ⟨1, 3, 1, 0⟩), (gk5, 3, ([.int .i64 (((r2 / 25200) : Nat) : Int), .int .i64 (((r2 / 100000) : Nat) : Int), .int .i64 (((r2 / 7) : Nat) : Int)]).toArray), (gk8, 35, Hd.cells a), (gk11, 25, Sp.cells ⟨((((r2 / 3) % 4) : Nat) : Int), (((((r2 / 12) % 3) + 1) : Nat) : Int)⟩)]) := HF.out.set 3 rfl _
        generalize wk12.setRow gk11 (Sp.cells ⟨((((r2 / 3) % 4) : Nat) : Int), (((((r2 / 12) % 3) + 1) : Nat) : Int)⟩) = wk13 at HF HK0 HK1 ⊢
        refine WL.nil ?_
        try simp only [pA, pB, p1, p2, p3]
        go_upto_region 14 with fail
        refine WL.start ?_
        refine tK (.pointer (some ⟨gk11, 0, none⟩)) ?_
        try simp only [pA, pB, p1, p2, p3]
        refine tW (.int .i64 ((((r2 / 3) % 4) : Nat) : Int)) (exec_load 3 _ rfl ⟨gk11, 0, none⟩ (by kernel_rfl) (.int .i64 ((((r2 / 3) % 4) : Nat) : Int)) (load_one ((HF.out.box 3 _ _ _ rfl).cell 0 |>.trans (by kernel_rfl)) Try.und3 rfl)) ?_
        try simp only [pA, pB, p1, p2, p3]
        cases q1 : (decide (0 < ((((r2 / 3) % 4) : Nat) : Int)))
        ·skip
         refine tW (.bool false) (exec_bin .gtr 3 _ _ _ rfl (.int .i64 ((((r2 / 3) % 4) : Nat) : Int)) (.int .i64 0) (.bool false) (by kernel_rfl) (by kernel_rfl) (by kernel_rfl) (by rw [b_gtr, q1]; try rfl)) ?_
         try simp only [pA, pB, p1, p2, p3]
         refine WL.nil ?_
         try simp only [pA, pB, p1, p2, p3]
         go_upto_region 16 with fail
         refine WL.start ?_
         refine tK (.slice la i lc) ?_
         try simp only [pA, pB, p1, p2, p3]
         refine tW (.agg (Hd.cells a)) (exec_load 35 _ rfl ⟨gk8, 0, none⟩ (by kernel_rfl) (.agg (Hd.cells a)) (run_load_part (cs := Hd.cs a) (sub := Hd.cs a) (HF.out.box 2 _ _ _ rfl) (Part.all _) Try.und35 rfl Try.size35)) ?_
         try simp only [pA, pB, p1, p2, p3]
         refine wp_runW (.slice (some ⟨wk13.heap.size, 0, none⟩) 1 1) (wk13.alloc (.cells (Hd.cells a) 35)) (exec_slice2 83 35 _ rfl (Hd.cells a) (.agg (Hd.cells a)) (by kernel_rfl) (by kernel_rfl)) (by kernel_rfl) ?_
         try simp only [pA, pB, p1, p2, p3]
         have hx0_gk14 : s0 ≤ wk13.heap.size := by rw [← HS0.out]; exact HK0.out.size
         have hx1_gk14 : s1 ≤ wk13.heap.size := by rw [← HS1.out]; exact HK1.out.size
         have HK0 : Hid (Kept No wr (wk13.alloc (.cells (Hd.cells a) 35))) := HK0.out.no ((Kept.refl No _).alloc _)
         have HK1 : Hid (Kept No wk7 (wk13.alloc (.cells (Hd.cells a) 35))) := HK1.out.no ((Kept.refl No _).alloc _)
         have HF : Hid (Fr No w (wk13.alloc (.cells (Hd.cells a) 35)) [(gk2, 23, Ky.cells ⟨1, 3, 1, 0⟩), (gk5, 3, ([.int .i64 (((r2 / 25200) : Nat) : Int), .int .i64 (((r2 / 100000) : Nat) : Int), .int .i64 (((r2 / 7) : Nat) : Int)]).toArray), (gk8, 35, Hd.cells a), (gk11, 25, Sp.cells ⟨((((r2 / 3) % 4) : Nat) : Int), (((((r2 / 12) % 3) + 1) : Nat) : Int)⟩), (wk13.heap.size, 35, Hd.cells a)]) := HF.out.alloc _ _
         generalize wk13.alloc (.cells (Hd.cells a) 35) = wk15 at HF HK0 HK1 ⊢
         generalize wk13.heap.size = gk14 at HF hx0_gk14 hx1_gk14 ⊢
         have HO : Hid (Own 35 7 wk15 w.heap.size la lc i (svL i X)) := HOs.out.no HK0.out
         have HM : Hid (MemS wk15 i X) := HMs.out.no HK0.out
         have hlow : ∀ k, At la k → k < s0 := fun k e => by rw [← HS0.out]; exact HOs.out.lt e
         obtain ⟨sa1, cap1, wa1, hrun, hown, hk2, hat2⟩ := run_appN (w := wk15) 83 83 35 7 120 (.agg hdZ.cells) Try.und83 Try.info35 rfl (by omega) w.heap.size i lc la (svL i X) HO.out (some ⟨gk14, 0, none⟩) 1 1 (Hd.cs a) rfl (fun e => by cases e) (fun j u hj => ⟨_, rfl, by rw [addr_add, Nat.zero_add, (HF.out.box 4 _ _ _ rfl).cell]; exact cell_hd _ _ _ hj⟩) (Hd.oneL _) (by omega) (by omega) (by have := HF.out.kept.size; omega)
         have HY : Hid (Sv.at wk15 ⟨a, [], ae, [], ap⟩) := HHn.out.no HK1.out
         have HYw : Hid (Sv.wl ⟨a, [], ae, [], ap⟩) := HIn.out.wl (by have := up_le r2; omega) (by omega)
         have HYo : Hid (Sv.off (At la) ⟨a, [], ae, [], ap⟩) := HOn.out.mono hlow
         have HF1 : Fr No w wk15 [(gk2, 23, Ky.cells ⟨1, 3, 1, 0⟩)] := (show Fr No w wk15 ([(gk2, 23, Ky.cells ⟨1, 3, 1, 0⟩)] ++ [(gk5, 3, ([.int .i64 (((r2 / 25200) : Nat) : Int), .int .i64 (((r2 / 100000) : Nat) : Int), .int .i64 (((r2 / 7) : Nat) : Int)]).toArray), (gk8, 35, Hd.cells a), (gk11, 25, Sp.cells ⟨((((r2 / 3) % 4) : Nat) : Int), (((((r2 / 12) % 3) + 1) : Nat) : Int)⟩), (gk14, 35, Hd.cells a)]) from HF.out).front
         refine wp_runW (.slice sa1 (i + 1) cap1) wa1 (exec_appN _ _ 83 83 rfl _ _ (by kernel_rfl) (by kernel_rfl) hrun) (by kernel_rfl) ?_
         try simp only [pA, pB, p1, p2, p3]
         have HF : Hid (Fr No w wa1 [(gk2, 23, Ky.cells ⟨1, 3, 1, 0⟩)]) := HF1.app HO.out hk2 (by simp)
         have HM2 : Hid (MemS wa1 i X) := HM.out.kept HOf.out hk2 (fun k e => e)
         have HM3 : Hid (MemS wa1 (i + 1) (updS X i ⟨a, [], ae, [], ap⟩)) := MemS.snoc HM2.out (HdAt.keptG HY.out HYo.out hk2 (fun k e => e))
         have HO3 : Hid (Own 35 7 wa1 w.heap.size sa1 cap1 (i + 1) (svL (i + 1) (updS X i ⟨a, [], ae, [], ap⟩))) := by show Own _ _ _ _ _ _ _ _; rw [svL_succ]; exact hown
         have HOf3 : Hid (OffS (At sa1) (i + 1) (updS X i ⟨a, [], ae, [], ap⟩)) := OffS.of (W := wk15) (G1 := At la) (OffS.snoc HOf.out HYo.out) (MemS.snoc HM.out HY.out) (fun k e => (hat2 k e).elim .inl (fun e => .inr (by omega)))
         have HW3 : Hid (WlS (i + 1) (updS X i ⟨a, [], ae, [], ap⟩)) := WlS.snoc HW.out HYw.out
         clear hrun hown hk2 hat2 HF1 HM HM2 HO HY HYo HYw hlow
         refine tK (.slice sa1 (i + 1) cap1) ?_
         try simp only [pA, pB, p1, p2, p3]
         refine WL.nil ?_
         try simp only [pA, pB, p1, p2, p3]
         go_upto_region 8 with fail
         refine WL.start ?_
         refine tK (.int .i64 ((i : Nat) : Int)) ?_
         try simp only [pA, pB, p1, p2, p3]
         refine tW (.int .i64 (((i + 1) : Nat) : Int)) (exec_bin .add 3 _ _ _ rfl (.int .i64 ((i : Nat) : Int)) (.int .i64 1) (.int .i64 (((i + 1) : Nat) : Int)) (by kernel_rfl) (by kernel_rfl) (by kernel_rfl) (b_addw _ _ _ (by rw [IntKind.wrap_i64]; omega) _)) ?_
         try simp only [pA, pB, p1, p2, p3]
         refine tK (.int .i64 (((i + 1) : Nat) : Int)) ?_
         try simp only [pA, pB, p1, p2, p3]
         refine WL.nil ?_
         try simp only [pA, pB, p1, p2, p3]
         go_wp2
         go_roundw
         case rel => exact ⟨i + 1, sa1, cap1, updS X i ⟨a, [], ae, [], ap⟩, rfl, by go_num, by omega, HO3, HM3, HOf3, HW3, HF⟩
         case measure => simp [intOf]; omega
        ·skip
         refine tW (.bool true) (exec_bin .gtr 3 _ _ _ rfl (.int .i64 ((((r2 / 3) % 4) : Nat) : Int)) (.int .i64 0) (.bool true) (by kernel_rfl) (by kernel_rfl) (by kernel_rfl) (by rw [b_gtr, q1]; try rfl)) ?_
         try simp only [pA, pB, p1, p2, p3]
         refine WL.nil ?_
         try simp only [pA, pB, p1, p2, p3]
         go_upto_region 15 with fail
         refine WL.start ?_
         refine tW (.agg (Sp.cells ⟨((((r2 / 3) % 4) : Nat) : Int), (((((r2 / 12) % 3) + 1) : Nat) : Int)⟩)) (exec_load 25 _ rfl ⟨gk11, 0, none⟩ (by kernel_rfl) (.agg (Sp.cells ⟨((((r2 / 3) % 4) : Nat) : Int), (((((r2 / 12) % 3) + 1) : Nat) : Int)⟩)) (run_load_part (cs := Sp.cs ⟨((((r2 / 3) % 4) : Nat) : Int), (((((r2 / 12) % 3) + 1) : Nat) : Int)⟩) (sub := Sp.cs ⟨((((r2 / 3) % 4) : Nat) : Int), (((((r2 / 12) % 3) + 1) : Nat) : Int)⟩) (HF.out.box 3 _ _ _ rfl) (Part.all _) Try.und25 rfl Try.size25)) ?_
         try simp only [pA, pB, p1, p2, p3]
         refine tK (.pointer (some ⟨gk11, 0, none⟩)) ?_
         try simp only [pA, pB, p1, p2, p3]
         refine tW (.int .i64 ((((r2 / 3) % 4) : Nat) : Int)) (exec_load 3 _ rfl ⟨gk11, 0, none⟩ (by kernel_rfl) (.int .i64 ((((r2 / 3) % 4) : Nat) : Int)) (load_one ((HF.out.box 3 _ _ _ rfl).cell 0 |>.trans (by kernel_rfl)) Try.und3 rfl)) ?_
         try simp only [pA, pB, p1, p2, p3]
         refine tW (.int .u8 ((((r2 / 3) % 4) : Nat) : Int)) (exec_conv 3 5 _ rfl (by kernel_rfl) (cv_by ((r2 / 3) % 4) (by omega) _)) ?_
         try simp only [pA, pB, p1, p2, p3]
         refine tK (.pointer (some ⟨gk11, 1, none⟩)) ?_
         try simp only [pA, pB, p1, p2, p3]
         refine tW (.int .i64 (((((r2 / 12) % 3) + 1) : Nat) : Int)) (exec_load 3 _ rfl ⟨gk11, 1, none⟩ (by kernel_rfl) (.int .i64 (((((r2 / 12) % 3) + 1) : Nat) : Int)) (load_one ((HF.out.box 3 _ _ _ rfl).cell 1 |>.trans (by kernel_rfl)) Try.und3 rfl)) ?_
         try simp only [pA, pB, p1, p2, p3]
         refine tW (.int .u8 (((((r2 / 12) % 3) + 1) : Nat) : Int)) (exec_conv 3 5 _ rfl (by kernel_rfl) (cv_by (((r2 / 12) % 3) + 1) (by omega) _)) ?_
         try simp only [pA, pB, p1, p2, p3]
         refine wp_runW (.slice (some ⟨wk13.heap.size, 0, none⟩) 2 2) (wk13.alloc (.cells (([.int .u8 ((((r2 / 3) % 4) : Nat) : Int), .int .u8 (((((r2 / 12) % 3) + 1) : Nat) : Int)]).toArray) 5)) (exec_sliceN 2 26 5 _ rfl (([.int .u8 ((((r2 / 3) % 4) : Nat) : Int), .int .u8 (((((r2 / 12) % 3) + 1) : Nat) : Int)]).toArray) #[(0, .int .u8 ((((r2 / 3) % 4) : Nat) : Int)), (1, .int .u8 (((((r2 / 12) % 3) + 1) : Nat) : Int))] (by kernel_rfl) (by kernel_rfl)) (by kernel_rfl) ?_
         try simp only [pA, pB, p1, p2, p3]
         have hx0_gk16 : s0 ≤ wk13.heap.size := by rw [← HS0.out]; exact HK0.out.size
         have hx1_gk16 : s1 ≤ wk13.heap.size := by rw [← HS1.out]; exact HK1.out.size
         have HK0 : Hid (Kept No wr (wk13.alloc (.cells (([.int .u8 ((((r2 / 3) % 4) : Nat) : Int), .int .u8 (((((r2 / 12) % 3) + 1) : Nat) : Int)]).toArray) 5))) := HK0.out.no ((Kept.refl No _).alloc _)
         have HK1 : Hid (Kept No wk7 (wk13.alloc (.cells (([.int .u8 ((((r2 / 3) % 4) : Nat) : Int), .int .u8 (((((r2 / 12) % 3) + 1) : Nat) : Int)]).toArray) 5))) := HK1.out.no ((Kept.refl No _).alloc _)
         have HF : Hid (Fr No w (wk13.alloc (.cells (([.int .u8 ((((r2 / 3) % 4) : Nat) : Int), .int .u8 (((((r2 / 12) % 3) + 1) : Nat) : Int)]).toArray) 5)) [(gk2, 23, Ky.cells ⟨1, 3, 1, 0⟩), (gk5, 3, ([.int .i64 (((r2 / 25200) : Nat) : Int), .int .i64 (((r2 / 100000) : Nat) : Int), .int .i64 (((r2 / 7) : Nat) : Int)]).toArray), (gk8, 35, Hd.cells a), (gk11, 25, Sp.cells ⟨((((r2 / 3) % 4) : Nat) : Int), (((((r2 / 12) % 3) + 1) : Nat) : Int)⟩), (wk13.heap.size, 5, ([.int .u8 ((((r2 / 3) % 4) : Nat) : Int), .int .u8 (((((r2 / 12) % 3) + 1) : Nat) : Int)]).toArray)]) := HF.out.alloc _ _
         generalize wk13.alloc (.cells (([.int .u8 ((((r2 / 3) % 4) : Nat) : Int), .int .u8 (((((r2 / 12) % 3) + 1) : Nat) : Int)]).toArray) 5) = wk17 at HF HK0 HK1 ⊢
         generalize wk13.heap.size = gk16 at HF hx0_gk16 hx1_gk16 ⊢
         refine tW (.agg (Bl.cells ⟨⟨((((r2 / 3) % 4) : Nat) : Int), (((((r2 / 12) % 3) + 1) : Nat) : Int)⟩, ⟨(some ⟨gk16, 0, none⟩), 2, 2⟩⟩)) (exec_build 28 _ rfl (Bl.cells ⟨⟨((((r2 / 3) % 4) : Nat) : Int), (((((r2 / 12) % 3) + 1) : Nat) : Int)⟩, ⟨(some ⟨gk16, 0, none⟩), 2, 2⟩⟩) (by kernel_rfl)) ?_
         try simp only [pA, pB, p1, p2, p3]
         refine tK (.pointer (some ⟨gk8, 0, none⟩)) ?_
         try simp only [pA, pB, p1, p2, p3]
         refine wp_storeW 28 _ _ rfl ⟨gk8, 0, none⟩ (.agg (Bl.cells ⟨⟨((((r2 / 3) % 4) : Nat) : Int), (((((r2 / 12) % 3) + 1) : Nat) : Int)⟩, ⟨(some ⟨gk16, 0, none⟩), 2, 2⟩⟩)) (by kernel_rfl) (by kernel_rfl) (wk17.setRow gk8 (Hd.cells ⟨⟨⟨((((r2 / 3) % 4) : Nat) : Int), (((((r2 / 12) % 3) + 1) : Nat) : Int)⟩, ⟨(some ⟨gk16, 0, none⟩), 2, 2⟩⟩, a.k, a.r⟩)) (run_store_to (cur := Hd.cs a) (vs := Bl.cs ⟨⟨((((r2 / 3) % 4) : Nat) : Int), (((((r2 / 12) % 3) + 1) : Nat) : Int)⟩, ⟨(some ⟨gk16, 0, none⟩), 2, 2⟩⟩) (new := Hd.cs ⟨⟨⟨((((r2 / 3) % 4) : Nat) : Int), (((((r2 / 12) % 3) + 1) : Nat) : Int)⟩, ⟨(some ⟨gk16, 0, none⟩), 2, 2⟩⟩, a.k, a.r⟩) (HF.out.box 2 _ _ _ rfl) (by kernel_rfl) Try.size28 (Nat.le_of_ble_eq_true (by kernel_rfl)) (Bl.oneL _) (by kernel_rfl)) (by kernel_rfl) ?_
         try simp only [pA, pB, p1, p2, p3]
         have HK0 : Hid (Kept No wr (wk17.setRow gk8 (Hd.cells ⟨⟨⟨((((r2 / 3) % 4) : Nat) : Int), (((((r2 / 12) % 3) + 1) : Nat) : Int)⟩, ⟨(some ⟨gk16, 0, none⟩), 2, 2⟩⟩, a.k, a.r⟩))) := HK0.out.newRow (by rw [HS0.out]; exact hx0_gk8) _
         have HK1 : Hid (Kept No wk7 (wk17.setRow gk8 (Hd.cells ⟨⟨⟨((((r2 / 3) % 4) : Nat) : Int), (((((r2 / 12) % 3) + 1) : Nat) : Int)⟩, ⟨(some ⟨gk16, 0, none⟩), 2, 2⟩⟩, a.k, a.r⟩))) := HK1.out.newRow (by rw [HS1.out]; exact hx1_gk8) _
         have HF : Hid (Fr No w (wk17.setRow gk8 (Hd.cells ⟨⟨⟨((((r2 / 3) % 4) : Nat) : Int), (((((r2 / 12) % 3) + 1) : Nat) : Int)⟩, ⟨(some ⟨gk16, 0, none⟩), 2, 2⟩⟩, a.k, a.r⟩)) [(gk2, 23, Ky.cells ⟨1, 3, 1, 0⟩), (gk5, 3, ([.int .i64 (((r2 / 25200) : Nat) : Int), .int .i64 (((r2 / 100000) : Nat) : Int), .int .i64 (((r2 / 7) : Nat) : Int)]).toArray), (gk8, 35, Hd.cells ⟨⟨⟨((((r2 / 3) % 4) : Nat) : Int), (((((r2 / 12) % 3) + 1) : Nat) : Int)⟩, ⟨(some ⟨gk16, 0, none⟩), 2, 2⟩⟩, a.k, a.r⟩), (gk11, 25, Sp.cells ⟨((((r2 / 3) % 4) : Nat) : Int), (((((r2 / 12) % 3) + 1) : Nat) : Int)⟩), (gk16, 5, ([.int .u8 ((((r2 / 3) % 4) : Nat) : Int), .int .u8 (((((r2 / 12) % 3) + 1) : Nat) : Int)]).toArray)]) := HF.out.set 2 rfl _
         generalize wk17.setRow gk8 (Hd.cells ⟨⟨⟨((((r2 / 3) % 4) : Nat) : Int), (((((r2 / 12) % 3) + 1) : Nat) : Int)⟩, ⟨(some ⟨gk16, 0, none⟩), 2, 2⟩⟩, a.k, a.r⟩) = wk18 at HF HK0 HK1 ⊢
         refine WL.nil ?_
         try simp only [pA, pB, p1, p2, p3]
         go_upto_region 16 with fail
         refine WL.start ?_
         refine tK (.slice la i lc) ?_
         try simp only [pA, pB, p1, p2, p3]
         refine tW (.agg (Hd.cells ⟨⟨⟨((((r2 / 3) % 4) : Nat) : Int), (((((r2 / 12) % 3) + 1) : Nat) : Int)⟩, ⟨(some ⟨gk16, 0, none⟩), 2, 2⟩⟩, a.k, a.r⟩)) (exec_load 35 _ rfl ⟨gk8, 0, none⟩ (by kernel_rfl) (.agg (Hd.cells ⟨⟨⟨((((r2 / 3) % 4) : Nat) : Int), (((((r2 / 12) % 3) + 1) : Nat) : Int)⟩, ⟨(some ⟨gk16, 0, none⟩), 2, 2⟩⟩, a.k, a.r⟩)) (run_load_part (cs := Hd.cs ⟨⟨⟨((((r2 / 3) % 4) : Nat) : Int), (((((r2 / 12) % 3) + 1) : Nat) : Int)⟩, ⟨(some ⟨gk16, 0, none⟩), 2, 2⟩⟩, a.k, a.r⟩) (sub := Hd.cs ⟨⟨⟨((((r2 / 3) % 4) : Nat) : Int), (((((r2 / 12) % 3) + 1) : Nat) : Int)⟩, ⟨(some ⟨gk16, 0, none⟩), 2, 2⟩⟩, a.k, a.r⟩) (HF.out.box 2 _ _ _ rfl) (Part.all _) Try.und35 rfl Try.size35)) ?_
         try simp only [pA, pB, p1, p2, p3]
         refine wp_runW (.slice (some ⟨wk18.heap.size, 0, none⟩) 1 1) (wk18.alloc (.cells (Hd.cells ⟨⟨⟨((((r2 / 3) % 4) : Nat) : Int), (((((r2 / 12) % 3) + 1) : Nat) : Int)⟩, ⟨(some ⟨gk16, 0, none⟩), 2, 2⟩⟩, a.k, a.r⟩) 35)) (exec_slice2 83 35 _ rfl (Hd.cells ⟨⟨⟨((((r2 / 3) % 4) : Nat) : Int), (((((r2 / 12) % 3) + 1) : Nat) : Int)⟩, ⟨(some ⟨gk16, 0, none⟩), 2, 2⟩⟩, a.k, a.r⟩) (.agg (Hd.cells ⟨⟨⟨((((r2 / 3) % 4) : Nat) : Int), (((((r2 / 12) % 3) + 1) : Nat) : Int)⟩, ⟨(some ⟨gk16, 0, none⟩), 2, 2⟩⟩, a.k, a.r⟩)) (by kernel_rfl) (by kernel_rfl)) (by kernel_rfl) ?_
         try simp only [pA, pB, p1, p2, p3]
         have hx0_gk19 : s0 ≤ wk18.heap.size := by rw [← HS0.out]; exact HK0.out.size
         have hx1_gk19 : s1 ≤ wk18.heap.size := by rw [← HS1.out]; exact HK1.out.size
         have HK0 : Hid (Kept No wr (wk18.alloc (.cells (Hd.cells ⟨⟨⟨((((r2 / 3) % 4) : Nat) : Int), (((((r2 / 12) % 3) + 1) : Nat) : Int)⟩, ⟨(some ⟨gk16, 0, none⟩), 2, 2⟩⟩, a.k, a.r⟩) 35))) := HK0.out.no ((Kept.refl No _).alloc _)
         have HK1 : Hid (Kept No wk7 (wk18.alloc (.cells (Hd.cells ⟨⟨⟨((((r2 / 3) % 4) : Nat) : Int), (((((r2 / 12) % 3) + 1) : Nat) : Int)⟩, ⟨(some ⟨gk16, 0, none⟩), 2, 2⟩⟩, a.k, a.r⟩) 35))) := HK1.out.no ((Kept.refl No _).alloc _)
         have HF : Hid (Fr No w (wk18.alloc (.cells (Hd.cells ⟨⟨⟨((((r2 / 3) % 4) : Nat) : Int), (((((r2 / 12) % 3) + 1) : Nat) : Int)⟩, ⟨(some ⟨gk16, 0, none⟩), 2, 2⟩⟩, a.k, a.r⟩) 35)) [(gk2, 23, Ky.cells ⟨1, 3, 1, 0⟩), (gk5, 3, ([.int .i64 (((r2 / 25200) : Nat) : Int), .int .i64 (((r2 / 100000) : Nat) : Int), .int .i64 (((r2 / 7) : Nat) : Int)]).toArray), (gk8, 35, Hd.cells ⟨⟨⟨((((r2 / 3) % 4) : Nat) : Int), (((((r2 / 12) % 3) + 1) : Nat) : Int)⟩, ⟨(some ⟨gk16, 0, none⟩), 2, 2⟩⟩, a.k, a.r⟩), (gk11, 25, Sp.cells ⟨((((r2 / 3) % 4) : Nat) : Int), (((((r2 / 12) % 3) + 1) : Nat) : Int)⟩), (gk16, 5, ([.int .u8 ((((r2 / 3) % 4) : Nat) : Int), .int .u8 (((((r2 / 12) % 3) + 1) : Nat) : Int)]).toArray), (wk18.heap.size, 35, Hd.cells ⟨⟨⟨((((r2 / 3) % 4) : Nat) : Int), (((((r2 / 12) % 3) + 1) : Nat) : Int)⟩, ⟨(some ⟨gk16, 0, none⟩), 2, 2⟩⟩, a.k, a.r⟩)]) := HF.out.alloc _ _
         generalize wk18.alloc (.cells (Hd.cells ⟨⟨⟨((((r2 / 3) % 4) : Nat) : Int), (((((r2 / 12) % 3) + 1) : Nat) : Int)⟩, ⟨(some ⟨gk16, 0, none⟩), 2, 2⟩⟩, a.k, a.r⟩) 35) = wk20 at HF HK0 HK1 ⊢
         generalize wk18.heap.size = gk19 at HF hx0_gk19 hx1_gk19 ⊢
         have HO : Hid (Own 35 7 wk20 w.heap.size la lc i (svL i X)) := HOs.out.no HK0.out
         have HM : Hid (MemS wk20 i X) := HMs.out.no HK0.out
         have hlow : ∀ k, At la k → k < s0 := fun k e => by rw [← HS0.out]; exact HOs.out.lt e
         obtain ⟨sa1, cap1, wa1, hrun, hown, hk2, hat2⟩ := run_appN (w := wk20) 83 83 35 7 120 (.agg hdZ.cells) Try.und83 Try.info35 rfl (by omega) w.heap.size i lc la (svL i X) HO.out (some ⟨gk19, 0, none⟩) 1 1 (Hd.cs ⟨⟨⟨((((r2 / 3) % 4) : Nat) : Int), (((((r2 / 12) % 3) + 1) : Nat) : Int)⟩, ⟨(some ⟨gk16, 0, none⟩), 2, 2⟩⟩, a.k, a.r⟩) rfl (fun e => by cases e) (fun j u hj => ⟨_, rfl, by rw [addr_add, Nat.zero_add, (HF.out.box 5 _ _ _ rfl).cell]; exact cell_hd _ _ _ hj⟩) (Hd.oneL _) (by omega) (by omega) (by have := HF.out.kept.size; omega)
         have HY : Hid (Sv.at wk20 ⟨⟨⟨⟨(((r2 / 3 % 4) : Nat) : Int), (((r2 / 12 % 3 + 1) : Nat) : Int)⟩, ⟨some ⟨gk16, 0, none⟩, 2, 2⟩⟩, a.k, a.r⟩, [(((r2 / 3 % 4) : Nat) : Int), (((r2 / 12 % 3 + 1) : Nat) : Int)], ae, [], ap⟩) := ⟨⟨Box.nums (zs := [(((r2 / 3 % 4) : Nat) : Int), (((r2 / 12 % 3 + 1) : Nat) : Int)]) (HF.out.box 4 _ _ _ rfl) 2, rfl, fun e => by cases e⟩, (HHn.out.no HK1.out).e, (HHn.out.no HK1.out).l, (HHn.out.no HK1.out).p, by show 2 ≤ _; omega, HHn.out.ne, HHn.out.nl, HHn.out.np⟩
         have HYw : Hid (Sv.wl ⟨⟨⟨⟨(((r2 / 3 % 4) : Nat) : Int), (((r2 / 12 % 3 + 1) : Nat) : Int)⟩, ⟨some ⟨gk16, 0, none⟩, 2, 2⟩⟩, a.k, a.r⟩, [(((r2 / 3 % 4) : Nat) : Int), (((r2 / 12 % 3 + 1) : Nat) : Int)], ae, [], ap⟩) := by
           have hW : Wl a [] ae [] ap := HIn.out.wl (by have := up_le r2; omega) (by omega)
           exact ⟨hW.may, hW.cm, hW.bk, .inr ⟨of_decide_eq_true q1, rfl⟩, hW.hi⟩
         have HYo : Hid (Sv.off (At la) ⟨⟨⟨⟨(((r2 / 3 % 4) : Nat) : Int), (((r2 / 12 % 3 + 1) : Nat) : Int)⟩, ⟨some ⟨gk16, 0, none⟩, 2, 2⟩⟩, a.k, a.r⟩, [(((r2 / 3 % 4) : Nat) : Int), (((r2 / 12 % 3 + 1) : Nat) : Int)], ae, [], ap⟩) := ⟨fun _ k e f => by obtain ⟨ad, e1, e2⟩ := e; cases e1; subst e2; have h1 : gk16 < s0 := hlow _ f; have h2 := hx0_gk16; omega, (HOn.out.mono hlow).2.1, (HOn.out.mono hlow).2.2.1, (HOn.out.mono hlow).2.2.2⟩
         have HF1 : Fr No w wk20 [(gk2, 23, Ky.cells ⟨1, 3, 1, 0⟩)] := (show Fr No w wk20 ([(gk2, 23, Ky.cells ⟨1, 3, 1, 0⟩)] ++ [(gk5, 3, ([.int .i64 (((r2 / 25200) : Nat) : Int), .int .i64 (((r2 / 100000) : Nat) : Int), .int .i64 (((r2 / 7) : Nat) : Int)]).toArray), (gk8, 35, Hd.cells ⟨⟨⟨((((r2 / 3) % 4) : Nat) : Int), (((((r2 / 12) % 3) + 1) : Nat) : Int)⟩, ⟨(some ⟨gk16, 0, none⟩), 2, 2⟩⟩, a.k, a.r⟩), (gk11, 25, Sp.cells ⟨((((r2 / 3) % 4) : Nat) : Int), (((((r2 / 12) % 3) + 1) : Nat) : Int)⟩), (gk16, 5, ([.int .u8 ((((r2 / 3) % 4) : Nat) : Int), .int .u8 (((((r2 / 12) % 3) + 1) : Nat) : Int)]).toArray), (gk19, 35, Hd.cells ⟨⟨⟨((((r2 / 3) % 4) : Nat) : Int), (((((r2 / 12) % 3) + 1) : Nat) : Int)⟩, ⟨(some ⟨gk16, 0, none⟩), 2, 2⟩⟩, a.k, a.r⟩)]) from HF.out).front
         refine wp_runW (.slice sa1 (i + 1) cap1) wa1 (exec_appN _ _ 83 83 rfl _ _ (by kernel_rfl) (by kernel_rfl) hrun) (by kernel_rfl) ?_
         try simp only [pA, pB, p1, p2, p3]
         have HF : Hid (Fr No w wa1 [(gk2, 23, Ky.cells ⟨1, 3, 1, 0⟩)]) := HF1.app HO.out hk2 (by simp)
         have HM2 : Hid (MemS wa1 i X) := HM.out.kept HOf.out hk2 (fun k e => e)
         have HM3 : Hid (MemS wa1 (i + 1) (updS X i ⟨⟨⟨⟨(((r2 / 3 % 4) : Nat) : Int), (((r2 / 12 % 3 + 1) : Nat) : Int)⟩, ⟨some ⟨gk16, 0, none⟩, 2, 2⟩⟩, a.k, a.r⟩, [(((r2 / 3 % 4) : Nat) : Int), (((r2 / 12 % 3 + 1) : Nat) : Int)], ae, [], ap⟩)) := MemS.snoc HM2.out (HdAt.keptG HY.out HYo.out hk2 (fun k e => e))
         have HO3 : Hid (Own 35 7 wa1 w.heap.size sa1 cap1 (i + 1) (svL (i + 1) (updS X i ⟨⟨⟨⟨(((r2 / 3 % 4) : Nat) : Int), (((r2 / 12 % 3 + 1) : Nat) : Int)⟩, ⟨some ⟨gk16, 0, none⟩, 2, 2⟩⟩, a.k, a.r⟩, [(((r2 / 3 % 4) : Nat) : Int), (((r2 / 12 % 3 + 1) : Nat) : Int)], ae, [], ap⟩))) := by show Own _ _ _ _ _ _ _ _; rw [svL_succ]; exact hown
         have HOf3 : Hid (OffS (At sa1) (i + 1) (updS X i ⟨⟨⟨⟨(((r2 / 3 % 4) : Nat) : Int), (((r2 / 12 % 3 + 1) : Nat) : Int)⟩, ⟨some ⟨gk16, 0, none⟩, 2, 2⟩⟩, a.k, a.r⟩, [(((r2 / 3 % 4) : Nat) : Int), (((r2 / 12 % 3 + 1) : Nat) : Int)], ae, [], ap⟩)) := OffS.of (W := wk20) (G1 := At la) (OffS.snoc HOf.out HYo.out) (MemS.snoc HM.out HY.out) (fun k e => (hat2 k e).elim .inl (fun e => .inr (by omega)))
         have HW3 : Hid (WlS (i + 1) (updS X i ⟨⟨⟨⟨(((r2 / 3 % 4) : Nat) : Int), (((r2 / 12 % 3 + 1) : Nat) : Int)⟩, ⟨some ⟨gk16, 0, none⟩, 2, 2⟩⟩, a.k, a.r⟩, [(((r2 / 3 % 4) : Nat) : Int), (((r2 / 12 % 3 + 1) : Nat) : Int)], ae, [], ap⟩)) := WlS.snoc HW.out HYw.out
         clear hrun hown hk2 hat2 HF1 HM HM2 HO HY HYo HYw hlow
         refine tK (.slice sa1 (i + 1) cap1) ?_
         try simp only [pA, pB, p1, p2, p3]
         refine WL.nil ?_
         try simp only [pA, pB, p1, p2, p3]
         go_upto_region 8 with fail
         refine WL.start ?_
         refine tK (.int .i64 ((i : Nat) : Int)) ?_
         try simp only [pA, pB, p1, p2, p3]
         refine tW (.int .i64 (((i + 1) : Nat) : Int)) (exec_bin .add 3 _ _ _ rfl (.int .i64 ((i : Nat) : Int)) (.int .i64 1) (.int .i64 (((i + 1) : Nat) : Int)) (by kernel_rfl) (by kernel_rfl) (by kernel_rfl) (b_addw _ _ _ (by rw [IntKind.wrap_i64]; omega) _)) ?_
         try simp only [pA, pB, p1, p2, p3]
         refine tK (.int .i64 (((i + 1) : Nat) : Int)) ?_
         try simp only [pA, pB, p1, p2, p3]
         refine WL.nil ?_
         try simp only [pA, pB, p1, p2, p3]
         go_wp2
         go_roundw
         case rel => exact ⟨i + 1, sa1, cap1, updS X i ⟨⟨⟨⟨(((r2 / 3 % 4) : Nat) : Int), (((r2 / 12 % 3 + 1) : Nat) : Int)⟩, ⟨some ⟨gk16, 0, none⟩, 2, 2⟩⟩, a.k, a.r⟩, [(((r2 / 3 % 4) : Nat) : Int), (((r2 / 12 % 3 + 1) : Nat) : Int)], ae, [], ap⟩, rfl, by go_num, by omega, HO3, HM3, HOf3, HW3, HF⟩
         case measure => simp [intOf]; omega
      · skip
        go_upto_region 10 with fail
        refine WL.start ?_
        refine tK (.int .i64 ((i : Nat) : Int)) ?_
        try simp only [pA, pB, p1, p2, p3]
        refine tK (.slice pa pn pc) ?_
        try simp only [pA, pB, p1, p2, p3]
        refine tK (.int .i64 ((pn : Nat) : Int)) ?_
        try simp only [pA, pB, p1, p2, p3]
        refine tW (.bool false) (exec_bin .lss 3 _ _ _ rfl (.int .i64 ((i : Nat) : Int)) (.int .i64 ((pn : Nat) : Int)) (.bool false) (by kernel_rfl) (by kernel_rfl) (by kernel_rfl) (by rw [b_lss, decide_eq_false (by omega)])) ?_
        try simp only [pA, pB, p1, p2, p3]
        refine WL.nil ?_
        try simp only [pA, pB, p1, p2, p3]
        go_upto_region 12 with fail
        refine WL.start ?_
        refine tK (.int .i64 ((0 : Nat) : Int)) ?_
        try simp only [pA, pB, p1, p2, p3]
        refine tW (.int .i64 (((0 % 7) : Nat) : Int)) (exec_bin .rem 3 _ _ _ rfl (.int .i64 ((0 : Nat) : Int)) (.int .i64 7) (.int .i64 (((0 % 7) : Nat) : Int)) (by kernel_rfl) (by kernel_rfl) (by kernel_rfl) (b_remN 0 7 _ rfl (by omega) _)) ?_
        try simp only [pA, pB, p1, p2, p3]
        refine tK (.int .i64 ((0 : Nat) : Int)) ?_
        try simp only [pA, pB, p1, p2, p3]
        refine tW (.int .i64 (((0 / 7) : Nat) : Int)) (exec_bin .quo 3 _ _ _ rfl (.int .i64 ((0 : Nat) : Int)) (.int .i64 7) (.int .i64 (((0 / 7) : Nat) : Int)) (by kernel_rfl) (by kernel_rfl) (by kernel_rfl) (b_quoN 0 7 _ rfl (by omega) (by omega) _)) ?_
        try simp only [pA, pB, p1, p2, p3]
        refine tW (.int .i64 ((((0 / 7) % 40) : Nat) : Int)) (exec_bin .rem 3 _ _ _ rfl (.int .i64 (((0 / 7) : Nat) : Int)) (.int .i64 40) (.int .i64 ((((0 / 7) % 40) : Nat) : Int)) (by kernel_rfl) (by kernel_rfl) (by kernel_rfl) (b_remN (0 / 7) 40 _ rfl (by omega) _)) ?_
        try simp only [pA, pB, p1, p2, p3]
        refine tW (.int .i64 ((((0 % 7) * ((0 / 7) % 40)) : Nat) : Int)) (exec_bin .mul 3 _ _ _ rfl (.int .i64 (((0 % 7) : Nat) : Int)) (.int .i64 ((((0 / 7) % 40) : Nat) : Int)) (.int .i64 ((((0 % 7) * ((0 / 7) % 40)) : Nat) : Int)) (by kernel_rfl) (by kernel_rfl) (by kernel_rfl) (b_mulN (0 % 7) ((0 / 7) % 40) _ rfl (by have := up_le 0; omega) _)) ?_
        try simp only [pA, pB, p1, p2, p3]
        refine tK (.int .i64 ((0 : Nat) : Int)) ?_
        try simp only [pA, pB, p1, p2, p3]
        refine tW (.int .i64 (((0 / 280) : Nat) : Int)) (exec_bin .quo 3 _ _ _ rfl (.int .i64 ((0 : Nat) : Int)) (.int .i64 280) (.int .i64 (((0 / 280) : Nat) : Int)) (by kernel_rfl) (by kernel_rfl) (by kernel_rfl) (b_quoN 0 280 _ rfl (by omega) (by omega) _)) ?_
        try simp only [pA, pB, p1, p2, p3]
        refine tW (.int .i64 ((((0 / 280) % 90) : Nat) : Int)) (exec_bin .rem 3 _ _ _ rfl (.int .i64 (((0 / 280) : Nat) : Int)) (.int .i64 90) (.int .i64 ((((0 / 280) % 90) : Nat) : Int)) (by kernel_rfl) (by kernel_rfl) (by kernel_rfl) (b_remN (0 / 280) 90 _ rfl (by omega) _)) ?_
        try simp only [pA, pB, p1, p2, p3]
        refine tK (.int .i64 ((0 : Nat) : Int)) ?_
        try simp only [pA, pB, p1, p2, p3]
        refine tW (.int .i64 (((0 / 25200) : Nat) : Int)) (exec_bin .quo 3 _ _ _ rfl (.int .i64 ((0 : Nat) : Int)) (.int .i64 25200) (.int .i64 (((0 / 25200) : Nat) : Int)) (by kernel_rfl) (by kernel_rfl) (by kernel_rfl) (b_quoN 0 25200 _ rfl (by omega) (by omega) _)) ?_
        try simp only [pA, pB, p1, p2, p3]
        refine tK (.int .i64 ((0 : Nat) : Int)) ?_
        try simp only [pA, pB, p1, p2, p3]
        refine tW (.int .i64 (((0 / 100000) : Nat) : Int)) (exec_bin .quo 3 _ _ _ rfl (.int .i64 ((0 : Nat) : Int)) (.int .i64 100000) (.int .i64 (((0 / 100000) : Nat) : Int)) (by kernel_rfl) (by kernel_rfl) (by kernel_rfl) (b_quoN 0 100000 _ rfl (by omega) (by omega) _)) ?_
        try simp only [pA, pB, p1, p2, p3]
        refine tK (.int .i64 ((0 : Nat) : Int)) ?_
        try simp only [pA, pB, p1, p2, p3]
        refine tW (.int .i64 (((0 / 7) : Nat) : Int)) (exec_bin .quo 3 _ _ _ rfl (.int .i64 ((0 : Nat) : Int)) (.int .i64 7) (.int .i64 (((0 / 7) : Nat) : Int)) (by kernel_rfl) (by kernel_rfl) (by kernel_rfl) (b_quoN 0 7 _ rfl (by omega) (by omega) _)) ?_
        try simp only [pA, pB, p1, p2, p3]
        refine wp_runW (.slice (some ⟨wr.heap.size, 0, none⟩) 3 3) (wr.alloc (.cells (([.int .i64 (((0 / 25200) : Nat) : Int), .int .i64 (((0 / 100000) : Nat) : Int), .int .i64 (((0 / 7) : Nat) : Int)]).toArray) 3)) (exec_sliceN 3 74 3 _ rfl (([.int .i64 (((0 / 25200) : Nat) : Int), .int .i64 (((0 / 100000) : Nat) : Int), .int .i64 (((0 / 7) : Nat) : Int)]).toArray) #[(0, .int .i64 (((0 / 25200) : Nat) : Int)), (1, .int .i64 (((0 / 100000) : Nat) : Int)), (2, .int .i64 (((0 / 7) : Nat) : Int))] (by kernel_rfl) (by kernel_rfl)) (by kernel_rfl) ?_
        try simp only [pA, pB, p1, p2, p3]
        have hx0_gk21 : s0 ≤ wr.heap.size := by rw [← HS0.out]; exact HK0.out.size
        have HK0 : Hid (Kept No wr (wr.alloc (.cells (([.int .i64 (((0 / 25200) : Nat) : Int), .int .i64 (((0 / 100000) : Nat) : Int), .int .i64 (((0 / 7) : Nat) : Int)]).toArray) 3))) := HK0.out.no ((Kept.refl No _).alloc _)
        have HF : Hid (Fr No w (wr.alloc (.cells (([.int .i64 (((0 / 25200) : Nat) : Int), .int .i64 (((0 / 100000) : Nat) : Int), .int .i64 (((0 / 7) : Nat) : Int)]).toArray) 3)) [(gk2, 23, Ky.cells ⟨1, 3, 1, 0⟩), (wr.heap.size, 3, ([.int .i64 (((0 / 25200) : Nat) : Int), .int .i64 (((0 / 100000) : Nat) : Int), .int .i64 (((0 / 7) : Nat) : Int)]).toArray)]) := HF.out.alloc _ _
        generalize wr.alloc (.cells (([.int .i64 (((0 / 25200) : Nat) : Int), .int .i64 (((0 / 100000) : Nat) : Int), .int .i64 (((0 / 7) : Nat) : Int)]).toArray) 3) = wk22 at HF HK0 ⊢
        generalize wr.heap.size = gk21 at HF hx0_gk21 ⊢
        have hsz0 : s0 ≤ wk22.heap.size := by rw [← HS0.out]; exact HK0.out.size
        refine wp_callW 25 #[.int .i64 ((((0 % 7) * ((0 / 7) % 40)) : Nat) : Int), .int .i64 ((((0 / 280) % 90) : Nat) : Int), .slice (some ⟨gk21, 0, none⟩) 3 3] (by kernel_rfl) _ (holds_off (((0 % 7 * (0 / 7 % 40)) : Nat) : Int) (0 / 280 % 90) (some ⟨gk21, 0, none⟩) 3 3 [(((0 / 25200) : Nat) : Int), (((0 / 100000) : Nat) : Int), (((0 / 7) : Nat) : Int)] _ (by omega) (by have := up_le 0; omega) (by omega) (Box.nums (zs := [(((0 / 25200) : Nat) : Int), (((0 / 100000) : Nat) : Int), (((0 / 7) : Nat) : Int)]) (HF.out.box 1 _ _ _ rfl) 3) rfl (by omega)) (by kernel_rfl) ?_
        rintro e wk23 ⟨a, ae, ap, rfl, hh, hi3, ho, hk⟩
        have HK0 : Hid (Kept No wr (wk23)) := HK0.out.no hk
        have HF : Hid (Fr No w (wk23) [(gk2, 23, Ky.cells ⟨1, 3, 1, 0⟩), (gk21, 3, ([.int .i64 (((0 / 25200) : Nat) : Int), .int .i64 (((0 / 100000) : Nat) : Int), .int .i64 (((0 / 7) : Nat) : Int)]).toArray)]) := HF.out.no hk
        have HHn : Hid (HdAt wk23 a [] ae [] ap) := hh
        have HIn : Hid (HoI (((0 % 7 * (0 / 7 % 40)) : Nat) : Int) (0 / 280 % 90) a ae ap) := hi3
        have hsz : s0 ≤ wk22.heap.size := hsz0
        have HOn : Hid (HdOff (fun k => k < s0) a [] ae [] ap) := ho.mono (fun k e => by omega)
        clear hh hi3 ho hk hsz hsz0
        have HK1 : Hid (Kept No wk23 wk23) := Kept.refl _ _
        obtain ⟨s1, hs1⟩ : ∃ n, wk23.heap.size = n := ⟨_, rfl⟩
        have HS1 : Hid (wk23.heap.size = s1) := hs1
        clear hs1
        refine ⟨.agg (Hd.cells a), rfl, ?_⟩
        try simp only [pA, pB, p1, p2, p3]
        refine wp_runW (.pointer (some ⟨wk23.heap.size, 0, none⟩)) (wk23.alloc (.cells (Hd.cells hdZ) 35)) (exec_alloc 35 rfl (Hd.cells hdZ) zero35) (by kernel_rfl) ?_
        try simp only [pA, pB, p1, p2, p3]
        have hx0_gk24 : s0 ≤ wk23.heap.size := by rw [← HS0.out]; exact HK0.out.size
        have hx1_gk24 : s1 ≤ wk23.heap.size := by rw [← HS1.out]; exact HK1.out.size
        have HK0 : Hid (Kept No wr (wk23.alloc (.cells (Hd.cells hdZ) 35))) := HK0.out.no ((Kept.refl No _).alloc _)
        have HK1 : Hid (Kept No wk23 (wk23.alloc (.cells (Hd.cells hdZ) 35))) := HK1.out.no ((Kept.refl No _).alloc _)
        have HF : Hid (Fr No w (wk23.alloc (.cells (Hd.cells hdZ) 35)) [(gk2, 23, Ky.cells ⟨1, 3, 1, 0⟩), (gk21, 3, ([.int .i64 (((0 / 25200) : Nat) : Int), .int .i64 (((0 / 100000) : Nat) : Int), .int .i64 (((0 / 7) : Nat) : Int)]).toArray), (wk23.heap.size, 35, Hd.cells hdZ)]) := HF.out.alloc _ _
        generalize wk23.alloc (.cells (Hd.cells hdZ) 35) = wk25 at HF HK0 HK1 ⊢
        generalize wk23.heap.size = gk24 at HF hx0_gk24 hx1_gk24 ⊢
        refine wp_storeW 35 _ _ rfl ⟨gk24, 0, none⟩ (.agg (Hd.cells a)) (by kernel_rfl) (by kernel_rfl) (wk25.setRow gk24 (Hd.cells a)) (run_store_to (cur := Hd.cs hdZ) (vs := Hd.cs a) (new := Hd.cs a) (HF.out.box 2 _ _ _ rfl) (by kernel_rfl) Try.size35 (Nat.le_of_ble_eq_true (by kernel_rfl)) (Hd.oneL _) (by kernel_rfl)) (by kernel_rfl) ?_
        try simp only [pA, pB, p1, p2, p3]
        have HK0 : Hid (Kept No wr (wk25.setRow gk24 (Hd.cells a))) := HK0.out.newRow (by rw [HS0.out]; exact hx0_gk24) _
        have HK1 : Hid (Kept No wk23 (wk25.setRow gk24 (Hd.cells a))) := HK1.out.newRow (by rw [HS1.out]; exact hx1_gk24) _
        have HF : Hid (Fr No w (wk25.setRow gk24 (Hd.cells a)) [(gk2, 23, Ky.cells ⟨1, 3, 1, 0⟩), (gk21, 3, ([.int .i64 (((0 / 25200) : Nat) : Int), .int .i64 (((0 / 100000) : Nat) : Int), .int .i64 (((0 / 7) : Nat) : Int)]).toArray), (gk24, 35, Hd.cells a)]) := HF.out.set 2 rfl _
        generalize wk25.setRow gk24 (Hd.cells a) = wk26 at HF HK0 HK1 ⊢
        refine WL.nil ?_
        try simp only [pA, pB, p1, p2, p3]
        go_upto_region 13 with fail
        refine WL.start ?_
        refine tK (.int .i64 ((0 : Nat) : Int)) ?_
        try simp only [pA, pB, p1, p2, p3]
        refine tW (.int .i64 (((0 / 3) : Nat) : Int)) (exec_bin .quo 3 _ _ _ rfl (.int .i64 ((0 : Nat) : Int)) (.int .i64 3) (.int .i64 (((0 / 3) : Nat) : Int)) (by kernel_rfl) (by kernel_rfl) (by kernel_rfl) (b_quoN 0 3 _ rfl (by omega) (by omega) _)) ?_
        try simp only [pA, pB, p1, p2, p3]
        refine tW (.int .i64 ((((0 / 3) % 4) : Nat) : Int)) (exec_bin .rem 3 _ _ _ rfl (.int .i64 (((0 / 3) : Nat) : Int)) (.int .i64 4) (.int .i64 ((((0 / 3) % 4) : Nat) : Int)) (by kernel_rfl) (by kernel_rfl) (by kernel_rfl) (b_remN (0 / 3) 4 _ rfl (by omega) _)) ?_
        try simp only [pA, pB, p1, p2, p3]
        refine tK (.int .i64 ((0 : Nat) : Int)) ?_
        try simp only [pA, pB, p1, p2, p3]
        refine tW (.int .i64 (((0 / 12) : Nat) : Int)) (exec_bin .quo 3 _ _ _ rfl (.int .i64 ((0 : Nat) : Int)) (.int .i64 12) (.int .i64 (((0 / 12) : Nat) : Int)) (by kernel_rfl) (by kernel_rfl) (by kernel_rfl) (b_quoN 0 12 _ rfl (by omega) (by omega) _)) ?_
        try simp only [pA, pB, p1, p2, p3]
        refine tW (.int .i64 ((((0 / 12) % 3) : Nat) : Int)) (exec_bin .rem 3 _ _ _ rfl (.int .i64 (((0 / 12) : Nat) : Int)) (.int .i64 3) (.int .i64 ((((0 / 12) % 3) : Nat) : Int)) (by kernel_rfl) (by kernel_rfl) (by kernel_rfl) (b_remN (0 / 12) 3 _ rfl (by omega) _)) ?_
        try simp only [pA, pB, p1, p2, p3]
        refine tW (.int .i64 (((((0 / 12) % 3) + 1) : Nat) : Int)) (exec_bin .add 3 _ _ _ rfl (.int .i64 ((((0 / 12) % 3) : Nat) : Int)) (.int .i64 1) (.int .i64 (((((0 / 12) % 3) + 1) : Nat) : Int)) (by kernel_rfl) (by kernel_rfl) (by kernel_rfl) (b_addw _ _ _ (by rw [IntKind.wrap_i64]; omega) _)) ?_
        try simp only [pA, pB, p1, p2, p3]
        refine tW (.agg (Sp.cells ⟨((((0 / 3) % 4) : Nat) : Int), (((((0 / 12) % 3) + 1) : Nat) : Int)⟩)) (exec_build 25 _ rfl (Sp.cells ⟨((((0 / 3) % 4) : Nat) : Int), (((((0 / 12) % 3) + 1) : Nat) : Int)⟩) (by kernel_rfl)) ?_
        try simp only [pA, pB, p1, p2, p3]
        refine wp_runW (.pointer (some ⟨wk26.heap.size, 0, none⟩)) (wk26.alloc (.cells (Sp.cells spZ) 25)) (exec_alloc 25 rfl (Sp.cells spZ) zero25) (by kernel_rfl) ?_
        try simp only [pA, pB, p1, p2, p3]
        have hx0_gk27 : s0 ≤ wk26.heap.size := by rw [← HS0.out]; exact HK0.out.size
        have hx1_gk27 : s1 ≤ wk26.heap.size := by rw [← HS1.out]; exact HK1.out.size
        have HK0 : Hid (Kept No wr (wk26.alloc (.cells (Sp.cells spZ) 25))) := HK0.out.no ((Kept.refl No _).alloc _)
        have HK1 : Hid (Kept No wk23 (wk26.alloc (.cells (Sp.cells spZ) 25))) := HK1.out.no ((Kept.refl No _).alloc _)
        have HF : Hid (Fr No w (wk26.alloc (.cells (Sp.cells spZ) 25)) [(gk2, 23, Ky.cells ⟨1, 3, 1, 0⟩), (gk21, 3, ([.int .i64 (((0 / 25200) : Nat) : Int), .int .i64 (((0 / 100000) : Nat) : Int), .int .i64 (((0 / 7) : Nat) : Int)]).toArray), (gk24, 35, Hd.cells a), (wk26.heap.size, 25, Sp.cells spZ)]) := HF.out.alloc _ _
        generalize wk26.alloc (.cells (Sp.cells spZ) 25) = wk28 at HF HK0 HK1 ⊢
        generalize wk26.heap.size = gk27 at HF hx0_gk27 hx1_gk27 ⊢
        refine wp_storeW 25 _ _ rfl ⟨gk27, 0, none⟩ (.agg (Sp.cells ⟨((((0 / 3) % 4) : Nat) : Int), (((((0 / 12) % 3) + 1) : Nat) : Int)⟩)) (by kernel_rfl) (by kernel_rfl) (wk28.setRow gk27 (Sp.cells ⟨((((0 / 3) % 4) : Nat) : Int), (((((0 / 12) % 3) + 1) : Nat) : Int)⟩)) (run_store_to (cur := Sp.cs spZ) (vs := Sp.cs ⟨((((0 / 3) % 4) : Nat) : Int), (((((0 / 12) % 3) + 1) : Nat) : Int)⟩) (new := Sp.cs ⟨((((0 / 3) % 4) : Nat) : Int), (((((0 / 12) % 3) + 1) : Nat) : Int)⟩) (HF.out.box 3 _ _ _ rfl) (by kernel_rfl) Try.size25 (Nat.le_of_ble_eq_true (by kernel_rfl)) (Sp.oneL _) (by kernel_rfl)) (by kernel_rfl) ?_
        try simp only [pA, pB, p1, p2, p3]
        have HK0 : Hid (Kept No wr (wk28.setRow gk27 (Sp.cells ⟨((((0 / 3) % 4) : Nat) : Int), (((((0 / 12) % 3) + 1) : Nat) : Int)⟩))) := HK0.out.newRow (by rw [HS0.out]; exact hx0_gk27) _
        have HK1 : Hid (Kept No wk23 (wk28.setRow gk27 (Sp.cells ⟨((((0 / 3) % 4) : Nat) : Int), (((((0 / 12) % 3) + 1) : Nat) : Int)⟩))) := HK1.out.newRow (by rw [HS1.out]; exact hx1_gk27) _
        have HF : Hid (Fr No w (wk28.setRow gk27 (Sp.cells ⟨((((0 / 3) % 4) : Nat) : Int), (((((0 / 12) % 3) + 1) : Nat) : Int)⟩)) [(gk2, 23, Ky.cells ⟨1, 3, 1, 0⟩), (gk21, 3, ([.int .i64 (((0 / 25200) : Nat) : Int), .int .i64 (((0 / 100000) : Nat) : Int), .int .i64 (((0 / 7) : Nat) : Int)]).toArray), (gk24, 35, Hd.cells a), (gk27, 25, Sp.cells ⟨((((0 / 3) % 4) : Nat) : Int), (((((0 / 12) % 3) + 1) : Nat) : Int)⟩)]) := HF.out.set 3 rfl _
        generalize wk28.setRow gk27 (Sp.cells ⟨((((0 / 3) % 4) : Nat) : Int), (((((0 / 12) % 3) + 1) : Nat) : Int)⟩) = wk29 at HF HK0 HK1 ⊢
        refine WL.nil ?_
        try simp only [pA, pB, p1, p2, p3]
        go_upto_region 14 with fail
        refine WL.start ?_
        refine tK (.pointer (some ⟨gk27, 0, none⟩)) ?_
        try simp only [pA, pB, p1, p2, p3]
        refine tW (.int .i64 ((((0 / 3) % 4) : Nat) : Int)) (exec_load 3 _ rfl ⟨gk27, 0, none⟩ (by kernel_rfl) (.int .i64 ((((0 / 3) % 4) : Nat) : Int)) (load_one ((HF.out.box 3 _ _ _ rfl).cell 0 |>.trans (by kernel_rfl)) Try.und3 rfl)) ?_
        try simp only [pA, pB, p1, p2, p3]
        cases q2 : (decide (0 < ((((0 / 3) % 4) : Nat) : Int)))
        ·skip
         refine tW (.bool false) (exec_bin .gtr 3 _ _ _ rfl (.int .i64 ((((0 / 3) % 4) : Nat) : Int)) (.int .i64 0) (.bool false) (by kernel_rfl) (by kernel_rfl) (by kernel_rfl) (by rw [b_gtr, q2]; try rfl)) ?_
         try simp only [pA, pB, p1, p2, p3]
         refine WL.nil ?_
         try simp only [pA, pB, p1, p2, p3]
         go_upto_region 16 with fail
         refine WL.start ?_
         refine tK (.slice la i lc) ?_
         try simp only [pA, pB, p1, p2, p3]
         refine tW (.agg (Hd.cells a)) (exec_load 35 _ rfl ⟨gk24, 0, none⟩ (by kernel_rfl) (.agg (Hd.cells a)) (run_load_part (cs := Hd.cs a) (sub := Hd.cs a) (HF.out.box 2 _ _ _ rfl) (Part.all _) Try.und35 rfl Try.size35)) ?_
         try simp only [pA, pB, p1, p2, p3]
         refine wp_runW (.slice (some ⟨wk29.heap.size, 0, none⟩) 1 1) (wk29.alloc (.cells (Hd.cells a) 35)) (exec_slice2 83 35 _ rfl (Hd.cells a) (.agg (Hd.cells a)) (by kernel_rfl) (by kernel_rfl)) (by kernel_rfl) ?_
         try simp only [pA, pB, p1, p2, p3]
         have hx0_gk30 : s0 ≤ wk29.heap.size := by rw [← HS0.out]; exact HK0.out.size
         have hx1_gk30 : s1 ≤ wk29.heap.size := by rw [← HS1.out]; exact HK1.out.size
         have HK0 : Hid (Kept No wr (wk29.alloc (.cells (Hd.cells a) 35))) := HK0.out.no ((Kept.refl No _).alloc _)
         have HK1 : Hid (Kept No wk23 (wk29.alloc (.cells (Hd.cells a) 35))) := HK1.out.no ((Kept.refl No _).alloc _)
         have HF : Hid (Fr No w (wk29.alloc (.cells (Hd.cells a) 35)) [(gk2, 23, Ky.cells ⟨1, 3, 1, 0⟩), (gk21, 3, ([.int .i64 (((0 / 25200) : Nat) : Int), .int .i64 (((0 / 100000) : Nat) : Int), .int .i64 (((0 / 7) : Nat) : Int)]).toArray), (gk24, 35, Hd.cells a), (gk27, 25, Sp.cells ⟨((((0 / 3) % 4) : Nat) : Int), (((((0 / 12) % 3) + 1) : Nat) : Int)⟩), (wk29.heap.size, 35, Hd.cells a)]) := HF.out.alloc _ _
         generalize wk29.alloc (.cells (Hd.cells a) 35) = wk31 at HF HK0 HK1 ⊢
         generalize wk29.heap.size = gk30 at HF hx0_gk30 hx1_gk30 ⊢
         have HO : Hid (Own 35 7 wk31 w.heap.size la lc i (svL i X)) := HOs.out.no HK0.out
         have HM : Hid (MemS wk31 i X) := HMs.out.no HK0.out
         have hlow : ∀ k, At la k → k < s0 := fun k e => by rw [← HS0.out]; exact HOs.out.lt e
         obtain ⟨sa1, cap1, wa1, hrun, hown, hk2, hat2⟩ := run_appN (w := wk31) 83 83 35 7 120 (.agg hdZ.cells) Try.und83 Try.info35 rfl (by omega) w.heap.size i lc la (svL i X) HO.out (some ⟨gk30, 0, none⟩) 1 1 (Hd.cs a) rfl (fun e => by cases e) (fun j u hj => ⟨_, rfl, by rw [addr_add, Nat.zero_add, (HF.out.box 4 _ _ _ rfl).cell]; exact cell_hd _ _ _ hj⟩) (Hd.oneL _) (by omega) (by omega) (by have := HF.out.kept.size; omega)
         have HY : Hid (Sv.at wk31 ⟨a, [], ae, [], ap⟩) := HHn.out.no HK1.out
         have HYw : Hid (Sv.wl ⟨a, [], ae, [], ap⟩) := HIn.out.wl (by have := up_le 0; omega) (by omega)
         have HYo : Hid (Sv.off (At la) ⟨a, [], ae, [], ap⟩) := HOn.out.mono hlow
         have HF1 : Fr No w wk31 [(gk2, 23, Ky.cells ⟨1, 3, 1, 0⟩)] := (show Fr No w wk31 ([(gk2, 23, Ky.cells ⟨1, 3, 1, 0⟩)] ++ [(gk21, 3, ([.int .i64 (((0 / 25200) : Nat) : Int), .int .i64 (((0 / 100000) : Nat) : Int), .int .i64 (((0 / 7) : Nat) : Int)]).toArray), (gk24, 35, Hd.cells a), (gk27, 25, Sp.cells ⟨((((0 / 3) % 4) : Nat) : Int), (((((0 / 12) % 3) + 1) : Nat) : Int)⟩), (gk30, 35, Hd.cells a)]) from HF.out).front
         refine wp_runW (.slice sa1 (i + 1) cap1) wa1 (exec_appN _ _ 83 83 rfl _ _ (by kernel_rfl) (by kernel_rfl) hrun) (by kernel_rfl) ?_
         try simp only [pA, pB, p1, p2, p3]
         have HF : Hid (Fr No w wa1 [(gk2, 23, Ky.cells ⟨1, 3, 1, 0⟩)]) := HF1.app HO.out hk2 (by simp)
         have HM2 : Hid (MemS wa1 i X) := HM.out.kept HOf.out hk2 (fun k e => e)
         have HM3 : Hid (MemS wa1 (i + 1) (updS X i ⟨a, [], ae, [], ap⟩)) := MemS.snoc HM2.out (HdAt.keptG HY.out HYo.out hk2 (fun k e => e))
         have HO3 : Hid (Own 35 7 wa1 w.heap.size sa1 cap1 (i + 1) (svL (i + 1) (updS X i ⟨a, [], ae, [], ap⟩))) := by show Own _ _ _ _ _ _ _ _; rw [svL_succ]; exact hown
         have HOf3 : Hid (OffS (At sa1) (i + 1) (updS X i ⟨a, [], ae, [], ap⟩)) := OffS.of (W := wk31) (G1 := At la) (OffS.snoc HOf.out HYo.out) (MemS.snoc HM.out HY.out) (fun k e => (hat2 k e).elim .inl (fun e => .inr (by omega)))
         have HW3 : Hid (WlS (i + 1) (updS X i ⟨a, [], ae, [], ap⟩)) := WlS.snoc HW.out HYw.out
         clear hrun hown hk2 hat2 HF1 HM HM2 HO HY HYo HYw hlow
         refine tK (.slice sa1 (i + 1) cap1) ?_
         try simp only [pA, pB, p1, p2, p3]
         refine WL.nil ?_
         try simp only [pA, pB, p1, p2, p3]
         go_upto_region 8 with fail
         refine WL.start ?_
         refine tK (.int .i64 ((i : Nat) : Int)) ?_
         try simp only [pA, pB, p1, p2, p3]
         refine tW (.int .i64 (((i + 1) : Nat) : Int)) (exec_bin .add 3 _ _ _ rfl (.int .i64 ((i : Nat) : Int)) (.int .i64 1) (.int .i64 (((i + 1) : Nat) : Int)) (by kernel_rfl) (by kernel_rfl) (by kernel_rfl) (b_addw _ _ _ (by rw [IntKind.wrap_i64]; omega) _)) ?_
         try simp only [pA, pB, p1, p2, p3]
         refine tK (.int .i64 (((i + 1) : Nat) : Int)) ?_
         try simp only [pA, pB, p1, p2, p3]
         refine WL.nil ?_
         try simp only [pA, pB, p1, p2, p3]
         go_wp2
         go_roundw
         case rel => exact ⟨i + 1, sa1, cap1, updS X i ⟨a, [], ae, [], ap⟩, rfl, by go_num, by omega, HO3, HM3, HOf3, HW3, HF⟩
         case measure => simp [intOf]; omega
        ·skip
         refine tW (.bool true) (exec_bin .gtr 3 _ _ _ rfl (.int .i64 ((((0 / 3) % 4) : Nat) : Int)) (.int .i64 0) (.bool true) (by kernel_rfl) (by kernel_rfl) (by kernel_rfl) (by rw [b_gtr, q2]; try rfl)) ?_
         try simp only [pA, pB, p1, p2, p3]
         refine WL.nil ?_
         try simp only [pA, pB, p1, p2, p3]
         go_upto_region 15 with fail
         refine WL.start ?_
         refine tW (.agg (Sp.cells ⟨((((0 / 3) % 4) : Nat) : Int), (((((0 / 12) % 3) + 1) : Nat) : Int)⟩)) (exec_load 25 _ rfl ⟨gk27, 0, none⟩ (by kernel_rfl) (.agg (Sp.cells ⟨((((0 / 3) % 4) : Nat) : Int), (((((0 / 12) % 3) + 1) : Nat) : Int)⟩)) (run_load_part (cs := Sp.cs ⟨((((0 / 3) % 4) : Nat) : Int), (((((0 / 12) % 3) + 1) : Nat) : Int)⟩) (sub := Sp.cs ⟨((((0 / 3) % 4) : Nat) : Int), (((((0 / 12) % 3) + 1) : Nat) : Int)⟩) (HF.out.box 3 _ _ _ rfl) (Part.all _) Try.und25 rfl Try.size25)) ?_
         try simp only [pA, pB, p1, p2, p3]
         refine tK (.pointer (some ⟨gk27, 0, none⟩)) ?_
         try simp only [pA, pB, p1, p2, p3]
         refine tW (.int .i64 ((((0 / 3) % 4) : Nat) : Int)) (exec_load 3 _ rfl ⟨gk27, 0, none⟩ (by kernel_rfl) (.int .i64 ((((0 / 3) % 4) : Nat) : Int)) (load_one ((HF.out.box 3 _ _ _ rfl).cell 0 |>.trans (by kernel_rfl)) Try.und3 rfl)) ?_
         try simp only [pA, pB, p1, p2, p3]
         refine tW (.int .u8 ((((0 / 3) % 4) : Nat) : Int)) (exec_conv 3 5 _ rfl (by kernel_rfl) (cv_by ((0 / 3) % 4) (by omega) _)) ?_
         try simp only [pA, pB, p1, p2, p3]
         refine tK (.pointer (some ⟨gk27, 1, none⟩)) ?_
         try simp only [pA, pB, p1, p2, p3]
         refine tW (.int .i64 (((((0 / 12) % 3) + 1) : Nat) : Int)) (exec_load 3 _ rfl ⟨gk27, 1, none⟩ (by kernel_rfl) (.int .i64 (((((0 / 12) % 3) + 1) : Nat) : Int)) (load_one ((HF.out.box 3 _ _ _ rfl).cell 1 |>.trans (by kernel_rfl)) Try.und3 rfl)) ?_
         try simp only [pA, pB, p1, p2, p3]
         refine tW (.int .u8 (((((0 / 12) % 3) + 1) : Nat) : Int)) (exec_conv 3 5 _ rfl (by kernel_rfl) (cv_by (((0 / 12) % 3) + 1) (by omega) _)) ?_
         try simp only [pA, pB, p1, p2, p3]
         refine wp_runW (.slice (some ⟨wk29.heap.size, 0, none⟩) 2 2) (wk29.alloc (.cells (([.int .u8 ((((0 / 3) % 4) : Nat) : Int), .int .u8 (((((0 / 12) % 3) + 1) : Nat) : Int)]).toArray) 5)) (exec_sliceN 2 26 5 _ rfl (([.int .u8 ((((0 / 3) % 4) : Nat) : Int), .int .u8 (((((0 / 12) % 3) + 1) : Nat) : Int)]).toArray) #[(0, .int .u8 ((((0 / 3) % 4) : Nat) : Int)), (1, .int .u8 (((((0 / 12) % 3) + 1) : Nat) : Int))] (by kernel_rfl) (by kernel_rfl)) (by kernel_rfl) ?_
         try simp only [pA, pB, p1, p2, p3]
         have hx0_gk32 : s0 ≤ wk29.heap.size := by rw [← HS0.out]; exact HK0.out.size
         have hx1_gk32 : s1 ≤ wk29.heap.size := by rw [← HS1.out]; exact HK1.out.size
         have HK0 : Hid (Kept No wr (wk29.alloc (.cells (([.int .u8 ((((0 / 3) % 4) : Nat) : Int), .int .u8 (((((0 / 12) % 3) + 1) : Nat) : Int)]).toArray) 5))) := HK0.out.no ((Kept.refl No _).alloc _)
         have HK1 : Hid (Kept No wk23 (wk29.alloc (.cells (([.int .u8 ((((0 / 3) % 4) : Nat) : Int), .int .u8 (((((0 / 12) % 3) + 1) : Nat) : Int)]).toArray) 5))) := HK1.out.no ((Kept.refl No _).alloc _)
         have HF : Hid (Fr No w (wk29.alloc (.cells (([.int .u8 ((((0 / 3) % 4) : Nat) : Int), .int .u8 (((((0 / 12) % 3) + 1) : Nat) : Int)]).toArray) 5)) [(gk2, 23, Ky.cells ⟨1, 3, 1, 0⟩), (gk21, 3, ([.int .i64 (((0 / 25200) : Nat) : Int), .int .i64 (((0 / 100000) : Nat) : Int), .int .i64 (((0 / 7) : Nat) : Int)]).toArray), (gk24, 35, Hd.cells a), (gk27, 25, Sp.cells ⟨((((0 / 3) % 4) : Nat) : Int), (((((0 / 12) % 3) + 1) : Nat) : Int)⟩), (wk29.heap.size, 5, ([.int .u8 ((((0 / 3) % 4) : Nat) : Int), .int .u8 (((((0 / 12) % 3) + 1) : Nat) : Int)]).toArray)]) := HF.out.alloc _ _
         generalize wk29.alloc (.cells (([.int .u8 ((((0 / 3) % 4) : Nat) : Int), .int .u8 (((((0 / 12) % 3) + 1) : Nat) : Int)]).toArray) 5) = wk33 at HF HK0 HK1 ⊢
         generalize wk29.heap.size = gk32 at HF hx0_gk32 hx1_gk32 ⊢
         refine tW (.agg (Bl.cells ⟨⟨((((0 / 3) % 4) : Nat) : Int), (((((0 / 12) % 3) + 1) : Nat) : Int)⟩, ⟨(some ⟨gk32, 0, none⟩), 2, 2⟩⟩)) (exec_build 28 _ rfl (Bl.cells ⟨⟨((((0 / 3) % 4) : Nat) : Int), (((((0 / 12) % 3) + 1) : Nat) : Int)⟩, ⟨(some ⟨gk32, 0, none⟩), 2, 2⟩⟩) (by kernel_rfl)) ?_
         try simp only [pA, pB, p1, p2, p3]
         refine tK (.pointer (some ⟨gk24, 0, none⟩)) ?_
         try simp only [pA, pB, p1, p2, p3]
         refine wp_storeW 28 _ _ rfl ⟨gk24, 0, none⟩ (.agg (Bl.cells ⟨⟨((((0 / 3) % 4) : Nat) : Int), (((((0 / 12) % 3) + 1) : Nat) : Int)⟩, ⟨(some ⟨gk32, 0, none⟩), 2, 2⟩⟩)) (by kernel_rfl) (by kernel_rfl) (wk33.setRow gk24 (Hd.cells ⟨⟨⟨((((0 / 3) % 4) : Nat) : Int), (((((0 / 12) % 3) + 1) : Nat) : Int)⟩, ⟨(some ⟨gk32, 0, none⟩), 2, 2⟩⟩, a.k, a.r⟩)) (run_store_to (cur := Hd.cs a) (vs := Bl.cs ⟨⟨((((0 / 3) % 4) : Nat) : Int), (((((0 / 12) % 3) + 1) : Nat) : Int)⟩, ⟨(some ⟨gk32, 0, none⟩), 2, 2⟩⟩) (new := Hd.cs ⟨⟨⟨((((0 / 3) % 4) : Nat) : Int), (((((0 / 12) % 3) + 1) : Nat) : Int)⟩, ⟨(some ⟨gk32, 0, none⟩), 2, 2⟩⟩, a.k, a.r⟩) (HF.out.box 2 _ _ _ rfl) (by kernel_rfl) Try.size28 (Nat.le_of_ble_eq_true (by kernel_rfl)) (Bl.oneL _) (by kernel_rfl)) (by kernel_rfl) ?_
         try simp only [pA, pB, p1, p2, p3]
         have HK0 : Hid (Kept No wr (wk33.setRow gk24 (Hd.cells ⟨⟨⟨((((0 / 3) % 4) : Nat) : Int), (((((0 / 12) % 3) + 1) : Nat) : Int)⟩, ⟨(some ⟨gk32, 0, none⟩), 2, 2⟩⟩, a.k, a.r⟩))) := HK0.out.newRow (by rw [HS0.out]; exact hx0_gk24) _
         have HK1 : Hid (Kept No wk23 (wk33.setRow gk24 (Hd.cells ⟨⟨⟨((((0 / 3) % 4) : Nat) : Int), (((((0 / 12) % 3) + 1) : Nat) : Int)⟩, ⟨(some ⟨gk32, 0, none⟩), 2, 2⟩⟩, a.k, a.r⟩))) := HK1.out.newRow (by rw [HS1.out]; exact hx1_gk24) _
         have HF : Hid (Fr No w (wk33.setRow gk24 (Hd.cells ⟨⟨⟨((((0 / 3) % 4) : Nat) : Int), (((((0 / 12) % 3) + 1) : Nat) : Int)⟩, ⟨(some ⟨gk32, 0, none⟩), 2, 2⟩⟩, a.k, a.r⟩)) [(gk2, 23, Ky.cells ⟨1, 3, 1, 0⟩), (gk21, 3, ([.int .i64 (((0 / 25200) : Nat) : Int), .int .i64 (((0 / 100000) : Nat) : Int), .int .i64 (((0 / 7) : Nat) : Int)]).toArray), (gk24, 35, Hd.cells ⟨⟨⟨((((0 / 3) % 4) : Nat) : Int), (((((0 / 12) % 3) + 1) : Nat) : Int)⟩, ⟨(some ⟨gk32, 0, none⟩), 2, 2⟩⟩, a.k, a.r⟩), (gk27, 25, Sp.cells ⟨((((0 / 3) % 4) : Nat) : Int), (((((0 / 12) % 3) + 1) : Nat) : Int)⟩), (gk32, 5, ([.int .u8 ((((0 / 3) % 4) : Nat) : Int), .int .u8 (((((0 / 12) % 3) + 1) : Nat) : Int)]).toArray)]) := HF.out.set 2 rfl _
         generalize wk33.setRow gk24 (Hd.cells ⟨⟨⟨((((0 / 3) % 4) : Nat) : Int), (((((0 / 12) % 3) + 1) : Nat) : Int)⟩, ⟨(some ⟨gk32, 0, none⟩), 2, 2⟩⟩, a.k, a.r⟩) = wk34 at HF HK0 HK1 ⊢
         refine WL.nil ?_
         try simp only [pA, pB, p1, p2, p3]
         go_upto_region 16 with fail
         refine WL.start ?_
         refine tK (.slice la i lc) ?_
         try simp only [pA, pB, p1, p2, p3]
         refine tW (.agg (Hd.cells ⟨⟨⟨((((0 / 3) % 4) : Nat) : Int), (((((0 / 12) % 3) + 1) : Nat) : Int)⟩, ⟨(some ⟨gk32, 0, none⟩), 2, 2⟩⟩, a.k, a.r⟩)) (exec_load 35 _ rfl ⟨gk24, 0, none⟩ (by kernel_rfl) (.agg (Hd.cells ⟨⟨⟨((((0 / 3) % 4) : Nat) : Int), (((((0 / 12) % 3) + 1) : Nat) : Int)⟩, ⟨(some ⟨gk32, 0, none⟩), 2, 2⟩⟩, a.k, a.r⟩)) (run_load_part (cs := Hd.cs ⟨⟨⟨((((0 / 3) % 4) : Nat) : Int), (((((0 / 12) % 3) + 1) : Nat) : Int)⟩, ⟨(some ⟨gk32, 0, none⟩), 2, 2⟩⟩, a.k, a.r⟩) (sub := Hd.cs ⟨⟨⟨((((0 / 3) % 4) : Nat) : Int), (((((0 / 12) % 3) + 1) : Nat) : Int)⟩, ⟨(some ⟨gk32, 0, none⟩), 2, 2⟩⟩, a.k, a.r⟩) (HF.out.box 2 _ _ _ rfl) (Part.all _) Try.und35 rfl Try.size35)) ?_
         try simp only [pA, pB, p1, p2, p3]
         refine wp_runW (.slice (some ⟨wk34.heap.size, 0, none⟩) 1 1) (wk34.alloc (.cells (Hd.cells ⟨⟨⟨((((0 / 3) % 4) : Nat) : Int), (((((0 / 12) % 3) + 1) : Nat) : Int)⟩, ⟨(some ⟨gk32, 0, none⟩), 2, 2⟩⟩, a.k, a.r⟩) 35)) (exec_slice2 83 35 _ rfl (Hd.cells ⟨⟨⟨((((0 / 3) % 4) : Nat) : Int), (((((0 / 12) % 3) + 1) : Nat) : Int)⟩, ⟨(some ⟨gk32, 0, none⟩), 2, 2⟩⟩, a.k, a.r⟩) (.agg (Hd.cells ⟨⟨⟨((((0 / 3) % 4) : Nat) : Int), (((((0 / 12) % 3) + 1) : Nat) : Int)⟩, ⟨(some ⟨gk32, 0, none⟩), 2, 2⟩⟩, a.k, a.r⟩)) (by kernel_rfl) (by kernel_rfl)) (by kernel_rfl) ?_
         try simp only [pA, pB, p1, p2, p3]
         have hx0_gk35 : s0 ≤ wk34.heap.size := by rw [← HS0.out]; exact HK0.out.size
         have hx1_gk35 : s1 ≤ wk34.heap.size := by rw [← HS1.out]; exact HK1.out.size
         have HK0 : Hid (Kept No wr (wk34.alloc (.cells (Hd.cells ⟨⟨⟨((((0 / 3) % 4) : Nat) : Int), (((((0 / 12) % 3) + 1) : Nat) : Int)⟩, ⟨(some ⟨gk32, 0, none⟩), 2, 2⟩⟩, a.k, a.r⟩) 35))) := HK0.out.no ((Kept.refl No _).alloc _)
         have HK1 : Hid (Kept No wk23 (wk34.alloc (.cells (Hd.cells ⟨⟨⟨((((0 / 3) % 4) : Nat) : Int), (((((0 / 12) % 3) + 1) : Nat) : Int)⟩, ⟨(some ⟨gk32, 0, none⟩), 2, 2⟩⟩, a.k, a.r⟩) 35))) := HK1.out.no ((Kept.refl No _).alloc _)
         have HF : Hid (Fr No w (wk34.alloc (.cells (Hd.cells ⟨⟨⟨((((0 / 3) % 4) : Nat) : Int), (((((0 / 12) % 3) + 1) : Nat) : Int)⟩, ⟨(some ⟨gk32, 0, none⟩), 2, 2⟩⟩, a.k, a.r⟩) 35)) [(gk2, 23, Ky.cells ⟨1, 3, 1, 0⟩), (gk21, 3, ([.int .i64 (((0 / 25200) : Nat) : Int), .int .i64 (((0 / 100000) : Nat) : Int), .int .i64 (((0 / 7) : Nat) : Int)]).toArray), (gk24, 35, Hd.cells ⟨⟨⟨((((0 / 3) % 4) : Nat) : Int), (((((0 / 12) % 3) + 1) : Nat) : Int)⟩, ⟨(some ⟨gk32, 0, none⟩), 2, 2⟩⟩, a.k, a.r⟩), (gk27, 25, Sp.cells ⟨((((0 / 3) % 4) : Nat) : Int), (((((0 / 12) % 3) + 1) : Nat) : Int)⟩), (gk32, 5, ([.int .u8 ((((0 / 3) % 4) : Nat) : Int), .int .u8 (((((0 / 12) % 3) + 1) : Nat) : Int)]).toArray), (wk34.heap.size, 35, Hd.cells ⟨⟨⟨((((0 / 3) % 4) : Nat) : Int), (((((0 / 12) % 3) + 1) : Nat) : Int)⟩, ⟨(some ⟨gk32, 0, none⟩), 2, 2⟩⟩, a.k, a.r⟩)]) := HF.out.alloc _ _
         generalize wk34.alloc (.cells (Hd.cells ⟨⟨⟨((((0 / 3) % 4) : Nat) : Int), (((((0 / 12) % 3) + 1) : Nat) : Int)⟩, ⟨(some ⟨gk32, 0, none⟩), 2, 2⟩⟩, a.k, a.r⟩) 35) = wk36 at HF HK0 HK1 ⊢
         generalize wk34.heap.size = gk35 at HF hx0_gk35 hx1_gk35 ⊢
         have HO : Hid (Own 35 7 wk36 w.heap.size la lc i (svL i X)) := HOs.out.no HK0.out
         have HM : Hid (MemS wk36 i X) := HMs.out.no HK0.out
         have hlow : ∀ k, At la k → k < s0 := fun k e => by rw [← HS0.out]; exact HOs.out.lt e
         obtain ⟨sa1, cap1, wa1, hrun, hown, hk2, hat2⟩ := run_appN (w := wk36) 83 83 35 7 120 (.agg hdZ.cells) Try.und83 Try.info35 rfl (by omega) w.heap.size i lc la (svL i X) HO.out (some ⟨gk35, 0, none⟩) 1 1 (Hd.cs ⟨⟨⟨((((0 / 3) % 4) : Nat) : Int), (((((0 / 12) % 3) + 1) : Nat) : Int)⟩, ⟨(some ⟨gk32, 0, none⟩), 2, 2⟩⟩, a.k, a.r⟩) rfl (fun e => by cases e) (fun j u hj => ⟨_, rfl, by rw [addr_add, Nat.zero_add, (HF.out.box 5 _ _ _ rfl).cell]; exact cell_hd _ _ _ hj⟩) (Hd.oneL _) (by omega) (by omega) (by have := HF.out.kept.size; omega)
         have HY : Hid (Sv.at wk36 ⟨⟨⟨⟨(((0 / 3 % 4) : Nat) : Int), (((0 / 12 % 3 + 1) : Nat) : Int)⟩, ⟨some ⟨gk32, 0, none⟩, 2, 2⟩⟩, a.k, a.r⟩, [(((0 / 3 % 4) : Nat) : Int), (((0 / 12 % 3 + 1) : Nat) : Int)], ae, [], ap⟩) := ⟨⟨Box.nums (zs := [(((0 / 3 % 4) : Nat) : Int), (((0 / 12 % 3 + 1) : Nat) : Int)]) (HF.out.box 4 _ _ _ rfl) 2, rfl, fun e => by cases e⟩, (HHn.out.no HK1.out).e, (HHn.out.no HK1.out).l, (HHn.out.no HK1.out).p, by show 2 ≤ _; omega, HHn.out.ne, HHn.out.nl, HHn.out.np⟩
         have HYw : Hid (Sv.wl ⟨⟨⟨⟨(((0 / 3 % 4) : Nat) : Int), (((0 / 12 % 3 + 1) : Nat) : Int)⟩, ⟨some ⟨gk32, 0, none⟩, 2, 2⟩⟩, a.k, a.r⟩, [(((0 / 3 % 4) : Nat) : Int), (((0 / 12 % 3 + 1) : Nat) : Int)], ae, [], ap⟩) := by
           have hW : Wl a [] ae [] ap := HIn.out.wl (by have := up_le 0; omega) (by omega)
           exact ⟨hW.may, hW.cm, hW.bk, .inr ⟨of_decide_eq_true q2, rfl⟩, hW.hi⟩
         have HYo : Hid (Sv.off (At la) ⟨⟨⟨⟨(((0 / 3 % 4) : Nat) : Int), (((0 / 12 % 3 + 1) : Nat) : Int)⟩, ⟨some ⟨gk32, 0, none⟩, 2, 2⟩⟩, a.k, a.r⟩, [(((0 / 3 % 4) : Nat) : Int), (((0 / 12 % 3 + 1) : Nat) : Int)], ae, [], ap⟩) := ⟨fun _ k e f => by obtain ⟨ad, e1, e2⟩ := e; cases e1; subst e2; have h1 : gk32 < s0 := hlow _ f; have h2 := hx0_gk32; omega, (HOn.out.mono hlow).2.1, (HOn.out.mono hlow).2.2.1, (HOn.out.mono hlow).2.2.2⟩
         have HF1 : Fr No w wk36 [(gk2, 23, Ky.cells ⟨1, 3, 1, 0⟩)] := (show Fr No w wk36 ([(gk2, 23, Ky.cells ⟨1, 3, 1, 0⟩)] ++ [(gk21, 3, ([.int .i64 (((0 / 25200) : Nat) : Int), .int .i64 (((0 / 100000) : Nat) : Int), .int .i64 (((0 / 7) : Nat) : Int)]).toArray), (gk24, 35, Hd.cells ⟨⟨⟨((((0 / 3) % 4) : Nat) : Int), (((((0 / 12) % 3) + 1) : Nat) : Int)⟩, ⟨(some ⟨gk32, 0, none⟩), 2, 2⟩⟩, a.k, a.r⟩), (gk27, 25, Sp.cells ⟨((((0 / 3) % 4) : Nat) : Int), (((((0 / 12) % 3) + 1) : Nat) : Int)⟩), (gk32, 5, ([.int .u8 ((((0 / 3) % 4) : Nat) : Int), .int .u8 (((((0 / 12) % 3) + 1) : Nat) : Int)]).toArray), (gk35, 35, Hd.cells ⟨⟨⟨((((0 / 3) % 4) : Nat) : Int), (((((0 / 12) % 3) + 1) : Nat) : Int)⟩, ⟨(some ⟨gk32, 0, none⟩), 2, 2⟩⟩, a.k, a.r⟩)]) from HF.out).front
         refine wp_runW (.slice sa1 (i + 1) cap1) wa1 (exec_appN _ _ 83 83 rfl _ _ (by kernel_rfl) (by kernel_rfl) hrun) (by kernel_rfl) ?_
         try simp only [pA, pB, p1, p2, p3]
         have HF : Hid (Fr No w wa1 [(gk2, 23, Ky.cells ⟨1, 3, 1, 0⟩)]) := HF1.app HO.out hk2 (by simp)
         have HM2 : Hid (MemS wa1 i X) := HM.out.kept HOf.out hk2 (fun k e => e)
         have HM3 : Hid (MemS wa1 (i + 1) (updS X i ⟨⟨⟨⟨(((0 / 3 % 4) : Nat) : Int), (((0 / 12 % 3 + 1) : Nat) : Int)⟩, ⟨some ⟨gk32, 0, none⟩, 2, 2⟩⟩, a.k, a.r⟩, [(((0 / 3 % 4) : Nat) : Int), (((0 / 12 % 3 + 1) : Nat) : Int)], ae, [], ap⟩)) := MemS.snoc HM2.out (HdAt.keptG HY.out HYo.out hk2 (fun k e => e))
         have HO3 : Hid (Own 35 7 wa1 w.heap.size sa1 cap1 (i + 1) (svL (i + 1) (updS X i ⟨⟨⟨⟨(((0 / 3 % 4) : Nat) : Int), (((0 / 12 % 3 + 1) : Nat) : Int)⟩, ⟨some ⟨gk32, 0, none⟩, 2, 2⟩⟩, a.k, a.r⟩, [(((0 / 3 % 4) : Nat) : Int), (((0 / 12 % 3 + 1) : Nat) : Int)], ae, [], ap⟩))) := by show Own _ _ _ _ _ _ _ _; rw [svL_succ]; exact hown
         have HOf3 : Hid (OffS (At sa1) (i + 1) (updS X i ⟨⟨⟨⟨(((0 / 3 % 4) : Nat) : Int), (((0 / 12 % 3 + 1) : Nat) : Int)⟩, ⟨some ⟨gk32, 0, none⟩, 2, 2⟩⟩, a.k, a.r⟩, [(((0 / 3 % 4) : Nat) : Int), (((0 / 12 % 3 + 1) : Nat) : Int)], ae, [], ap⟩)) := OffS.of (W := wk36) (G1 := At la) (OffS.snoc HOf.out HYo.out) (MemS.snoc HM.out HY.out) (fun k e => (hat2 k e).elim .inl (fun e => .inr (by omega)))
         have HW3 : Hid (WlS (i + 1) (updS X i ⟨⟨⟨⟨(((0 / 3 % 4) : Nat) : Int), (((0 / 12 % 3 + 1) : Nat) : Int)⟩, ⟨some ⟨gk32, 0, none⟩, 2, 2⟩⟩, a.k, a.r⟩, [(((0 / 3 % 4) : Nat) : Int), (((0 / 12 % 3 + 1) : Nat) : Int)], ae, [], ap⟩)) := WlS.snoc HW.out HYw.out
         clear hrun hown hk2 hat2 HF1 HM HM2 HO HY HYo HYw hlow
         refine tK (.slice sa1 (i + 1) cap1) ?_
         try simp only [pA, pB, p1, p2, p3]
         refine WL.nil ?_
         try simp only [pA, pB, p1, p2, p3]
         go_upto_region 8 with fail
         refine WL.start ?_
         refine tK (.int .i64 ((i : Nat) : Int)) ?_
         try simp only [pA, pB, p1, p2, p3]
         refine tW (.int .i64 (((i + 1) : Nat) : Int)) (exec_bin .add 3 _ _ _ rfl (.int .i64 ((i : Nat) : Int)) (.int .i64 1) (.int .i64 (((i + 1) : Nat) : Int)) (by kernel_rfl) (by kernel_rfl) (by kernel_rfl) (b_addw _ _ _ (by rw [IntKind.wrap_i64]; omega) _)) ?_
         try simp only [pA, pB, p1, p2, p3]
         refine tK (.int .i64 (((i + 1) : Nat) : Int)) ?_
         try simp only [pA, pB, p1, p2, p3]
         refine WL.nil ?_
         try simp only [pA, pB, p1, p2, p3]
         go_wp2
         go_roundw
         case rel => exact ⟨i + 1, sa1, cap1, updS X i ⟨⟨⟨⟨(((0 / 3 % 4) : Nat) : Int), (((0 / 12 % 3 + 1) : Nat) : Int)⟩, ⟨some ⟨gk32, 0, none⟩, 2, 2⟩⟩, a.k, a.r⟩, [(((0 / 3 % 4) : Nat) : Int), (((0 / 12 % 3 + 1) : Nat) : Int)], ae, [], ap⟩, rfl, by go_num, by omega, HO3, HM3, HOf3, HW3, HF⟩
         case measure => simp [intOf]; omega
    · skip
      go_upto_region 7 with fail
      refine WL.start ?_
      refine tK (.int .i64 ((i : Nat) : Int)) ?_
      try simp only [pA, pB, p1, p2, p3]
      refine tK (.int .i64 ((n : Nat) : Int)) ?_
      try simp only [pA, pB, p1, p2, p3]
      refine tW (.bool false) (exec_bin .lss 3 _ _ _ rfl (.int .i64 ((i : Nat) : Int)) (.int .i64 ((n : Nat) : Int)) (.bool false) (by kernel_rfl) (by kernel_rfl) (by kernel_rfl) (by rw [b_lss, decide_eq_false (by omega)])) ?_
      try simp only [pA, pB, p1, p2, p3]
      refine WL.nil ?_
      try simp only [pA, pB, p1, p2, p3]
      have hin : n = i := by omega
      subst hin
      have HOs : Hid (Own 35 7 wr w.heap.size la lc n (svL n X)) := HO
      have HMs : Hid (MemS wr n X) := HM
      clear HO HM hlt hi
      have HK0 : Hid (Kept No wr wr) := Kept.refl _ _
      obtain ⟨s0, hs0⟩ : ∃ n, wr.heap.size = n := ⟨_, rfl⟩
      have HS0 : Hid (wr.heap.size = s0) := hs0
      clear hs0
      go_upto_region 17 with fail
      refine WL.start ?_
      refine wp_runW (.slice (some ⟨wr.heap.size, 0, none⟩) 0 0) (wr.alloc (.cells (([]).toArray) 35)) (exec_sliceN 0 83 35 _ rfl (([]).toArray) #[] (by kernel_rfl) (by kernel_rfl)) (by kernel_rfl) ?_
      try simp only [pA, pB, p1, p2, p3]
      have hx0_gk37 : s0 ≤ wr.heap.size := by rw [← HS0.out]; exact HK0.out.size
      have HK0 : Hid (Kept No wr (wr.alloc (.cells (([]).toArray) 35))) := HK0.out.no ((Kept.refl No _).alloc _)
      have HF : Hid (Fr No w (wr.alloc (.cells (([]).toArray) 35)) [(gk2, 23, Ky.cells ⟨1, 3, 1, 0⟩), (wr.heap.size, 35, ([]).toArray)]) := HF.out.alloc _ _
      generalize wr.alloc (.cells (([]).toArray) 35) = wk38 at HF HK0 ⊢
      generalize wr.heap.size = gk37 at HF hx0_gk37 ⊢
      refine tK (.slice la n lc) ?_
      try simp only [pA, pB, p1, p2, p3]
      have HO : Hid (Own 35 7 wk38 w.heap.size la lc n (svL n X)) := HOs.out.no HK0.out
      have HM : Hid (MemS wk38 n X) := HMs.out.no HK0.out
      have hlow : ∀ k, At la k → k < s0 := fun k e => by rw [← HS0.out]; exact HOs.out.lt e
      have hown0 : Own 35 7 wk38 w.heap.size (some ⟨gk37, 0, none⟩) 0 0 [] := Own.shut (cur := []) (HF.out.low 1 _ _ _ rfl) (HF.out.box 1 _ _ _ rfl) (Nat.le_refl _) (by omega) rfl rfl
      obtain ⟨fa, fc, wf, hrun, hown, hk2, hat2⟩ := run_appN (w := wk38) 83 83 35 7 120 (.agg hdZ.cells) Try.und83 Try.info35 rfl (by omega) w.heap.size 0 0 (some ⟨gk37, 0, none⟩) [] hown0 la n lc (svL n X) (svL_len _ _) HO.out.cap0 HO.out.src (hdL_one _) (by omega) (by omega) (by have := HF.out.kept.size; omega)
      rw [Nat.zero_add] at hrun hown
      rw [List.nil_append] at hown
      have HF1 : Fr No w wk38 [(gk2, 23, Ky.cells ⟨1, 3, 1, 0⟩)] := (show Fr No w wk38 ([(gk2, 23, Ky.cells ⟨1, 3, 1, 0⟩)] ++ [(gk37, 35, ([]).toArray)]) from HF.out).front
      refine wp_runW (.slice fa n fc) wf (exec_appN _ _ 83 83 rfl _ _ (by kernel_rfl) (by kernel_rfl) hrun) (by kernel_rfl) ?_
      try simp only [pA, pB, p1, p2, p3]
      have hF2 : Fr No w wf [(gk2, 23, Ky.cells ⟨1, 3, 1, 0⟩)] := HF1.app hown0 hk2 (by simp)
      have hatg : ∀ k, At (some (⟨gk37, 0, none⟩ : Addr)) k → wr.heap.size ≤ k := fun k e => by obtain ⟨ad, e1, e2⟩ := e; cases e1; subst e2; rw [HS0.out]; exact hx0_gk37
      have hO2 : Own 35 7 wf w.heap.size la lc n (svL n X) := HO.out.kept hk2 (fun k e f => by have h1 := hlow k e; have h2 := hatg k f; rw [HS0.out] at h2; omega)
      have hM2 : MemS wf n X := HM.out.kept (OffS.start HMs.out hatg) hk2 (fun k e => e)
      have hsW : wr.heap.size ≤ wk38.heap.size := HK0.out.size
      obtain ⟨gl, sl, ela, hgl, hbl⟩ := hO2.box (by omega)
      subst ela
      obtain ⟨gf, sf, efa, hgf, hbf⟩ := hown.box (by omega)
      subst efa
      have hlow2 : gl < wr.heap.size := by rw [HS0.out]; exact hlow gl ⟨_, rfl, rfl⟩
      have hgf2 : wr.heap.size ≤ gf := (hat2 gf ⟨_, rfl, rfl⟩).elim (hatg gf) (fun e => by omega)
      have hF3 : Fr No w wf ([(gk2, 23, Ky.cells ⟨1, 3, 1, 0⟩)] ++ [(gl, 35, (svL n X ++ sl).toArray)]) := hF2.ins hgl hbl (fun x hx => by rcases List.mem_singleton.1 hx with rfl; exact box_ne (hF2.box 0 _ _ _ rfl) hbl (by decide))
      have HF : Hid (Fr No w wf [(gk2, 23, Ky.cells ⟨1, 3, 1, 0⟩), (gl, 35, (svL n X ++ sl).toArray), (gf, 35, (svL n X ++ sf).toArray)]) := hF3.ins hgf hbf (fun x hx => by
        rcases List.mem_append.1 hx with hx | hx
        · rcases List.mem_singleton.1 hx with rfl; exact box_ne (hF2.box 0 _ _ _ rfl) hbf (by decide)
        · rcases List.mem_singleton.1 hx with rfl; show gl ≠ gf; omega)
      have HO2 : Hid (OffS (fun k => k = gl ∨ k = gf) n X) := OffS.of (G1 := At (some (⟨gl, 0, none⟩ : Addr))) (W := wr) HOf.out HMs.out (fun k e => e.elim (fun e => .inl ⟨_, rfl, e.symm⟩) (fun e => .inr (by rw [e]; exact hgf2)))
      have HM : Hid (MemS wf n X) := hM2
      clear hrun hown hk2 hat2 HF1 hown0 hlow hF2 hF3 hatg hO2 hM2 hsW hgl hbl hgf hbf hlow2 hgf2 HO HOs HMs HK0 HS0 hx0_gk37 HOf
      refine tK (.slice (some ⟨gf, 0, none⟩) n fc) ?_
      try simp only [pA, pB, p1, p2, p3]
      refine WL.nil ?_
      try simp only [pA, pB, p1, p2, p3]
      obtain ⟨N, hN⟩ : ∃ N, N = n * n := ⟨_, rfl⟩
      have hNb : 4 ≤ N ∧ N ≤ 25 := by
        have h1 := Nat.mul_le_mul hn2.1 hn2.1
        have h2 := Nat.mul_le_mul hn2.2 hn2.2
        omega
      have HN : Hid (N = n * n) := hN
      clear hN
      go_upto_region 18 with fail
      refine WL.start ?_
      refine tK (.slice none 0 0) ?_
      try simp only [pA, pB, p1, p2, p3]
      refine WL.nil ?_
      try simp only [pA, pB, p1, p2, p3]
      go_upto_region 19 with fail
      refine WL.start ?_
      refine tK (.int .i64 0) ?_
      try simp only [pA, pB, p1, p2, p3]
      refine WL.nil ?_
      try simp only [pA, pB, p1, p2, p3]
      go_wp2
      go_loopw [15, 16] (fun v15 v16 wr => ∃ (p : Nat) (qa : Option Addr) (qc : Nat), v15 = .slice qa p qc ∧ v16 = .int .i64 ((p : Nat) : Int) ∧ p ≤ N ∧ Hid (Own 3 1 wr w.heap.size qa qc p (nuL p (fun j => j))) ∧ Hid (MemS wr n X) ∧ Hid (OffS (At qa) n X) ∧ Hid (Fr No w wr [(gk2, 23, Ky.cells ⟨1, 3, 1, 0⟩), (gl, 35, (svL n X ++ sl).toArray), (gf, 35, (svL n X ++ sf).toArray)])) (fun i15 i16 _ => N - (intOf i16).toNat)
      case atStart => exact ⟨0, none, 0, rfl, by go_num, by omega, Own.nil _ _ _ _, HM, (fun j hj => HdOff.start (HM.out j hj) (fun k e => absurd e At.none)), HF⟩
      case round =>
        clear HF HM
        obtain ⟨p, qa, qc, rfl, rfl, hp, HQ, HM, HOq, HF⟩ := hrel
        by_cases hlt : p < N
        · skip
          go_upto_region 20 with fail
          refine WL.start ?_
          refine tK (.int .i64 ((p : Nat) : Int)) ?_
          try simp only [pA, pB, p1, p2, p3]
          refine tK (.int .i64 ((n : Nat) : Int)) ?_
          try simp only [pA, pB, p1, p2, p3]
          refine tK (.int .i64 ((n : Nat) : Int)) ?_
          try simp only [pA, pB, p1, p2, p3]
          refine tW (.int .i64 ((N : Nat) : Int)) (exec_bin .mul 3 _ _ _ rfl (.int .i64 ((n : Nat) : Int)) (.int .i64 ((n : Nat) : Int)) (.int .i64 ((N : Nat) : Int)) (by kernel_rfl) (by kernel_rfl) (by kernel_rfl) (b_mulN n n N HN.out.symm (by omega) _)) ?_
          try simp only [pA, pB, p1, p2, p3]
          refine tW (.bool true) (exec_bin .lss 3 _ _ _ rfl (.int .i64 ((p : Nat) : Int)) (.int .i64 ((N : Nat) : Int)) (.bool true) (by kernel_rfl) (by kernel_rfl) (by kernel_rfl) (by rw [b_lss, decide_eq_true (by omega)])) ?_
          try simp only [pA, pB, p1, p2, p3]
          refine WL.nil ?_
          try simp only [pA, pB, p1, p2, p3]
          go_upto_region 22 with fail
          refine WL.start ?_
          refine tK (.slice qa p qc) ?_
          try simp only [pA, pB, p1, p2, p3]
          refine tK (.int .i64 ((p : Nat) : Int)) ?_
          try simp only [pA, pB, p1, p2, p3]
          refine wp_runW (.slice (some ⟨wr.heap.size, 0, none⟩) 1 1) (wr.alloc (.cells (#[.int .i64 ((p : Nat) : Int)]) 3)) (exec_slice2 74 3 _ rfl (#[.int .i64 ((p : Nat) : Int)]) (.int .i64 ((p : Nat) : Int)) (by kernel_rfl) (by kernel_rfl)) (by kernel_rfl) ?_
          try simp only [pA, pB, p1, p2, p3]
          have HQ : Hid (Own 3 1 (wr.alloc (.cells (#[.int .i64 ((p : Nat) : Int)]) 3)) w.heap.size qa qc p (nuL p (fun j => j))) := HQ.out.no ((Kept.refl No _).alloc _)
          have HM : Hid (MemS (wr.alloc (.cells (#[.int .i64 ((p : Nat) : Int)]) 3)) n X) := HM.out.no ((Kept.refl No _).alloc _)
          have HF : Hid (Fr No w (wr.alloc (.cells (#[.int .i64 ((p : Nat) : Int)]) 3)) [(gk2, 23, Ky.cells ⟨1, 3, 1, 0⟩), (gl, 35, (svL n X ++ sl).toArray), (gf, 35, (svL n X ++ sf).toArray), (wr.heap.size, 3, #[.int .i64 ((p : Nat) : Int)])]) := HF.out.alloc _ _
          generalize wr.alloc (.cells (#[.int .i64 ((p : Nat) : Int)]) 3) = wk40 at HF HQ HM ⊢
          generalize wr.heap.size = gk39 at HF ⊢
          obtain ⟨qa1, qc1, wq1, hrun, hown, hk2, hat2⟩ := run_appN (w := wk40) 74 74 3 1 8 (.int .i64 0) Try.und74 Try.info3 rfl (by omega) w.heap.size p qc qa (nuL p (fun j => j)) HQ.out (some ⟨gk39, 0, none⟩) 1 1 [.int .i64 ((p : Nat) : Int)] rfl (fun e => by cases e) (fun j u hj => ⟨_, rfl, by rw [addr_add, Nat.zero_add, (HF.out.box 3 _ _ _ rfl).cell]; exact cell_1v _ _ _ hj⟩) (by simp [Value.oneCell']) (by omega) (by omega) (by have := HF.out.kept.size; omega)
          have HF1 : Fr No w wk40 [(gk2, 23, Ky.cells ⟨1, 3, 1, 0⟩), (gl, 35, (svL n X ++ sl).toArray), (gf, 35, (svL n X ++ sf).toArray)] := (show Fr No w wk40 ([(gk2, 23, Ky.cells ⟨1, 3, 1, 0⟩), (gl, 35, (svL n X ++ sl).toArray), (gf, 35, (svL n X ++ sf).toArray)] ++ [(gk39, 3, #[.int .i64 ((p : Nat) : Int)])]) from HF.out).front
          refine wp_runW (.slice qa1 (p + 1) qc1) wq1 (exec_appN _ _ 74 74 rfl _ _ (by kernel_rfl) (by kernel_rfl) hrun) (by kernel_rfl) ?_
          try simp only [pA, pB, p1, p2, p3]
          have HF : Hid (Fr No w wq1 [(gk2, 23, Ky.cells ⟨1, 3, 1, 0⟩), (gl, 35, (svL n X ++ sl).toArray), (gf, 35, (svL n X ++ sf).toArray)]) := HF1.app HQ.out hk2 (by simp)
          have HOq2 : Hid (OffS (At qa1) n X) := OffS.of (W := wk40) (G1 := At qa) HOq.out HM.out (fun k e => (hat2 k e).elim .inl (fun e => .inr (by omega)))
          have HM : Hid (MemS wq1 n X) := HM.out.kept HOq.out hk2 (fun k e => e)
          have HQ : Hid (Own 3 1 wq1 w.heap.size qa1 qc1 (p + 1) (nuL (p + 1) (fun j => j))) := by show Own _ _ _ _ _ _ _ _; rw [nuL_succ]; exact hown
          clear hrun hown hk2 hat2 HF1 HOq
          refine tK (.slice qa1 (p + 1) qc1) ?_
          try simp only [pA, pB, p1, p2, p3]
          refine WL.nil ?_
          try simp only [pA, pB, p1, p2, p3]
          go_upto_region 21 with fail
          refine WL.start ?_
          refine tK (.int .i64 ((p : Nat) : Int)) ?_
          try simp only [pA, pB, p1, p2, p3]
          refine tW (.int .i64 (((p + 1) : Nat) : Int)) (exec_bin .add 3 _ _ _ rfl (.int .i64 ((p : Nat) : Int)) (.int .i64 1) (.int .i64 (((p + 1) : Nat) : Int)) (by kernel_rfl) (by kernel_rfl) (by kernel_rfl) (b_addw _ _ _ (by rw [IntKind.wrap_i64]; omega) _)) ?_
          try simp only [pA, pB, p1, p2, p3]
          refine tK (.int .i64 (((p + 1) : Nat) : Int)) ?_
          try simp only [pA, pB, p1, p2, p3]
          refine WL.nil ?_
          try simp only [pA, pB, p1, p2, p3]
          go_wp2
          go_roundw
          case rel => exact ⟨p + 1, qa1, qc1, rfl, by go_num, by omega, HQ, HM, HOq2, HF⟩
          case measure => simp [intOf]; omega
        · skip
          go_upto_region 20 with fail
          refine WL.start ?_
          refine tK (.int .i64 ((p : Nat) : Int)) ?_
          try simp only [pA, pB, p1, p2, p3]
          refine tK (.int .i64 ((n : Nat) : Int)) ?_
          try simp only [pA, pB, p1, p2, p3]
          refine tK (.int .i64 ((n : Nat) : Int)) ?_
          try simp only [pA, pB, p1, p2, p3]
          refine tW (.int .i64 ((N : Nat) : Int)) (exec_bin .mul 3 _ _ _ rfl (.int .i64 ((n : Nat) : Int)) (.int .i64 ((n : Nat) : Int)) (.int .i64 ((N : Nat) : Int)) (by kernel_rfl) (by kernel_rfl) (by kernel_rfl) (b_mulN n n N HN.out.symm (by omega) _)) ?_
          try simp only [pA, pB, p1, p2, p3]
          refine tW (.bool false) (exec_bin .lss 3 _ _ _ rfl (.int .i64 ((p : Nat) : Int)) (.int .i64 ((N : Nat) : Int)) (.bool false) (by kernel_rfl) (by kernel_rfl) (by kernel_rfl) (by rw [b_lss, decide_eq_false (by omega)])) ?_
          try simp only [pA, pB, p1, p2, p3]
          refine WL.nil ?_
          try simp only [pA, pB, p1, p2, p3]
          have hin : N = p := by omega
          subst hin
          obtain ⟨gp, sp, eqa, hgp, hbp⟩ := HQ.out.box (by omega)
          subst eqa
          have HF : Hid (Fr No w wr ([(gk2, 23, Ky.cells ⟨1, 3, 1, 0⟩), (gl, 35, (svL n X ++ sl).toArray), (gf, 35, (svL n X ++ sf).toArray)] ++ [(gp, 3, (nuL N (fun j => j) ++ sp).toArray)])) := HF.out.ins hgp hbp (fun x hx => by
            rcases List.mem_cons.1 hx with rfl | hx
            · exact box_ne (HF.out.box 0 _ _ _ rfl) hbp (by decide)
            · rcases List.mem_cons.1 hx with rfl | hx
              · exact box_ne (HF.out.box 1 _ _ _ rfl) hbp (by decide)
              · rcases List.mem_singleton.1 hx with rfl
                exact box_ne (HF.out.box 2 _ _ _ rfl) hbp (by decide))
          have HOG : Hid (OffS (fun k => k = gl ∨ k = gf ∨ k = gp) n X) := OffS.or HO2.out HOq.out (fun k e => by rcases e with e | e | e; exact .inl (.inl e); exact .inl (.inr e); exact .inr ⟨_, rfl, e.symm⟩)
          have HP : Hid (Perm N (fun j => j)) := Perm.id N
          clear hgp hbp HQ HOq HO2 hlt hp
          have HF : Hid (Fr No w (wr) [(gk2, 23, Ky.cells ⟨1, 3, 1, 0⟩), (gl, 35, (svL n X ++ sl).toArray), (gf, 35, (svL n X ++ sf).toArray), (gp, 3, (nuL N (fun j => j) ++ sp).toArray)]) := HF
          go_upto_region 23 with fail
          refine WL.start ?_
          refine tK (.int .i64 0) ?_
          try simp only [pA, pB, p1, p2, p3]
          refine WL.nil ?_
          try simp only [pA, pB, p1, p2, p3]
          go_wp2
          go_loopw [17, 18, 19, 20] (fun v17 v18 v19 v20 wr => ∃ (i : Nat) (f : Nat → Nat), v17 = .int .i64 ((i : Nat) : Int) ∧ i ≤ on ∧ Hid (Perm N f) ∧ Hid (MemS wr n X) ∧ Hid (Fr No w wr [(gk2, 23, Ky.cells ⟨1, 3, 1, 0⟩), (gl, 35, (svL n X ++ sl).toArray), (gf, 35, (svL n X ++ sf).toArray), (gp, 3, (nuL N f ++ sp).toArray)])) (fun i17 i18 i19 i20 _ => on - (intOf i17).toNat)
          case atStart => exact ⟨0, fun j => j, by go_num, by omega, HP, HM, HF⟩
          case round =>
            clear HF HM HP
            obtain ⟨i, f, rfl, hi, HP, HM, HF⟩ := hrel
            by_cases hlt : i < on
            · skip
              obtain ⟨pb, po, hca, hcz⟩ := HOS.out i (by rw [hol]; exact hlt)
              obtain ⟨z, hz⟩ : ∃ z, z = os[i]?.getD 0 := ⟨_, rfl⟩
              rw [← hz] at hcz
              have cz : Hid (w.cell? ⟨pb, po + i * 1, none⟩ = some (.int .i64 z)) := by show _ = _; rw [Nat.mul_one]; exact hcz
              have hsl : Hid (Value.slice oa on oc = .slice (some ⟨pb, po, none⟩) on oc) := congrArg (fun x => Value.slice x on oc) hca
              clear hca hcz hz
              go_upto_region 24 with fail
              refine WL.start ?_
              refine tK (.int .i64 ((i : Nat) : Int)) ?_
              try simp only [pA, pB, p1, p2, p3]
              refine tK (.slice oa on oc) ?_
              try simp only [pA, pB, p1, p2, p3]
              refine tK (.int .i64 ((on : Nat) : Int)) ?_
              try simp only [pA, pB, p1, p2, p3]
              refine tW (.bool true) (exec_bin .lss 3 _ _ _ rfl (.int .i64 ((i : Nat) : Int)) (.int .i64 ((on : Nat) : Int)) (.bool true) (by kernel_rfl) (by kernel_rfl) (by kernel_rfl) (by rw [b_lss, decide_eq_true (by omega)])) ?_
              try simp only [pA, pB, p1, p2, p3]
              refine WL.nil ?_
              try simp only [pA, pB, p1, p2, p3]
              go_upto_region 26 with fail
              refine WL.start ?_
              refine tK (.int .i64 ((i : Nat) : Int)) ?_
              try simp only [pA, pB, p1, p2, p3]
              refine tK (.slice (some ⟨gp, 0, none⟩) N qc) ?_
              try simp only [pA, pB, p1, p2, p3]
              refine tK (.int .i64 ((N : Nat) : Int)) ?_
              try simp only [pA, pB, p1, p2, p3]
              refine tW (.int .i64 (((i % N) : Nat) : Int)) (exec_bin .rem 3 _ _ _ rfl (.int .i64 ((i : Nat) : Int)) (.int .i64 ((N : Nat) : Int)) (.int .i64 (((i % N) : Nat) : Int)) (by kernel_rfl) (by kernel_rfl) (by kernel_rfl) (b_remN i N _ rfl (by omega) _)) ?_
              try simp only [pA, pB, p1, p2, p3]
              refine tK (.int .i64 (((i % N) : Nat) : Int)) ?_
              try simp only [pA, pB, p1, p2, p3]
              refine WL.nil ?_
              try simp only [pA, pB, p1, p2, p3]
              have ha3 : i % N < N := Nat.mod_lt _ (by omega)
              generalize i % N = a3 at ha3 ⊢
              go_upto_region 27 with fail
              refine WL.start ?_
              refine tK (.slice oa on oc) ?_
              try simp only [pA, pB, p1, p2, p3]
              refine tK (.int .i64 ((i : Nat) : Int)) ?_
              try simp only [pA, pB, p1, p2, p3]
              refine tW (.pointer (some ⟨pb, po + i * 1, none⟩)) (exec_ixA 74 1 Try.und74e Try.size74e _ _ rfl pb po on oc i (Eq.trans (b := .slice oa on oc) (by kernel_rfl) hsl.out) (by kernel_rfl) hlt) ?_
              try simp only [pA, pB, p1, p2, p3]
              refine tW (.int .i64 z) (exec_load 3 _ rfl ⟨pb, po + i * 1, none⟩ (by kernel_rfl) (.int .i64 z) (load_one (HF.out.kept.cell (cz.out) (fun e => e)) Try.und3 rfl)) ?_
              try simp only [pA, pB, p1, p2, p3]
              refine tK (.slice (some ⟨gp, 0, none⟩) N qc) ?_
              try simp only [pA, pB, p1, p2, p3]
              refine tK (.int .i64 ((N : Nat) : Int)) ?_
              try simp only [pA, pB, p1, p2, p3]
              refine wp_callW 26 #[.int .i64 z, .int .i64 ((N : Nat) : Int)] (by kernel_rfl) _ (rnd_any z N _ (by omega) (by omega)) (by kernel_rfl) ?_
              rintro e wq ⟨r3, hr3, rfl, hwq⟩
              rw [hwq]
              clear hwq wq
              refine ⟨.int .i64 ((r3 : Nat) : Int), rfl, ?_⟩
              try simp only [pA, pB, p1, p2, p3]
              refine tK (.int .i64 ((r3 : Nat) : Int)) ?_
              try simp only [pA, pB, p1, p2, p3]
              refine WL.nil ?_
              try simp only [pA, pB, p1, p2, p3]
              go_upto_region 28 with fail
              refine WL.start ?_
              refine tK (.slice (some ⟨gp, 0, none⟩) N qc) ?_
              try simp only [pA, pB, p1, p2, p3]
              refine tK (.int .i64 ((a3 : Nat) : Int)) ?_
              try simp only [pA, pB, p1, p2, p3]
              refine tW (.pointer (some ⟨gp, 0 + a3 * 1, none⟩)) (exec_ixA 74 1 Try.und74e Try.size74e _ _ rfl gp 0 N qc a3 (by kernel_rfl) (by kernel_rfl) ha3) ?_
              try simp only [pA, pB, p1, p2, p3]
              refine tW (.int .i64 (((f a3) : Nat) : Int)) (exec_load 3 _ rfl ⟨gp, 0 + a3 * 1, none⟩ (by kernel_rfl) (.int .i64 (((f a3) : Nat) : Int)) (load_one (row_N (HF.out.box 3 _ _ _ rfl) ha3) Try.und3 rfl)) ?_
              try simp only [pA, pB, p1, p2, p3]
              refine tK (.int .i64 (((f a3) : Nat) : Int)) ?_
              try simp only [pA, pB, p1, p2, p3]
              refine WL.nil ?_
              try simp only [pA, pB, p1, p2, p3]
              go_upto_region 29 with fail
              refine WL.start ?_
              refine tK (.slice (some ⟨gp, 0, none⟩) N qc) ?_
              try simp only [pA, pB, p1, p2, p3]
              refine tK (.int .i64 ((a3 : Nat) : Int)) ?_
              try simp only [pA, pB, p1, p2, p3]
              refine tK (.slice (some ⟨gp, 0, none⟩) N qc) ?_
              try simp only [pA, pB, p1, p2, p3]
              refine tK (.int .i64 ((r3 : Nat) : Int)) ?_
              try simp only [pA, pB, p1, p2, p3]
              refine tW (.pointer (some ⟨gp, 0 + r3 * 1, none⟩)) (exec_ixA 74 1 Try.und74e Try.size74e _ _ rfl gp 0 N qc r3 (by kernel_rfl) (by kernel_rfl) hr3) ?_
              try simp only [pA, pB, p1, p2, p3]
              refine tW (.int .i64 (((f r3) : Nat) : Int)) (exec_load 3 _ rfl ⟨gp, 0 + r3 * 1, none⟩ (by kernel_rfl) (.int .i64 (((f r3) : Nat) : Int)) (load_one (row_N (HF.out.box 3 _ _ _ rfl) hr3) Try.und3 rfl)) ?_
              try simp only [pA, pB, p1, p2, p3]
              refine tW (.pointer (some ⟨gp, 0 + a3 * 1, none⟩)) (exec_ixA 74 1 Try.und74e Try.size74e _ _ rfl gp 0 N qc a3 (by kernel_rfl) (by kernel_rfl) ha3) ?_
              try simp only [pA, pB, p1, p2, p3]
              refine wp_storeW 3 _ _ rfl ⟨gp, 0 + a3 * 1, none⟩ (.int .i64 (((f r3) : Nat) : Int)) (by kernel_rfl) (by kernel_rfl) (wr.setRow gp ((nuL N (updN f a3 (f r3)) ++ sp).toArray)) (st_N (f r3) (HF.out.box 3 _ _ _ rfl) ha3) (by kernel_rfl) ?_
              try simp only [pA, pB, p1, p2, p3]
              have HM : Hid (MemS (wr.setRow gp ((nuL N (updN f a3 (f r3)) ++ sp).toArray)) n X) := HM.out.kept HOG.out (Kept.setRow _ _ _) (fun k e => .inr (.inr e))
              have HF : Hid (Fr No w (wr.setRow gp ((nuL N (updN f a3 (f r3)) ++ sp).toArray)) [(gk2, 23, Ky.cells ⟨1, 3, 1, 0⟩), (gl, 35, (svL n X ++ sl).toArray), (gf, 35, (svL n X ++ sf).toArray), (gp, 3, (nuL N (updN f a3 (f r3)) ++ sp).toArray)]) := HF.out.set 3 rfl _
              generalize wr.setRow gp ((nuL N (updN f a3 (f r3)) ++ sp).toArray) = wk41 at HF HM ⊢
              refine WL.nil ?_
              try simp only [pA, pB, p1, p2, p3]
              go_upto_region 30 with fail
              refine WL.start ?_
              refine tK (.slice (some ⟨gp, 0, none⟩) N qc) ?_
              try simp only [pA, pB, p1, p2, p3]
              refine tK (.int .i64 ((r3 : Nat) : Int)) ?_
              try simp only [pA, pB, p1, p2, p3]
              refine tK (.int .i64 (((f a3) : Nat) : Int)) ?_
              try simp only [pA, pB, p1, p2, p3]
              refine tW (.pointer (some ⟨gp, 0 + r3 * 1, none⟩)) (exec_ixA 74 1 Try.und74e Try.size74e _ _ rfl gp 0 N qc r3 (by kernel_rfl) (by kernel_rfl) hr3) ?_
              try simp only [pA, pB, p1, p2, p3]
              refine wp_storeW 3 _ _ rfl ⟨gp, 0 + r3 * 1, none⟩ (.int .i64 (((f a3) : Nat) : Int)) (by kernel_rfl) (by kernel_rfl) (wk41.setRow gp ((nuL N (updN (updN f a3 (f r3)) r3 (f a3)) ++ sp).toArray)) (st_N (f a3) (HF.out.box 3 _ _ _ rfl) hr3) (by kernel_rfl) ?_
              try simp only [pA, pB, p1, p2, p3]
              have HM : Hid (MemS (wk41.setRow gp ((nuL N (updN (updN f a3 (f r3)) r3 (f a3)) ++ sp).toArray)) n X) := HM.out.kept HOG.out (Kept.setRow _ _ _) (fun k e => .inr (.inr e))
              have HF : Hid (Fr No w (wk41.setRow gp ((nuL N (updN (updN f a3 (f r3)) r3 (f a3)) ++ sp).toArray)) [(gk2, 23, Ky.cells ⟨1, 3, 1, 0⟩), (gl, 35, (svL n X ++ sl).toArray), (gf, 35, (svL n X ++ sf).toArray), (gp, 3, (nuL N (updN (updN f a3 (f r3)) r3 (f a3)) ++ sp).toArray)]) := HF.out.set 3 rfl _
              generalize wk41.setRow gp ((nuL N (updN (updN f a3 (f r3)) r3 (f a3)) ++ sp).toArray) = wk42 at HF HM ⊢
              refine WL.nil ?_
              try simp only [pA, pB, p1, p2, p3]
              go_upto_region 25 with fail
              refine WL.start ?_
              refine tK (.int .i64 ((i : Nat) : Int)) ?_
              try simp only [pA, pB, p1, p2, p3]
              refine tW (.int .i64 (((i + 1) : Nat) : Int)) (exec_bin .add 3 _ _ _ rfl (.int .i64 ((i : Nat) : Int)) (.int .i64 1) (.int .i64 (((i + 1) : Nat) : Int)) (by kernel_rfl) (by kernel_rfl) (by kernel_rfl) (b_addw _ _ _ (by rw [IntKind.wrap_i64]; omega) _)) ?_
              try simp only [pA, pB, p1, p2, p3]
              refine tK (.int .i64 (((i + 1) : Nat) : Int)) ?_
              try simp only [pA, pB, p1, p2, p3]
              refine WL.nil ?_
              try simp only [pA, pB, p1, p2, p3]
              go_wp2
              go_roundw
              case rel => exact ⟨i + 1, (updN (updN f a3 (f r3)) r3 (f a3)), by go_num, by omega, HP.out.swap ha3 hr3, HM, HF⟩
              case measure => simp [intOf]; omega
            · skip
              go_upto_region 24 with fail
              refine WL.start ?_
              refine tK (.int .i64 ((i : Nat) : Int)) ?_
              try simp only [pA, pB, p1, p2, p3]
              refine tK (.slice oa on oc) ?_
              try simp only [pA, pB, p1, p2, p3]
              refine tK (.int .i64 ((on : Nat) : Int)) ?_
              try simp only [pA, pB, p1, p2, p3]
              refine tW (.bool false) (exec_bin .lss 3 _ _ _ rfl (.int .i64 ((i : Nat) : Int)) (.int .i64 ((on : Nat) : Int)) (.bool false) (by kernel_rfl) (by kernel_rfl) (by kernel_rfl) (by rw [b_lss, decide_eq_false (by omega)])) ?_
              try simp only [pA, pB, p1, p2, p3]
              refine WL.nil ?_
              try simp only [pA, pB, p1, p2, p3]
              clear hlt hi
              have HOY : Hid (OffS (fun k => k = gl ∨ k = gf ∨ k = gp) n X) := HOG
              have HMY : Hid (MemS wr n X) := HM
              have HI : Hid (AllI n X X (fun q => ∃ i, i < 0 ∧ q = f i)) := (AllI.start n X).mono (fun p ⟨i, hi, _⟩ _ => by omega)
              go_upto_region 31 with fail
              refine WL.start ?_
              refine tK (.int .i64 0) ?_
              try simp only [pA, pB, p1, p2, p3]
              refine WL.nil ?_
              try simp only [pA, pB, p1, p2, p3]
              go_wp2
              go_loopw [21, 22, 23, 24, 25, 26, 27, 28, 29] (fun v21 v22 v23 v24 v25 v26 v27 v28 v29 wr => ∃ (p : Nat) (Y : Nat → Sv), v21 = .int .i64 ((p : Nat) : Int) ∧ p ≤ N ∧ Hid (MemS wr n X) ∧ Hid (MemS wr n Y) ∧ Hid (OffS (fun k => k = gl ∨ k = gf ∨ k = gp) n Y) ∧ Hid (WlS n Y) ∧ Hid (AllI n X Y (fun q => ∃ i, i < p ∧ q = f i)) ∧ Hid (Fr No w wr [(gk2, 23, Ky.cells ⟨1, 3, 1, 0⟩), (gl, 35, (svL n Y ++ sl).toArray), (gf, 35, (svL n X ++ sf).toArray), (gp, 3, (nuL N f ++ sp).toArray)])) (fun i21 i22 i23 i24 i25 i26 i27 i28 i29 _ => N - (intOf i21).toNat)
              case atStart => exact ⟨0, X, by go_num, by omega, HM, HMY, HOY, HW, HI, HF⟩
              case round =>
                clear HF HM HMY HOY HI
                obtain ⟨p, Y, rfl, hp, HM, HMY, HOY, HWY, HI, HF⟩ := hrel
                by_cases hlt : p < N
                · skip
                  have hfp : f p < N := HP.out.lt p hlt
                  go_upto_region 32 with fail
                  refine WL.start ?_
                  refine tK (.int .i64 ((p : Nat) : Int)) ?_
                  try simp only [pA, pB, p1, p2, p3]
                  refine tK (.slice (some ⟨gp, 0, none⟩) N qc) ?_
                  try simp only [pA, pB, p1, p2, p3]
                  refine tK (.int .i64 ((N : Nat) : Int)) ?_
                  try simp only [pA, pB, p1, p2, p3]
                  refine tW (.bool true) (exec_bin .lss 3 _ _ _ rfl (.int .i64 ((p : Nat) : Int)) (.int .i64 ((N : Nat) : Int)) (.bool true) (by kernel_rfl) (by kernel_rfl) (by kernel_rfl) (by rw [b_lss, decide_eq_true (by omega)])) ?_
                  try simp only [pA, pB, p1, p2, p3]
                  refine WL.nil ?_
                  try simp only [pA, pB, p1, p2, p3]
                  go_upto_region 34 with fail
                  refine WL.start ?_
                  refine tK (.slice (some ⟨gp, 0, none⟩) N qc) ?_
                  try simp only [pA, pB, p1, p2, p3]
                  refine tK (.int .i64 ((p : Nat) : Int)) ?_
                  try simp only [pA, pB, p1, p2, p3]
                  refine tW (.pointer (some ⟨gp, 0 + p * 1, none⟩)) (exec_ixA 74 1 Try.und74e Try.size74e _ _ rfl gp 0 N qc p (by kernel_rfl) (by kernel_rfl) hlt) ?_
                  try simp only [pA, pB, p1, p2, p3]
                  refine tW (.int .i64 (((f p) : Nat) : Int)) (exec_load 3 _ rfl ⟨gp, 0 + p * 1, none⟩ (by kernel_rfl) (.int .i64 (((f p) : Nat) : Int)) (load_one (row_N (HF.out.box 3 _ _ _ rfl) hlt) Try.und3 rfl)) ?_
                  try simp only [pA, pB, p1, p2, p3]
                  refine tK (.int .i64 ((n : Nat) : Int)) ?_
                  try simp only [pA, pB, p1, p2, p3]
                  refine tW (.int .i64 ((((f p) / n) : Nat) : Int)) (exec_bin .quo 3 _ _ _ rfl (.int .i64 (((f p) : Nat) : Int)) (.int .i64 ((n : Nat) : Int)) (.int .i64 ((((f p) / n) : Nat) : Int)) (by kernel_rfl) (by kernel_rfl) (by kernel_rfl) (b_quoN (f p) n _ rfl (by omega) (by omega) _)) ?_
                  try simp only [pA, pB, p1, p2, p3]
                  refine tK (.int .i64 ((((f p) / n) : Nat) : Int)) ?_
                  try simp only [pA, pB, p1, p2, p3]
                  refine WL.nil ?_
                  try simp only [pA, pB, p1, p2, p3]
                  go_upto_region 35 with fail
                  refine WL.start ?_
                  refine tK (.slice (some ⟨gp, 0, none⟩) N qc) ?_
                  try simp only [pA, pB, p1, p2, p3]
                  refine tK (.int .i64 ((p : Nat) : Int)) ?_
                  try simp only [pA, pB, p1, p2, p3]
                  refine tW (.pointer (some ⟨gp, 0 + p * 1, none⟩)) (exec_ixA 74 1 Try.und74e Try.size74e _ _ rfl gp 0 N qc p (by kernel_rfl) (by kernel_rfl) hlt) ?_
                  try simp only [pA, pB, p1, p2, p3]
                  refine tW (.int .i64 (((f p) : Nat) : Int)) (exec_load 3 _ rfl ⟨gp, 0 + p * 1, none⟩ (by kernel_rfl) (.int .i64 (((f p) : Nat) : Int)) (load_one (row_N (HF.out.box 3 _ _ _ rfl) hlt) Try.und3 rfl)) ?_
                  try simp only [pA, pB, p1, p2, p3]
                  refine tK (.int .i64 ((n : Nat) : Int)) ?_
                  try simp only [pA, pB, p1, p2, p3]
                  refine tW (.int .i64 ((((f p) % n) : Nat) : Int)) (exec_bin .rem 3 _ _ _ rfl (.int .i64 (((f p) : Nat) : Int)) (.int .i64 ((n : Nat) : Int)) (.int .i64 ((((f p) % n) : Nat) : Int)) (by kernel_rfl) (by kernel_rfl) (by kernel_rfl) (b_remN (f p) n _ rfl (by omega) _)) ?_
                  try simp only [pA, pB, p1, p2, p3]
                  refine tK (.int .i64 ((((f p) % n) : Nat) : Int)) ?_
                  try simp only [pA, pB, p1, p2, p3]
                  refine WL.nil ?_
                  try simp only [pA, pB, p1, p2, p3]
                  have ha : f p / n < n := Nat.div_lt_of_lt_mul (by rw [← HN.out]; exact hfp)
                  have hb : f p % n < n := Nat.mod_lt _ (by omega)
                  generalize hea : f p / n = a at ha ⊢
                  generalize heb : f p % n = b at hb ⊢
                  have HEa : Hid (f p / n = a) := hea
                  have HEb : Hid (f p % n = b) := heb
                  clear hea heb
                  go_upto_region 36 with fail
                  refine WL.start ?_
                  refine tK (.int .i64 ((a : Nat) : Int)) ?_
                  try simp only [pA, pB, p1, p2, p3]
                  refine tK (.int .i64 ((b : Nat) : Int)) ?_
                  try simp only [pA, pB, p1, p2, p3]
                  cases q3 : (((a : Nat) : Int) == ((b : Nat) : Int))
                  ·skip
                   refine tW (.bool false) (exec_bin .eql 3 _ _ _ rfl (.int .i64 ((a : Nat) : Int)) (.int .i64 ((b : Nat) : Int)) (.bool false) (by kernel_rfl) (by kernel_rfl) (by kernel_rfl) (by rw [b_eql, q3]; try rfl)) ?_
                   try simp only [pA, pB, p1, p2, p3]
                   refine WL.nil ?_
                   try simp only [pA, pB, p1, p2, p3]
                   go_upto_region 37 with fail
                   go_cut [24, 25, 26] from 141 to 204 (fun v24 v25 v26 wc => ∃ (gx : Nat) (x : Hd) (xb : List Int) (xe : List En) (xl : List La) (xp : List Pl) (tx : Nat), v24 = .pointer (some ⟨gx, 0, none⟩) ∧ v25 = .int .i64 ((tx : Nat) : Int) ∧ v26 = .bool true ∧ Hid (HdAt wc x xb xe xl xp) ∧ Hid (Wl x xb xe xl xp) ∧ Hid (RowE 1 (edgeF (Y a).h.k.up (decd (Y a).p)) (Y a).h x (Y b).h (Y a).p xp (Y b).p tx) ∧ Hid (HdOff (fun k => k = gl ∨ k = gf ∨ k = gp) x xb xe xl xp) ∧ Hid (MemS wc n X) ∧ Hid (MemS wc n Y) ∧ Hid (Fr No w wc [(gk2, 23, Ky.cells ⟨1, 3, 1, 0⟩), (gl, 35, (svL n Y ++ sl).toArray), (gf, 35, (svL n X ++ sf).toArray), (gp, 3, (nuL N f ++ sp).toArray), (gx, 35, Hd.cells x)]))
                   case first =>
                    rename_i J0 K0 hJ0 hK0
                    have HMs : Hid (MemS wr n X) := HM
                    have HMYs : Hid (MemS wr n Y) := HMY
                    clear HM HMY
                    have HK0 : Hid (Kept No wr wr) := Kept.refl _ _
                    obtain ⟨s0, hs0⟩ : ∃ n, wr.heap.size = n := ⟨_, rfl⟩
                    have HS0 : Hid (wr.heap.size = s0) := hs0
                    clear hs0
                    refine wp_region_held_drew (S := fun w' => Fr No w w' [(gk2, 23, Ky.cells ⟨1, 3, 1, 0⟩), (gl, 35, (svL n Y ++ sl).toArray), (gf, 35, (svL n X ++ sf).toArray), (gp, 3, (nuL N f ++ sp).toArray)]) rfl (HF.out.drew) (fun hH => ?_)
                    have HK0 : Hid (Kept No wr (wr.drew)) := HK0.out.no (Kept.refl No _).drew
                    have HF : Hid (Fr No w (wr.drew) [(gk2, 23, Ky.cells ⟨1, 3, 1, 0⟩), (gl, 35, (svL n Y ++ sl).toArray), (gf, 35, (svL n X ++ sf).toArray), (gp, 3, (nuL N f ++ sp).toArray)]) := HF.out.drew
                    generalize wr.drew = wk43 at HF HK0 hH ⊢
                    refine aT (i := 0) (oi := { dst := some 163, op := Op.load 23 (Operand.tmp 8), type := 23, pos := "outright.go:160", after := #[], guard := none }) (v := .agg (Ky.cells ⟨1, 3, 1, 0⟩)) (fun w' hw => exec_load 23 _ rfl ⟨gk2, 0, none⟩ (by kernel_rfl) (.agg (Ky.cells ⟨1, 3, 1, 0⟩)) (run_load_part (cs := Ky.cs ⟨1, 3, 1, 0⟩) (sub := Ky.cs ⟨1, 3, 1, 0⟩) (hw.box 0 _ _ _ rfl) (Part.all _) Try.und23 rfl Try.size23)) hH ?_
                    try simp only [pA, pB, p1, p2, p3]
                    refine aT (i := 1) (oi := { dst := some 164, op := Op.move (Operand.tmp 22), type := 3, pos := "outright.go:160", after := #[], guard := none }) (v := .int .i64 ((a : Nat) : Int)) (fun _ _ => by kernel_rfl) hH ?_
                    try simp only [pA, pB, p1, p2, p3]
                    refine aT (i := 2) (oi := { dst := some 165, op := Op.binOp BinOp.add 3 (Operand.tmp 164) (Operand.const (Value.int IntKind.i64 1)) 3, type := 3, pos := "outright.go:160", after := #[{ on := 1, ground := Ground.data }], guard := none }) (v := .int .i64 (((a + 1) : Nat) : Int)) (fun w' hw => exec_bin .add 3 _ _ _ rfl (.int .i64 ((a : Nat) : Int)) (.int .i64 1) (.int .i64 (((a + 1) : Nat) : Int)) (by kernel_rfl) (by kernel_rfl) (by kernel_rfl) (b_addw _ _ _ (by rw [IntKind.wrap_i64]; omega) _)) hH ?_
                    try simp only [pA, pB, p1, p2, p3]
                    refine aT (i := 3) (oi := { dst := some 166, op := Op.move (Operand.tmp 23), type := 3, pos := "outright.go:160", after := #[], guard := none }) (v := .int .i64 ((b : Nat) : Int)) (fun _ _ => by kernel_rfl) hH ?_
                    try simp only [pA, pB, p1, p2, p3]
                    refine aT (i := 4) (oi := { dst := some 167, op := Op.binOp BinOp.add 3 (Operand.tmp 166) (Operand.const (Value.int IntKind.i64 1)) 3, type := 3, pos := "outright.go:160", after := #[{ on := 3, ground := Ground.data }], guard := none }) (v := .int .i64 (((b + 1) : Nat) : Int)) (fun w' hw => exec_bin .add 3 _ _ _ rfl (.int .i64 ((b : Nat) : Int)) (.int .i64 1) (.int .i64 (((b + 1) : Nat) : Int)) (by kernel_rfl) (by kernel_rfl) (by kernel_rfl) (b_addw _ _ _ (by rw [IntKind.wrap_i64]; omega) _)) hH ?_
                    try simp only [pA, pB, p1, p2, p3]
                    refine aT (i := 5) (oi := { dst := some 168, op := Op.move (Operand.tmp 9), type := 83, pos := "outright.go:160", after := #[], guard := none }) (v := .slice (some ⟨gl, 0, none⟩) n lc) (fun _ _ => by kernel_rfl) hH ?_
                    try simp only [pA, pB, p1, p2, p3]
                    refine aT (i := 6) (oi := { dst := some 169, op := Op.move (Operand.tmp 22), type := 3, pos := "outright.go:160", after := #[], guard := none }) (v := .int .i64 ((a : Nat) : Int)) (fun _ _ => by kernel_rfl) hH ?_
                    try simp only [pA, pB, p1, p2, p3]
                    refine aT (i := 7) (oi := { dst := some 170, op := Op.indexAddr 83 (Operand.tmp 168) (Operand.tmp 169), type := 0, pos := "outright.go:160", after := #[{ on := 5, ground := Ground.data }, { on := 6, ground := Ground.data }], guard := none }) (v := .pointer (some ⟨gl, 0 + a * 7, none⟩)) (fun w' hw => exec_ixA 83 7 Try.und83e Try.size83e _ _ rfl gl 0 n lc a (by kernel_rfl) (by kernel_rfl) ha) hH ?_
                    try simp only [pA, pB, p1, p2, p3]
                    refine aT (i := 8) (oi := { dst := some 171, op := Op.load 35 (Operand.tmp 170), type := 35, pos := "outright.go:160", after := #[{ on := 7, ground := Ground.data }], guard := none }) (v := .agg (Hd.cells ((Y a).h))) (fun w' hw => exec_load 35 _ rfl ⟨gl, 0 + a * 7, none⟩ (by kernel_rfl) (.agg (Hd.cells ((Y a).h))) (load_cells (it := Hd.cs (Y a).h) (fun j v hv => row_V (hw.box 1 _ _ _ rfl) ha j v hv) Try.und35 rfl Try.size35)) hH ?_
                    try simp only [pA, pB, p1, p2, p3]
                    refine aT (i := 9) (oi := { dst := some 172, op := Op.move (Operand.tmp 9), type := 83, pos := "outright.go:160", after := #[], guard := none }) (v := .slice (some ⟨gl, 0, none⟩) n lc) (fun _ _ => by kernel_rfl) hH ?_
                    try simp only [pA, pB, p1, p2, p3]
                    refine aT (i := 10) (oi := { dst := some 173, op := Op.move (Operand.tmp 23), type := 3, pos := "outright.go:160", after := #[], guard := none }) (v := .int .i64 ((b : Nat) : Int)) (fun _ _ => by kernel_rfl) hH ?_
                    try simp only [pA, pB, p1, p2, p3]
                    refine aT (i := 11) (oi := { dst := some 174, op := Op.indexAddr 83 (Operand.tmp 172) (Operand.tmp 173), type := 0, pos := "outright.go:160", after := #[{ on := 9, ground := Ground.data }, { on := 10, ground := Ground.data }], guard := none }) (v := .pointer (some ⟨gl, 0 + b * 7, none⟩)) (fun w' hw => exec_ixA 83 7 Try.und83e Try.size83e _ _ rfl gl 0 n lc b (by kernel_rfl) (by kernel_rfl) hb) hH ?_
                    try simp only [pA, pB, p1, p2, p3]
                    refine aT (i := 12) (oi := { dst := some 175, op := Op.load 35 (Operand.tmp 174), type := 35, pos := "outright.go:160", after := #[{ on := 11, ground := Ground.data }], guard := none }) (v := .agg (Hd.cells ((Y b).h))) (fun w' hw => exec_load 35 _ rfl ⟨gl, 0 + b * 7, none⟩ (by kernel_rfl) (.agg (Hd.cells ((Y b).h))) (load_cells (it := Hd.cs (Y b).h) (fun j v hv => row_V (hw.box 1 _ _ _ rfl) hb j v hv) Try.und35 rfl Try.size35)) hH ?_
                    try simp only [pA, pB, p1, p2, p3]
                    refine any_pick (rs := [13, 18]) (by kernel_rfl) (by simp) ?_
                    intro i hi
                    rcases pick2 hi with rfl | rfl
                    ·skip
                     clear hi
                     refine step_call (i := 13) (o := { dst := some 176, op := Op.call { callee := Callee.value (Operand.func 29), args := #[Operand.tmp 163, Operand.tmp 165, Operand.tmp 167, Operand.tmp 171, Operand.tmp 175], argTypes := #[23, 3, 3, 35, 35] }, type := 79, pos := "outright.go:160", after := #[{ on := 0, ground := Ground.data }, { on := 2, ground := Ground.data }, { on := 4, ground := Ground.data }, { on := 8, ground := Ground.data }, { on := 12, ground := Ground.data }], guard := none }) rfl (by kernel_rfl) 29 #[.agg (Ky.cells ⟨1, 3, 1, 0⟩), .int .i64 (((a + 1) : Nat) : Int), .int .i64 (((b + 1) : Nat) : Int), .agg (Hd.cells ((Y a).h)), .agg (Hd.cells ((Y b).h))] (by kernel_rfl) _ (row_off (fun k => k = gl ∨ k = gf ∨ k = gp) ⟨1, 3, 1, 0⟩ (((a + 1) : Nat) : Int) (((b + 1) : Nat) : Int) (Y a).h (Y b).h (Y a).b (Y a).e (Y a).l (Y a).p (Y b).b (Y b).e (Y b).l (Y b).p _ ((HMYs.out.no HK0.out) a ha) ((HMYs.out.no HK0.out) b hb) (HWY.out a ha) (HWY.out b hb) (.inl rfl) (by rintro k (e | e | e); rw [e]; exact (HF.out.box 1 _ _ _ rfl).lt; rw [e]; exact (HF.out.box 2 _ _ _ rfl).lt; rw [e]; exact (HF.out.box 3 _ _ _ rfl).lt) (HOY.out a ha)) ?_
                     rintro e wk44 ⟨x, xb, xe, xl, xp, tx, rfl, hh, hw2, hE, ho, hk⟩
                     have hH2 : Fr No w wk44 [(gk2, 23, Ky.cells ⟨1, 3, 1, 0⟩), (gl, 35, (svL n Y ++ sl).toArray), (gf, 35, (svL n X ++ sf).toArray), (gp, 3, (nuL N f ++ sp).toArray)] := hH.no hk
                     have HK0 : Hid (Kept No wr (wk44)) := HK0.out.no hk
                     have HF : Hid (Fr No w (wk44) [(gk2, 23, Ky.cells ⟨1, 3, 1, 0⟩), (gl, 35, (svL n Y ++ sl).toArray), (gf, 35, (svL n X ++ sf).toArray), (gp, 3, (nuL N f ++ sp).toArray)]) := HF.out.no hk
                     have HWx : Hid (Wl x xb xe xl xp) := hw2
                     have HEx : Hid (RowE 1 (edgeF (Y a).h.k.up (decd (Y a).p)) (Y a).h x (Y b).h (Y a).p xp (Y b).p tx) := hE
                     have HH6 : Hid (HdAt wk44 x xb xe xl xp) := hh
                     have HOx : Hid (HdOff (fun k => k = gl ∨ k = gf ∨ k = gp) x xb xe xl xp) := ho
                     have HK2 : Hid (Kept No wk44 wk44) := Kept.refl _ _
                     obtain ⟨s2, hs2⟩ : ∃ n, wk44.heap.size = n := ⟨_, rfl⟩
                     have HS2 : Hid (wk44.heap.size = s2) := hs2
                     clear hs2
                     clear hh hw2 hE ho hk
                     refine ⟨.tuple #[.agg (Hd.cells x), .int .i64 ((tx : Nat) : Int), .bool true], rfl, hH2, fun hH => ?_⟩
                     clear hH2
                     try simp only [pA, pB, p1, p2, p3]
                     refine aT (i := 14) (oi := { dst := some 162, op := Op.move (Operand.tmp 176), type := 79, pos := "outright.go:160", after := #[{ on := 13, ground := Ground.data }], guard := none }) (v := .tuple #[.agg (Hd.cells x), .int .i64 ((tx : Nat) : Int), .bool true]) (fun _ _ => by kernel_rfl) hH ?_
                     try simp only [pA, pB, p1, p2, p3]
                     refine aT (i := 15) (oi := { dst := some 177, op := Op.extract (Operand.tmp 162) 0, type := 35, pos := "outright.go:160", after := #[{ on := 14, ground := Ground.data }], guard := none }) (v := .agg (Hd.cells x)) (fun _ _ => by kernel_rfl) hH ?_
                     try simp only [pA, pB, p1, p2, p3]
                     refine aT (i := 16) (oi := { dst := some 178, op := Op.extract (Operand.tmp 162) 1, type := 3, pos := "outright.go:160", after := #[{ on := 14, ground := Ground.data }, { on := 19, ground := Ground.gcOnly Departure.lateStores }], guard := none }) (v := .int .i64 ((tx : Nat) : Int)) (fun _ _ => by kernel_rfl) hH ?_
                     try simp only [pA, pB, p1, p2, p3]
                     refine aT (i := 17) (oi := { dst := some 179, op := Op.extract (Operand.tmp 162) 2, type := 4, pos := "outright.go:160", after := #[{ on := 14, ground := Ground.data }, { on := 20, ground := Ground.gcOnly Departure.lateStores }], guard := none }) (v := .bool true) (fun _ _ => by kernel_rfl) hH ?_
                     try simp only [pA, pB, p1, p2, p3]
                     refine any_step (i := 18) (o := { dst := some 24, op := Op.alloc 35, type := 0, pos := "outright.go:160", after := #[], guard := none }) rfl (by kernel_rfl) (by kernel_rfl) (exec_alloc 35 rfl (Hd.cells hdZ) zero35) (Fr.front (l := [(gk2, 23, Ky.cells ⟨1, 3, 1, 0⟩), (gl, 35, (svL n Y ++ sl).toArray), (gf, 35, (svL n X ++ sf).toArray), (gp, 3, (nuL N f ++ sp).toArray)]) (m := [_]) (hH.alloc _ _)) (fun hH => ?_)
                     try simp only [pA, pB, p1, p2, p3]
                     have hx0_gk45 : s0 ≤ wk44.heap.size := by rw [← HS0.out]; exact HK0.out.size
                     have hx2_gk45 : s2 ≤ wk44.heap.size := by rw [← HS2.out]; exact HK2.out.size
                     have HK0 : Hid (Kept No wr (wk44.alloc (.cells (Hd.cells hdZ) 35))) := HK0.out.no ((Kept.refl No _).alloc _)
                     have HK2 : Hid (Kept No wk44 (wk44.alloc (.cells (Hd.cells hdZ) 35))) := HK2.out.no ((Kept.refl No _).alloc _)
                     have HF : Hid (Fr No w (wk44.alloc (.cells (Hd.cells hdZ) 35)) [(gk2, 23, Ky.cells ⟨1, 3, 1, 0⟩), (gl, 35, (svL n Y ++ sl).toArray), (gf, 35, (svL n X ++ sf).toArray), (gp, 3, (nuL N f ++ sp).toArray), (wk44.heap.size, 35, Hd.cells hdZ)]) := HF.out.alloc _ _
                     generalize wk44.alloc (.cells (Hd.cells hdZ) 35) = wk46 at HF HK0 HK2 hH ⊢
                     generalize wk44.heap.size = gk45 at HF hx0_gk45 hx2_gk45 ⊢
                     refine any_store (i := 19) (o := { dst := none, op := Op.store 35 (Operand.tmp 24) (Operand.tmp 177), type := 0, pos := "outright.go:160", after := #[{ on := 18, ground := Ground.data }, { on := 15, ground := Ground.data }, { on := 13, ground := Ground.chain }, { on := 0, ground := Ground.phase }, { on := 1, ground := Ground.phase }, { on := 2, ground := Ground.phase }, { on := 3, ground := Ground.phase }, { on := 4, ground := Ground.phase }, { on := 5, ground := Ground.phase }, { on := 6, ground := Ground.phase }, { on := 7, ground := Ground.phase }, { on := 8, ground := Ground.phase }, { on := 9, ground := Ground.phase }, { on := 10, ground := Ground.phase }, { on := 11, ground := Ground.phase }, { on := 12, ground := Ground.phase }, { on := 13, ground := Ground.phase }, { on := 14, ground := Ground.phase }, { on := 15, ground := Ground.phase }, { on := 16, ground := Ground.textOnly Departure.lateStores }, { on := 17, ground := Ground.textOnly Departure.lateStores }, { on := 18, ground := Ground.phase }], guard := none }) (w' := wk46.setRow gk45 (Hd.cells x)) rfl (by kernel_rfl) (by kernel_rfl) 35 _ _ rfl ⟨gk45, 0, none⟩ (.agg (Hd.cells x)) (by kernel_rfl) (by kernel_rfl) (run_store_to (cur := Hd.cs hdZ) (vs := Hd.cs x) (new := Hd.cs x) (HF.out.box 4 _ _ _ rfl) (by kernel_rfl) Try.size35 (Nat.le_of_ble_eq_true (by kernel_rfl)) (Hd.oneL _) (by kernel_rfl)) (Fr.front (l := [(gk2, 23, Ky.cells ⟨1, 3, 1, 0⟩), (gl, 35, (svL n Y ++ sl).toArray), (gf, 35, (svL n X ++ sf).toArray), (gp, 3, (nuL N f ++ sp).toArray)]) (m := [(gk45, 35, Hd.cells x)]) (HF.out.set 4 rfl _)) (fun hH => ?_)
                     try simp only [pA, pB, p1, p2, p3]
                     have HK0 : Hid (Kept No wr (wk46.setRow gk45 (Hd.cells x))) := HK0.out.newRow (by rw [HS0.out]; exact hx0_gk45) _
                     have HK2 : Hid (Kept No wk44 (wk46.setRow gk45 (Hd.cells x))) := HK2.out.newRow (by rw [HS2.out]; exact hx2_gk45) _
                     have HF : Hid (Fr No w (wk46.setRow gk45 (Hd.cells x)) [(gk2, 23, Ky.cells ⟨1, 3, 1, 0⟩), (gl, 35, (svL n Y ++ sl).toArray), (gf, 35, (svL n X ++ sf).toArray), (gp, 3, (nuL N f ++ sp).toArray), (gk45, 35, Hd.cells x)]) := HF.out.set 4 rfl _
                     generalize wk46.setRow gk45 (Hd.cells x) = wk47 at HF HK0 HK2 hH ⊢
                     refine aT (i := 20) (oi := { dst := some 25, op := Op.assign (Operand.tmp 178), type := 3, pos := "outright.go:160", after := #[{ on := 16, ground := Ground.data }, { on := 19, ground := Ground.chain }, { on := 0, ground := Ground.phase }, { on := 1, ground := Ground.phase }, { on := 2, ground := Ground.phase }, { on := 3, ground := Ground.phase }, { on := 4, ground := Ground.phase }, { on := 5, ground := Ground.phase }, { on := 6, ground := Ground.phase }, { on := 7, ground := Ground.phase }, { on := 8, ground := Ground.phase }, { on := 9, ground := Ground.phase }, { on := 10, ground := Ground.phase }, { on := 11, ground := Ground.phase }, { on := 12, ground := Ground.phase }, { on := 13, ground := Ground.phase }, { on := 14, ground := Ground.phase }, { on := 15, ground := Ground.phase }, { on := 16, ground := Ground.phase }, { on := 17, ground := Ground.textOnly Departure.lateStores }, { on := 18, ground := Ground.phase }, { on := 19, ground := Ground.phase }], guard := none }) (v := .int .i64 ((tx : Nat) : Int)) (fun _ _ => by kernel_rfl) hH ?_
                     try simp only [pA, pB, p1, p2, p3]
                     refine aT (i := 21) (oi := { dst := some 26, op := Op.assign (Operand.tmp 179), type := 4, pos := "outright.go:160", after := #[{ on := 17, ground := Ground.data }, { on := 20, ground := Ground.chain }, { on := 0, ground := Ground.phase }, { on := 1, ground := Ground.phase }, { on := 2, ground := Ground.phase }, { on := 3, ground := Ground.phase }, { on := 4, ground := Ground.phase }, { on := 5, ground := Ground.phase }, { on := 6, ground := Ground.phase }, { on := 7, ground := Ground.phase }, { on := 8, ground := Ground.phase }, { on := 9, ground := Ground.phase }, { on := 10, ground := Ground.phase }, { on := 11, ground := Ground.phase }, { on := 12, ground := Ground.phase }, { on := 13, ground := Ground.phase }, { on := 14, ground := Ground.phase }, { on := 15, ground := Ground.phase }, { on := 16, ground := Ground.phase }, { on := 17, ground := Ground.phase }, { on := 18, ground := Ground.phase }, { on := 19, ground := Ground.phase }, { on := 20, ground := Ground.phase }], guard := none }) (v := .bool true) (fun _ _ => by kernel_rfl) hH ?_
                     try simp only [pA, pB, p1, p2, p3]
                     refine wpAnyH_done (by kernel_rfl) ?_ _
                     try simp only [pA, pB, p1, p2, p3]
                     clear hH
                     have HHx : Hid (HdAt wk47 x xb xe xl xp) := HH6.out.no HK2.out
                     have HM : Hid (MemS wk47 n X) := HMs.out.no HK0.out
                     have HMY : Hid (MemS wk47 n Y) := HMYs.out.no HK0.out
                     refine hK0 _ _ (Met.intro (hJ0 _ _ ?_))
                     (repeat apply Exists.intro)
                     refine ⟨?_, rfl⟩
                     exact ⟨gk45, x, xb, xe, xl, xp, tx, rfl, rfl, rfl, HHx, HWx, HEx, HOx, HM, HMY, HF⟩
                    ·skip
                     clear hi
                     refine step_run (i := 18) (o := { dst := some 24, op := Op.alloc 35, type := 0, pos := "outright.go:160", after := #[], guard := none }) rfl (by kernel_rfl) (exec_alloc 35 rfl (Hd.cells hdZ) zero35) (Fr.front (l := [(gk2, 23, Ky.cells ⟨1, 3, 1, 0⟩), (gl, 35, (svL n Y ++ sl).toArray), (gf, 35, (svL n X ++ sf).toArray), (gp, 3, (nuL N f ++ sp).toArray)]) (m := [_]) (hH.alloc _ _)) (fun hH => ?_)
                     try simp only [pA, pB, p1, p2, p3]
                     have hx0_gk48 : s0 ≤ wk43.heap.size := by rw [← HS0.out]; exact HK0.out.size
                     have HK0 : Hid (Kept No wr (wk43.alloc (.cells (Hd.cells hdZ) 35))) := HK0.out.no ((Kept.refl No _).alloc _)
                     have HF : Hid (Fr No w (wk43.alloc (.cells (Hd.cells hdZ) 35)) [(gk2, 23, Ky.cells ⟨1, 3, 1, 0⟩), (gl, 35, (svL n Y ++ sl).toArray), (gf, 35, (svL n X ++ sf).toArray), (gp, 3, (nuL N f ++ sp).toArray), (wk43.heap.size, 35, Hd.cells hdZ)]) := HF.out.alloc _ _
                     generalize wk43.alloc (.cells (Hd.cells hdZ) 35) = wk49 at HF HK0 hH ⊢
                     generalize wk43.heap.size = gk48 at HF hx0_gk48 ⊢
                     refine any_call (i := 13) (o := { dst := some 176, op := Op.call { callee := Callee.value (Operand.func 29), args := #[Operand.tmp 163, Operand.tmp 165, Operand.tmp 167, Operand.tmp 171, Operand.tmp 175], argTypes := #[23, 3, 3, 35, 35] }, type := 79, pos := "outright.go:160", after := #[{ on := 0, ground := Ground.data }, { on := 2, ground := Ground.data }, { on := 4, ground := Ground.data }, { on := 8, ground := Ground.data }, { on := 12, ground := Ground.data }], guard := none }) rfl (by kernel_rfl) (by kernel_rfl) 29 #[.agg (Ky.cells ⟨1, 3, 1, 0⟩), .int .i64 (((a + 1) : Nat) : Int), .int .i64 (((b + 1) : Nat) : Int), .agg (Hd.cells ((Y a).h)), .agg (Hd.cells ((Y b).h))] (by kernel_rfl) _ (row_off (fun k => (fun k => k = gl ∨ k = gf ∨ k = gp) k ∨ k = gk48) ⟨1, 3, 1, 0⟩ (((a + 1) : Nat) : Int) (((b + 1) : Nat) : Int) (Y a).h (Y b).h (Y a).b (Y a).e (Y a).l (Y a).p (Y b).b (Y b).e (Y b).l (Y b).p _ ((HMYs.out.no HK0.out) a ha) ((HMYs.out.no HK0.out) b hb) (HWY.out a ha) (HWY.out b hb) (.inl rfl) (by rintro k (e | e); exact (show ∀ k, (fun k => k = gl ∨ k = gf ∨ k = gp) k → k < wk49.heap.size from (by rintro k (e | e | e); rw [e]; exact (HF.out.box 1 _ _ _ rfl).lt; rw [e]; exact (HF.out.box 2 _ _ _ rfl).lt; rw [e]; exact (HF.out.box 3 _ _ _ rfl).lt)) k e; rw [e]; exact (HF.out.box 4 _ _ _ rfl).lt) (HdOff.of (G2 := fun k => wr.heap.size ≤ k) (HOY.out a ha) (HdOff.start (HMYs.out a ha) (fun k e => e)) (fun k e => e.elim .inl (fun e => .inr (by show wr.heap.size ≤ k; rw [e, HS0.out]; exact hx0_gk48))))) ?_
                     rintro e wk50 ⟨x, xb, xe, xl, xp, tx, rfl, hh, hw2, hE, ho, hk⟩
                     have hH2 : Fr No w wk50 [(gk2, 23, Ky.cells ⟨1, 3, 1, 0⟩), (gl, 35, (svL n Y ++ sl).toArray), (gf, 35, (svL n X ++ sf).toArray), (gp, 3, (nuL N f ++ sp).toArray)] := hH.no hk
                     have HK0 : Hid (Kept No wr (wk50)) := HK0.out.no hk
                     have HF : Hid (Fr No w (wk50) [(gk2, 23, Ky.cells ⟨1, 3, 1, 0⟩), (gl, 35, (svL n Y ++ sl).toArray), (gf, 35, (svL n X ++ sf).toArray), (gp, 3, (nuL N f ++ sp).toArray), (gk48, 35, Hd.cells hdZ)]) := HF.out.no hk
                     have HWx : Hid (Wl x xb xe xl xp) := hw2
                     have HEx : Hid (RowE 1 (edgeF (Y a).h.k.up (decd (Y a).p)) (Y a).h x (Y b).h (Y a).p xp (Y b).p tx) := hE
                     have HHx : Hid (HdAt wk50 x xb xe xl xp) := hh
                     have HOg : Hid (HdOff (fun k => (fun k => k = gl ∨ k = gf ∨ k = gp) k ∨ k = gk48) x xb xe xl xp) := ho
                     have HOx : Hid (HdOff (fun k => k = gl ∨ k = gf ∨ k = gp) x xb xe xl xp) := ho.mono (fun k e => .inl e)
                     clear hh hw2 hE ho hk
                     refine ⟨.tuple #[.agg (Hd.cells x), .int .i64 ((tx : Nat) : Int), .bool true], rfl, hH2, fun hH => ?_⟩
                     clear hH2
                     try simp only [pA, pB, p1, p2, p3]
                     refine aT (i := 14) (oi := { dst := some 162, op := Op.move (Operand.tmp 176), type := 79, pos := "outright.go:160", after := #[{ on := 13, ground := Ground.data }], guard := none }) (v := .tuple #[.agg (Hd.cells x), .int .i64 ((tx : Nat) : Int), .bool true]) (fun _ _ => by kernel_rfl) hH ?_
                     try simp only [pA, pB, p1, p2, p3]
                     refine aT (i := 15) (oi := { dst := some 177, op := Op.extract (Operand.tmp 162) 0, type := 35, pos := "outright.go:160", after := #[{ on := 14, ground := Ground.data }], guard := none }) (v := .agg (Hd.cells x)) (fun _ _ => by kernel_rfl) hH ?_
                     try simp only [pA, pB, p1, p2, p3]
                     refine aT (i := 16) (oi := { dst := some 178, op := Op.extract (Operand.tmp 162) 1, type := 3, pos := "outright.go:160", after := #[{ on := 14, ground := Ground.data }, { on := 19, ground := Ground.gcOnly Departure.lateStores }], guard := none }) (v := .int .i64 ((tx : Nat) : Int)) (fun _ _ => by kernel_rfl) hH ?_
                     try simp only [pA, pB, p1, p2, p3]
                     refine aT (i := 17) (oi := { dst := some 179, op := Op.extract (Operand.tmp 162) 2, type := 4, pos := "outright.go:160", after := #[{ on := 14, ground := Ground.data }, { on := 20, ground := Ground.gcOnly Departure.lateStores }], guard := none }) (v := .bool true) (fun _ _ => by kernel_rfl) hH ?_
                     try simp only [pA, pB, p1, p2, p3]
                     refine any_store (i := 19) (o := { dst := none, op := Op.store 35 (Operand.tmp 24) (Operand.tmp 177), type := 0, pos := "outright.go:160", after := #[{ on := 18, ground := Ground.data }, { on := 15, ground := Ground.data }, { on := 13, ground := Ground.chain }, { on := 0, ground := Ground.phase }, { on := 1, ground := Ground.phase }, { on := 2, ground := Ground.phase }, { on := 3, ground := Ground.phase }, { on := 4, ground := Ground.phase }, { on := 5, ground := Ground.phase }, { on := 6, ground := Ground.phase }, { on := 7, ground := Ground.phase }, { on := 8, ground := Ground.phase }, { on := 9, ground := Ground.phase }, { on := 10, ground := Ground.phase }, { on := 11, ground := Ground.phase }, { on := 12, ground := Ground.phase }, { on := 13, ground := Ground.phase }, { on := 14, ground := Ground.phase }, { on := 15, ground := Ground.phase }, { on := 16, ground := Ground.textOnly Departure.lateStores }, { on := 17, ground := Ground.textOnly Departure.lateStores }, { on := 18, ground := Ground.phase }], guard := none }) (w' := wk50.setRow gk48 (Hd.cells x)) rfl (by kernel_rfl) (by kernel_rfl) 35 _ _ rfl ⟨gk48, 0, none⟩ (.agg (Hd.cells x)) (by kernel_rfl) (by kernel_rfl) (run_store_to (cur := Hd.cs hdZ) (vs := Hd.cs x) (new := Hd.cs x) (HF.out.box 4 _ _ _ rfl) (by kernel_rfl) Try.size35 (Nat.le_of_ble_eq_true (by kernel_rfl)) (Hd.oneL _) (by kernel_rfl)) (Fr.front (l := [(gk2, 23, Ky.cells ⟨1, 3, 1, 0⟩), (gl, 35, (svL n Y ++ sl).toArray), (gf, 35, (svL n X ++ sf).toArray), (gp, 3, (nuL N f ++ sp).toArray)]) (m := [(gk48, 35, Hd.cells x)]) (HF.out.set 4 rfl _)) (fun hH => ?_)
                     try simp only [pA, pB, p1, p2, p3]
                     have HK0 : Hid (Kept No wr (wk50.setRow gk48 (Hd.cells x))) := HK0.out.newRow (by rw [HS0.out]; exact hx0_gk48) _
                     have HHx : Hid (HdAt (wk50.setRow gk48 (Hd.cells x)) x xb xe xl xp) := HHx.out.keptG HOg.out (Kept.setRow _ _ _) (fun k e => .inr e)
                     have HF : Hid (Fr No w (wk50.setRow gk48 (Hd.cells x)) [(gk2, 23, Ky.cells ⟨1, 3, 1, 0⟩), (gl, 35, (svL n Y ++ sl).toArray), (gf, 35, (svL n X ++ sf).toArray), (gp, 3, (nuL N f ++ sp).toArray), (gk48, 35, Hd.cells x)]) := HF.out.set 4 rfl _
                     generalize wk50.setRow gk48 (Hd.cells x) = wk51 at HF HK0 HHx hH ⊢
                     refine aT (i := 20) (oi := { dst := some 25, op := Op.assign (Operand.tmp 178), type := 3, pos := "outright.go:160", after := #[{ on := 16, ground := Ground.data }, { on := 19, ground := Ground.chain }, { on := 0, ground := Ground.phase }, { on := 1, ground := Ground.phase }, { on := 2, ground := Ground.phase }, { on := 3, ground := Ground.phase }, { on := 4, ground := Ground.phase }, { on := 5, ground := Ground.phase }, { on := 6, ground := Ground.phase }, { on := 7, ground := Ground.phase }, { on := 8, ground := Ground.phase }, { on := 9, ground := Ground.phase }, { on := 10, ground := Ground.phase }, { on := 11, ground := Ground.phase }, { on := 12, ground := Ground.phase }, { on := 13, ground := Ground.phase }, { on := 14, ground := Ground.phase }, { on := 15, ground := Ground.phase }, { on := 16, ground := Ground.phase }, { on := 17, ground := Ground.textOnly Departure.lateStores }, { on := 18, ground := Ground.phase }, { on := 19, ground := Ground.phase }], guard := none }) (v := .int .i64 ((tx : Nat) : Int)) (fun _ _ => by kernel_rfl) hH ?_
                     try simp only [pA, pB, p1, p2, p3]
                     refine aT (i := 21) (oi := { dst := some 26, op := Op.assign (Operand.tmp 179), type := 4, pos := "outright.go:160", after := #[{ on := 17, ground := Ground.data }, { on := 20, ground := Ground.chain }, { on := 0, ground := Ground.phase }, { on := 1, ground := Ground.phase }, { on := 2, ground := Ground.phase }, { on := 3, ground := Ground.phase }, { on := 4, ground := Ground.phase }, { on := 5, ground := Ground.phase }, { on := 6, ground := Ground.phase }, { on := 7, ground := Ground.phase }, { on := 8, ground := Ground.phase }, { on := 9, ground := Ground.phase }, { on := 10, ground := Ground.phase }, { on := 11, ground := Ground.phase }, { on := 12, ground := Ground.phase }, { on := 13, ground := Ground.phase }, { on := 14, ground := Ground.phase }, { on := 15, ground := Ground.phase }, { on := 16, ground := Ground.phase }, { on := 17, ground := Ground.phase }, { on := 18, ground := Ground.phase }, { on := 19, ground := Ground.phase }, { on := 20, ground := Ground.phase }], guard := none }) (v := .bool true) (fun _ _ => by kernel_rfl) hH ?_
                     try simp only [pA, pB, p1, p2, p3]
                     refine wpAnyH_done (by kernel_rfl) ?_ _
                     try simp only [pA, pB, p1, p2, p3]
                     clear hH
                     have HM : Hid (MemS wk51 n X) := HMs.out.no HK0.out
                     have HMY : Hid (MemS wk51 n Y) := HMYs.out.no HK0.out
                     refine hK0 _ _ (Met.intro (hJ0 _ _ ?_))
                     (repeat apply Exists.intro)
                     refine ⟨?_, rfl⟩
                     exact ⟨gk48, x, xb, xe, xl, xp, tx, rfl, rfl, rfl, HHx, HWx, HEx, HOx, HM, HMY, HF⟩
                   case rest =>
                    clear HF HM HMY
                    obtain ⟨gx, x, xb, xe, xl, xp, tx, rfl, rfl, rfl, HHx, HWx, HEx, HOx, HM, HMY, HF⟩ := hcut
                    go_upto_region 38 with fail
                    go_cut [27, 28, 29] from 141 to 204 (fun v27 v28 v29 wc => ∃ (gy : Nat) (y : Hd) (yb : List Int) (ye : List En) (yl : List La) (yp : List Pl) (ty : Nat), v27 = .pointer (some ⟨gy, 0, none⟩) ∧ v28 = .int .i64 ((ty : Nat) : Int) ∧ v29 = .bool true ∧ Hid (HdAt wc y yb ye yl yp) ∧ Hid (Wl y yb ye yl yp) ∧ Hid (RowE 2 (edgeF x.k.up (decd xp)) x y (Y b).h xp yp (Y b).p ty) ∧ Hid (HdOff (fun k => k = gl ∨ k = gf ∨ k = gp) y yb ye yl yp) ∧ Hid (MemS wc n X) ∧ Hid (MemS wc n Y) ∧ Hid (Fr No w wc [(gk2, 23, Ky.cells ⟨1, 3, 1, 0⟩), (gl, 35, (svL n Y ++ sl).toArray), (gf, 35, (svL n X ++ sf).toArray), (gp, 3, (nuL N f ++ sp).toArray), (gx, 35, Hd.cells x), (gy, 35, Hd.cells y)]))
                    case first =>
                     rename_i J0 K0 hJ0 hK0
                     have HMs : Hid (MemS wc n X) := HM
                     have HMYs : Hid (MemS wc n Y) := HMY
                     clear HM HMY
                     have HHxs : Hid (HdAt wc x xb xe xl xp) := HHx
                     clear HHx
                     have HK0 : Hid (Kept No wc wc) := Kept.refl _ _
                     obtain ⟨s0, hs0⟩ : ∃ n, wc.heap.size = n := ⟨_, rfl⟩
                     have HS0 : Hid (wc.heap.size = s0) := hs0
                     clear hs0
                     refine wp_region_held_drew (S := fun w' => Fr No w w' [(gk2, 23, Ky.cells ⟨1, 3, 1, 0⟩), (gl, 35, (svL n Y ++ sl).toArray), (gf, 35, (svL n X ++ sf).toArray), (gp, 3, (nuL N f ++ sp).toArray), (gx, 35, Hd.cells x)]) rfl (HF.out.drew) (fun hH => ?_)
                     have HK0 : Hid (Kept No wc (wc.drew)) := HK0.out.no (Kept.refl No _).drew
                     have HF : Hid (Fr No w (wc.drew) [(gk2, 23, Ky.cells ⟨1, 3, 1, 0⟩), (gl, 35, (svL n Y ++ sl).toArray), (gf, 35, (svL n X ++ sf).toArray), (gp, 3, (nuL N f ++ sp).toArray), (gx, 35, Hd.cells x)]) := HF.out.drew
                     generalize wc.drew = wk52 at HF HK0 hH ⊢
                     refine aT (i := 0) (oi := { dst := some 181, op := Op.build 23 #[(0, Operand.const (Value.int IntKind.i64 2))], type := 23, pos := "outright.go:161", after := #[], guard := none }) (v := .agg (Ky.cells ⟨2, 0, 0, 0⟩)) (fun w' hw => exec_build 23 _ rfl (Ky.cells ⟨2, 0, 0, 0⟩) (by kernel_rfl)) hH ?_
                     try simp only [pA, pB, p1, p2, p3]
                     refine aT (i := 1) (oi := { dst := some 182, op := Op.move (Operand.tmp 22), type := 3, pos := "outright.go:161", after := #[], guard := none }) (v := .int .i64 ((a : Nat) : Int)) (fun _ _ => by kernel_rfl) hH ?_
                     try simp only [pA, pB, p1, p2, p3]
                     refine aT (i := 2) (oi := { dst := some 183, op := Op.binOp BinOp.add 3 (Operand.tmp 182) (Operand.const (Value.int IntKind.i64 1)) 3, type := 3, pos := "outright.go:161", after := #[{ on := 1, ground := Ground.data }], guard := none }) (v := .int .i64 (((a + 1) : Nat) : Int)) (fun w' hw => exec_bin .add 3 _ _ _ rfl (.int .i64 ((a : Nat) : Int)) (.int .i64 1) (.int .i64 (((a + 1) : Nat) : Int)) (by kernel_rfl) (by kernel_rfl) (by kernel_rfl) (b_addw _ _ _ (by rw [IntKind.wrap_i64]; omega) _)) hH ?_
                     try simp only [pA, pB, p1, p2, p3]
                     refine aT (i := 3) (oi := { dst := some 184, op := Op.move (Operand.tmp 23), type := 3, pos := "outright.go:161", after := #[], guard := none }) (v := .int .i64 ((b : Nat) : Int)) (fun _ _ => by kernel_rfl) hH ?_
                     try simp only [pA, pB, p1, p2, p3]
                     refine aT (i := 4) (oi := { dst := some 185, op := Op.binOp BinOp.add 3 (Operand.tmp 184) (Operand.const (Value.int IntKind.i64 1)) 3, type := 3, pos := "outright.go:161", after := #[{ on := 3, ground := Ground.data }], guard := none }) (v := .int .i64 (((b + 1) : Nat) : Int)) (fun w' hw => exec_bin .add 3 _ _ _ rfl (.int .i64 ((b : Nat) : Int)) (.int .i64 1) (.int .i64 (((b + 1) : Nat) : Int)) (by kernel_rfl) (by kernel_rfl) (by kernel_rfl) (b_addw _ _ _ (by rw [IntKind.wrap_i64]; omega) _)) hH ?_
                     try simp only [pA, pB, p1, p2, p3]
                     refine aT (i := 5) (oi := { dst := some 186, op := Op.load 35 (Operand.tmp 24), type := 35, pos := "outright.go:161", after := #[], guard := none }) (v := .agg (Hd.cells x)) (fun w' hw => exec_load 35 _ rfl ⟨gx, 0, none⟩ (by kernel_rfl) (.agg (Hd.cells x)) (run_load_part (cs := Hd.cs x) (sub := Hd.cs x) (hw.box 4 _ _ _ rfl) (Part.all _) Try.und35 rfl Try.size35)) hH ?_
                     try simp only [pA, pB, p1, p2, p3]
                     refine aT (i := 6) (oi := { dst := some 187, op := Op.move (Operand.tmp 9), type := 83, pos := "outright.go:161", after := #[], guard := none }) (v := .slice (some ⟨gl, 0, none⟩) n lc) (fun _ _ => by kernel_rfl) hH ?_
                     try simp only [pA, pB, p1, p2, p3]
                     refine aT (i := 7) (oi := { dst := some 188, op := Op.move (Operand.tmp 23), type := 3, pos := "outright.go:161", after := #[], guard := none }) (v := .int .i64 ((b : Nat) : Int)) (fun _ _ => by kernel_rfl) hH ?_
                     try simp only [pA, pB, p1, p2, p3]
                     refine aT (i := 8) (oi := { dst := some 189, op := Op.indexAddr 83 (Operand.tmp 187) (Operand.tmp 188), type := 0, pos := "outright.go:161", after := #[{ on := 6, ground := Ground.data }, { on := 7, ground := Ground.data }], guard := none }) (v := .pointer (some ⟨gl, 0 + b * 7, none⟩)) (fun w' hw => exec_ixA 83 7 Try.und83e Try.size83e _ _ rfl gl 0 n lc b (by kernel_rfl) (by kernel_rfl) hb) hH ?_
                     try simp only [pA, pB, p1, p2, p3]
                     refine aT (i := 9) (oi := { dst := some 190, op := Op.load 35 (Operand.tmp 189), type := 35, pos := "outright.go:161", after := #[{ on := 8, ground := Ground.data }], guard := none }) (v := .agg (Hd.cells ((Y b).h))) (fun w' hw => exec_load 35 _ rfl ⟨gl, 0 + b * 7, none⟩ (by kernel_rfl) (.agg (Hd.cells ((Y b).h))) (load_cells (it := Hd.cs (Y b).h) (fun j v hv => row_V (hw.box 1 _ _ _ rfl) hb j v hv) Try.und35 rfl Try.size35)) hH ?_
                     try simp only [pA, pB, p1, p2, p3]
                     refine any_pick (rs := [10, 15]) (by kernel_rfl) (by simp) ?_
                     intro i hi
                     rcases pick2 hi with rfl | rfl
                     ·skip
                      clear hi
                      refine step_call (i := 10) (o := { dst := some 191, op := Op.call { callee := Callee.value (Operand.func 29), args := #[Operand.tmp 181, Operand.tmp 183, Operand.tmp 185, Operand.tmp 186, Operand.tmp 190], argTypes := #[23, 3, 3, 35, 35] }, type := 79, pos := "outright.go:161", after := #[{ on := 0, ground := Ground.data }, { on := 2, ground := Ground.data }, { on := 4, ground := Ground.data }, { on := 5, ground := Ground.data }, { on := 9, ground := Ground.data }], guard := none }) rfl (by kernel_rfl) 29 #[.agg (Ky.cells ⟨2, 0, 0, 0⟩), .int .i64 (((a + 1) : Nat) : Int), .int .i64 (((b + 1) : Nat) : Int), .agg (Hd.cells x), .agg (Hd.cells ((Y b).h))] (by kernel_rfl) _ (row_off (fun k => k = gl ∨ k = gf ∨ k = gp) ⟨2, 0, 0, 0⟩ (((a + 1) : Nat) : Int) (((b + 1) : Nat) : Int) x (Y b).h xb xe xl xp (Y b).b (Y b).e (Y b).l (Y b).p _ (HHxs.out.no HK0.out) ((HMYs.out.no HK0.out) b hb) HWx.out (HWY.out b hb) (.inr rfl) (by rintro k (e | e | e); rw [e]; exact (HF.out.box 1 _ _ _ rfl).lt; rw [e]; exact (HF.out.box 2 _ _ _ rfl).lt; rw [e]; exact (HF.out.box 3 _ _ _ rfl).lt) HOx.out) ?_
                      rintro e wk53 ⟨y, yb, ye, yl, yp, ty, rfl, hh, hw2, hE, ho, hk⟩
                      have hH2 : Fr No w wk53 [(gk2, 23, Ky.cells ⟨1, 3, 1, 0⟩), (gl, 35, (svL n Y ++ sl).toArray), (gf, 35, (svL n X ++ sf).toArray), (gp, 3, (nuL N f ++ sp).toArray), (gx, 35, Hd.cells x)] := hH.no hk
                      have HK0 : Hid (Kept No wc (wk53)) := HK0.out.no hk
                      have HF : Hid (Fr No w (wk53) [(gk2, 23, Ky.cells ⟨1, 3, 1, 0⟩), (gl, 35, (svL n Y ++ sl).toArray), (gf, 35, (svL n X ++ sf).toArray), (gp, 3, (nuL N f ++ sp).toArray), (gx, 35, Hd.cells x)]) := HF.out.no hk
                      have HWy : Hid (Wl y yb ye yl yp) := hw2
                      have HEy : Hid (RowE 2 (edgeF x.k.up (decd xp)) x y (Y b).h xp yp (Y b).p ty) := hE
                      have HH6 : Hid (HdAt wk53 y yb ye yl yp) := hh
                      have HOy : Hid (HdOff (fun k => k = gl ∨ k = gf ∨ k = gp) y yb ye yl yp) := ho
                      have HK2 : Hid (Kept No wk53 wk53) := Kept.refl _ _
                      obtain ⟨s2, hs2⟩ : ∃ n, wk53.heap.size = n := ⟨_, rfl⟩
                      have HS2 : Hid (wk53.heap.size = s2) := hs2
                      clear hs2
                      clear hh hw2 hE ho hk
                      refine ⟨.tuple #[.agg (Hd.cells y), .int .i64 ((ty : Nat) : Int), .bool true], rfl, hH2, fun hH => ?_⟩
                      clear hH2
                      try simp only [pA, pB, p1, p2, p3]
                      refine aT (i := 11) (oi := { dst := some 180, op := Op.move (Operand.tmp 191), type := 79, pos := "outright.go:161", after := #[{ on := 10, ground := Ground.data }], guard := none }) (v := .tuple #[.agg (Hd.cells y), .int .i64 ((ty : Nat) : Int), .bool true]) (fun _ _ => by kernel_rfl) hH ?_
                      try simp only [pA, pB, p1, p2, p3]
                      refine aT (i := 12) (oi := { dst := some 192, op := Op.extract (Operand.tmp 180) 0, type := 35, pos := "outright.go:161", after := #[{ on := 11, ground := Ground.data }], guard := none }) (v := .agg (Hd.cells y)) (fun _ _ => by kernel_rfl) hH ?_
                      try simp only [pA, pB, p1, p2, p3]
                      refine aT (i := 13) (oi := { dst := some 193, op := Op.extract (Operand.tmp 180) 1, type := 3, pos := "outright.go:161", after := #[{ on := 11, ground := Ground.data }, { on := 16, ground := Ground.gcOnly Departure.lateStores }], guard := none }) (v := .int .i64 ((ty : Nat) : Int)) (fun _ _ => by kernel_rfl) hH ?_
                      try simp only [pA, pB, p1, p2, p3]
                      refine aT (i := 14) (oi := { dst := some 194, op := Op.extract (Operand.tmp 180) 2, type := 4, pos := "outright.go:161", after := #[{ on := 11, ground := Ground.data }, { on := 17, ground := Ground.gcOnly Departure.lateStores }], guard := none }) (v := .bool true) (fun _ _ => by kernel_rfl) hH ?_
                      try simp only [pA, pB, p1, p2, p3]
                      refine any_step (i := 15) (o := { dst := some 27, op := Op.alloc 35, type := 0, pos := "outright.go:161", after := #[], guard := none }) rfl (by kernel_rfl) (by kernel_rfl) (exec_alloc 35 rfl (Hd.cells hdZ) zero35) (Fr.front (l := [(gk2, 23, Ky.cells ⟨1, 3, 1, 0⟩), (gl, 35, (svL n Y ++ sl).toArray), (gf, 35, (svL n X ++ sf).toArray), (gp, 3, (nuL N f ++ sp).toArray), (gx, 35, Hd.cells x)]) (m := [_]) (hH.alloc _ _)) (fun hH => ?_)
                      try simp only [pA, pB, p1, p2, p3]
                      have hx0_gk54 : s0 ≤ wk53.heap.size := by rw [← HS0.out]; exact HK0.out.size
                      have hx2_gk54 : s2 ≤ wk53.heap.size := by rw [← HS2.out]; exact HK2.out.size
                      have HK0 : Hid (Kept No wc (wk53.alloc (.cells (Hd.cells hdZ) 35))) := HK0.out.no ((Kept.refl No _).alloc _)
                      have HK2 : Hid (Kept No wk53 (wk53.alloc (.cells (Hd.cells hdZ) 35))) := HK2.out.no ((Kept.refl No _).alloc _)
                      have HF : Hid (Fr No w (wk53.alloc (.cells (Hd.cells hdZ) 35)) [(gk2, 23, Ky.cells ⟨1, 3, 1, 0⟩), (gl, 35, (svL n Y ++ sl).toArray), (gf, 35, (svL n X ++ sf).toArray), (gp, 3, (nuL N f ++ sp).toArray), (gx, 35, Hd.cells x), (wk53.heap.size, 35, Hd.cells hdZ)]) := HF.out.alloc _ _
                      generalize wk53.alloc (.cells (Hd.cells hdZ) 35) = wk55 at HF HK0 HK2 hH ⊢
                      generalize wk53.heap.size = gk54 at HF hx0_gk54 hx2_gk54 ⊢
                      refine any_store (i := 16) (o := { dst := none, op := Op.store 35 (Operand.tmp 27) (Operand.tmp 192), type := 0, pos := "outright.go:161", after := #[{ on := 15, ground := Ground.data }, { on := 12, ground := Ground.data }, { on := 10, ground := Ground.chain }, { on := 0, ground := Ground.phase }, { on := 1, ground := Ground.phase }, { on := 2, ground := Ground.phase }, { on := 3, ground := Ground.phase }, { on := 4, ground := Ground.phase }, { on := 5, ground := Ground.phase }, { on := 6, ground := Ground.phase }, { on := 7, ground := Ground.phase }, { on := 8, ground := Ground.phase }, { on := 9, ground := Ground.phase }, { on := 10, ground := Ground.phase }, { on := 11, ground := Ground.phase }, { on := 12, ground := Ground.phase }, { on := 13, ground := Ground.textOnly Departure.lateStores }, { on := 14, ground := Ground.textOnly Departure.lateStores }, { on := 15, ground := Ground.phase }], guard := none }) (w' := wk55.setRow gk54 (Hd.cells y)) rfl (by kernel_rfl) (by kernel_rfl) 35 _ _ rfl ⟨gk54, 0, none⟩ (.agg (Hd.cells y)) (by kernel_rfl) (by kernel_rfl) (run_store_to (cur := Hd.cs hdZ) (vs := Hd.cs y) (new := Hd.cs y) (HF.out.box 5 _ _ _ rfl) (by kernel_rfl) Try.size35 (Nat.le_of_ble_eq_true (by kernel_rfl)) (Hd.oneL _) (by kernel_rfl)) (Fr.front (l := [(gk2, 23, Ky.cells ⟨1, 3, 1, 0⟩), (gl, 35, (svL n Y ++ sl).toArray), (gf, 35, (svL n X ++ sf).toArray), (gp, 3, (nuL N f ++ sp).toArray), (gx, 35, Hd.cells x)]) (m := [(gk54, 35, Hd.cells y)]) (HF.out.set 5 rfl _)) (fun hH => ?_)
                      try simp only [pA, pB, p1, p2, p3]
                      have HK0 : Hid (Kept No wc (wk55.setRow gk54 (Hd.cells y))) := HK0.out.newRow (by rw [HS0.out]; exact hx0_gk54) _
                      have HK2 : Hid (Kept No wk53 (wk55.setRow gk54 (Hd.cells y))) := HK2.out.newRow (by rw [HS2.out]; exact hx2_gk54) _
                      have HF : Hid (Fr No w (wk55.setRow gk54 (Hd.cells y)) [(gk2, 23, Ky.cells ⟨1, 3, 1, 0⟩), (gl, 35, (svL n Y ++ sl).toArray), (gf, 35, (svL n X ++ sf).toArray), (gp, 3, (nuL N f ++ sp).toArray), (gx, 35, Hd.cells x), (gk54, 35, Hd.cells y)]) := HF.out.set 5 rfl _
                      generalize wk55.setRow gk54 (Hd.cells y) = wk56 at HF HK0 HK2 hH ⊢
                      refine aT (i := 17) (oi := { dst := some 28, op := Op.assign (Operand.tmp 193), type := 3, pos := "outright.go:161", after := #[{ on := 13, ground := Ground.data }, { on := 16, ground := Ground.chain }, { on := 0, ground := Ground.phase }, { on := 1, ground := Ground.phase }, { on := 2, ground := Ground.phase }, { on := 3, ground := Ground.phase }, { on := 4, ground := Ground.phase }, { on := 5, ground := Ground.phase }, { on := 6, ground := Ground.phase }, { on := 7, ground := Ground.phase }, { on := 8, ground := Ground.phase }, { on := 9, ground := Ground.phase }, { on := 10, ground := Ground.phase }, { on := 11, ground := Ground.phase }, { on := 12, ground := Ground.phase }, { on := 13, ground := Ground.phase }, { on := 14, ground := Ground.textOnly Departure.lateStores }, { on := 15, ground := Ground.phase }, { on := 16, ground := Ground.phase }], guard := none }) (v := .int .i64 ((ty : Nat) : Int)) (fun _ _ => by kernel_rfl) hH ?_
                      try simp only [pA, pB, p1, p2, p3]
                      refine aT (i := 18) (oi := { dst := some 29, op := Op.assign (Operand.tmp 194), type := 4, pos := "outright.go:161", after := #[{ on := 14, ground := Ground.data }, { on := 17, ground := Ground.chain }, { on := 0, ground := Ground.phase }, { on := 1, ground := Ground.phase }, { on := 2, ground := Ground.phase }, { on := 3, ground := Ground.phase }, { on := 4, ground := Ground.phase }, { on := 5, ground := Ground.phase }, { on := 6, ground := Ground.phase }, { on := 7, ground := Ground.phase }, { on := 8, ground := Ground.phase }, { on := 9, ground := Ground.phase }, { on := 10, ground := Ground.phase }, { on := 11, ground := Ground.phase }, { on := 12, ground := Ground.phase }, { on := 13, ground := Ground.phase }, { on := 14, ground := Ground.phase }, { on := 15, ground := Ground.phase }, { on := 16, ground := Ground.phase }, { on := 17, ground := Ground.phase }], guard := none }) (v := .bool true) (fun _ _ => by kernel_rfl) hH ?_
                      try simp only [pA, pB, p1, p2, p3]
                      refine wpAnyH_done (by kernel_rfl) ?_ _
                      try simp only [pA, pB, p1, p2, p3]
                      clear hH
                      have HHy : Hid (HdAt wk56 y yb ye yl yp) := HH6.out.no HK2.out
                      have HM : Hid (MemS wk56 n X) := HMs.out.no HK0.out
                      have HMY : Hid (MemS wk56 n Y) := HMYs.out.no HK0.out
                      refine hK0 _ _ (Met.intro (hJ0 _ _ ?_))
                      (repeat apply Exists.intro)
                      refine ⟨?_, rfl⟩
                      exact ⟨gk54, y, yb, ye, yl, yp, ty, rfl, rfl, rfl, HHy, HWy, HEy, HOy, HM, HMY, HF⟩
                     ·skip
                      clear hi
                      refine step_run (i := 15) (o := { dst := some 27, op := Op.alloc 35, type := 0, pos := "outright.go:161", after := #[], guard := none }) rfl (by kernel_rfl) (exec_alloc 35 rfl (Hd.cells hdZ) zero35) (Fr.front (l := [(gk2, 23, Ky.cells ⟨1, 3, 1, 0⟩), (gl, 35, (svL n Y ++ sl).toArray), (gf, 35, (svL n X ++ sf).toArray), (gp, 3, (nuL N f ++ sp).toArray), (gx, 35, Hd.cells x)]) (m := [_]) (hH.alloc _ _)) (fun hH => ?_)
                      try simp only [pA, pB, p1, p2, p3]
                      have hx0_gk57 : s0 ≤ wk52.heap.size := by rw [← HS0.out]; exact HK0.out.size
                      have HK0 : Hid (Kept No wc (wk52.alloc (.cells (Hd.cells hdZ) 35))) := HK0.out.no ((Kept.refl No _).alloc _)
                      have HF : Hid (Fr No w (wk52.alloc (.cells (Hd.cells hdZ) 35)) [(gk2, 23, Ky.cells ⟨1, 3, 1, 0⟩), (gl, 35, (svL n Y ++ sl).toArray), (gf, 35, (svL n X ++ sf).toArray), (gp, 3, (nuL N f ++ sp).toArray), (gx, 35, Hd.cells x), (wk52.heap.size, 35, Hd.cells hdZ)]) := HF.out.alloc _ _
                      generalize wk52.alloc (.cells (Hd.cells hdZ) 35) = wk58 at HF HK0 hH ⊢
                      generalize wk52.heap.size = gk57 at HF hx0_gk57 ⊢
                      refine any_call (i := 10) (o := { dst := some 191, op := Op.call { callee := Callee.value (Operand.func 29), args := #[Operand.tmp 181, Operand.tmp 183, Operand.tmp 185, Operand.tmp 186, Operand.tmp 190], argTypes := #[23, 3, 3, 35, 35] }, type := 79, pos := "outright.go:161", after := #[{ on := 0, ground := Ground.data }, { on := 2, ground := Ground.data }, { on := 4, ground := Ground.data }, { on := 5, ground := Ground.data }, { on := 9, ground := Ground.data }], guard := none }) rfl (by kernel_rfl) (by kernel_rfl) 29 #[.agg (Ky.cells ⟨2, 0, 0, 0⟩), .int .i64 (((a + 1) : Nat) : Int), .int .i64 (((b + 1) : Nat) : Int), .agg (Hd.cells x), .agg (Hd.cells ((Y b).h))] (by kernel_rfl) _ (row_off (fun k => (fun k => k = gl ∨ k = gf ∨ k = gp) k ∨ k = gk57) ⟨2, 0, 0, 0⟩ (((a + 1) : Nat) : Int) (((b + 1) : Nat) : Int) x (Y b).h xb xe xl xp (Y b).b (Y b).e (Y b).l (Y b).p _ (HHxs.out.no HK0.out) ((HMYs.out.no HK0.out) b hb) HWx.out (HWY.out b hb) (.inr rfl) (by rintro k (e | e); exact (show ∀ k, (fun k => k = gl ∨ k = gf ∨ k = gp) k → k < wk58.heap.size from (by rintro k (e | e | e); rw [e]; exact (HF.out.box 1 _ _ _ rfl).lt; rw [e]; exact (HF.out.box 2 _ _ _ rfl).lt; rw [e]; exact (HF.out.box 3 _ _ _ rfl).lt)) k e; rw [e]; exact (HF.out.box 5 _ _ _ rfl).lt) (HdOff.of (G2 := fun k => wc.heap.size ≤ k) HOx.out (HdOff.start HHxs.out (fun k e => e)) (fun k e => e.elim .inl (fun e => .inr (by show wc.heap.size ≤ k; rw [e, HS0.out]; exact hx0_gk57))))) ?_
                      rintro e wk59 ⟨y, yb, ye, yl, yp, ty, rfl, hh, hw2, hE, ho, hk⟩
                      have hH2 : Fr No w wk59 [(gk2, 23, Ky.cells ⟨1, 3, 1, 0⟩), (gl, 35, (svL n Y ++ sl).toArray), (gf, 35, (svL n X ++ sf).toArray), (gp, 3, (nuL N f ++ sp).toArray), (gx, 35, Hd.cells x)] := hH.no hk
                      have HK0 : Hid (Kept No wc (wk59)) := HK0.out.no hk
                      have HF : Hid (Fr No w (wk59) [(gk2, 23, Ky.cells ⟨1, 3, 1, 0⟩), (gl, 35, (svL n Y ++ sl).toArray), (gf, 35, (svL n X ++ sf).toArray), (gp, 3, (nuL N f ++ sp).toArray), (gx, 35, Hd.cells x), (gk57, 35, Hd.cells hdZ)]) := HF.out.no hk
                      have HWy : Hid (Wl y yb ye yl yp) := hw2
                      have HEy : Hid (RowE 2 (edgeF x.k.up (decd xp)) x y (Y b).h xp yp (Y b).p ty) := hE
                      have HHy : Hid (HdAt wk59 y yb ye yl yp) := hh
                      have HOg : Hid (HdOff (fun k => (fun k => k = gl ∨ k = gf ∨ k = gp) k ∨ k = gk57) y yb ye yl yp) := ho
                      have HOy : Hid (HdOff (fun k => k = gl ∨ k = gf ∨ k = gp) y yb ye yl yp) := ho.mono (fun k e => .inl e)
                      clear hh hw2 hE ho hk
                      refine ⟨.tuple #[.agg (Hd.cells y), .int .i64 ((ty : Nat) : Int), .bool true], rfl, hH2, fun hH => ?_⟩
                      clear hH2
                      try simp only [pA, pB, p1, p2, p3]
                      refine aT (i := 11) (oi := { dst := some 180, op := Op.move (Operand.tmp 191), type := 79, pos := "outright.go:161", after := #[{ on := 10, ground := Ground.data }], guard := none }) (v := .tuple #[.agg (Hd.cells y), .int .i64 ((ty : Nat) : Int), .bool true]) (fun _ _ => by kernel_rfl) hH ?_
                      try simp only [pA, pB, p1, p2, p3]
                      refine aT (i := 12) (oi := { dst := some 192, op := Op.extract (Operand.tmp 180) 0, type := 35, pos := "outright.go:161", after := #[{ on := 11, ground := Ground.data }], guard := none }) (v := .agg (Hd.cells y)) (fun _ _ => by kernel_rfl) hH ?_
                      try simp only [pA, pB, p1, p2, p3]
                      refine aT (i := 13) (oi := { dst := some 193, op := Op.extract (Operand.tmp 180) 1, type := 3, pos := "outright.go:161", after := #[{ on := 11, ground := Ground.data }, { on := 16, ground := Ground.gcOnly Departure.lateStores }], guard := none }) (v := .int .i64 ((ty : Nat) : Int)) (fun _ _ => by kernel_rfl) hH ?_
                      try simp only [pA, pB, p1, p2, p3]
                      refine aT (i := 14) (oi := { dst := some 194, op := Op.extract (Operand.tmp 180) 2, type := 4, pos := "outright.go:161", after := #[{ on := 11, ground := Ground.data }, { on := 17, ground := Ground.gcOnly Departure.lateStores }], guard := none }) (v := .bool true) (fun _ _ => by kernel_rfl) hH ?_
                      try simp only [pA, pB, p1, p2, p3]
                      refine any_store (i := 16) (o := { dst := none, op := Op.store 35 (Operand.tmp 27) (Operand.tmp 192), type := 0, pos := "outright.go:161", after := #[{ on := 15, ground := Ground.data }, { on := 12, ground := Ground.data }, { on := 10, ground := Ground.chain }, { on := 0, ground := Ground.phase }, { on := 1, ground := Ground.phase }, { on := 2, ground := Ground.phase }, { on := 3, ground := Ground.phase }, { on := 4, ground := Ground.phase }, { on := 5, ground := Ground.phase }, { on := 6, ground := Ground.phase }, { on := 7, ground := Ground.phase }, { on := 8, ground := Ground.phase }, { on := 9, ground := Ground.phase }, { on := 10, ground := Ground.phase }, { on := 11, ground := Ground.phase }, { on := 12, ground := Ground.phase }, { on := 13, ground := Ground.textOnly Departure.lateStores }, { on := 14, ground := Ground.textOnly Departure.lateStores }, { on := 15, ground := Ground.phase }], guard := none }) (w' := wk59.setRow gk57 (Hd.cells y)) rfl (by kernel_rfl) (by kernel_rfl) 35 _ _ rfl ⟨gk57, 0, none⟩ (.agg (Hd.cells y)) (by kernel_rfl) (by kernel_rfl) (run_store_to (cur := Hd.cs hdZ) (vs := Hd.cs y) (new := Hd.cs y) (HF.out.box 5 _ _ _ rfl) (by kernel_rfl) Try.size35 (Nat.le_of_ble_eq_true (by kernel_rfl)) (Hd.oneL _) (by kernel_rfl)) (Fr.front (l := [(gk2, 23, Ky.cells ⟨1, 3, 1, 0⟩), (gl, 35, (svL n Y ++ sl).toArray), (gf, 35, (svL n X ++ sf).toArray), (gp, 3, (nuL N f ++ sp).toArray), (gx, 35, Hd.cells x)]) (m := [(gk57, 35, Hd.cells y)]) (HF.out.set 5 rfl _)) (fun hH => ?_)
                      try simp only [pA, pB, p1, p2, p3]
                      have HK0 : Hid (Kept No wc (wk59.setRow gk57 (Hd.cells y))) := HK0.out.newRow (by rw [HS0.out]; exact hx0_gk57) _
                      have HHy : Hid (HdAt (wk59.setRow gk57 (Hd.cells y)) y yb ye yl yp) := HHy.out.keptG HOg.out (Kept.setRow _ _ _) (fun k e => .inr e)
                      have HF : Hid (Fr No w (wk59.setRow gk57 (Hd.cells y)) [(gk2, 23, Ky.cells ⟨1, 3, 1, 0⟩), (gl, 35, (svL n Y ++ sl).toArray), (gf, 35, (svL n X ++ sf).toArray), (gp, 3, (nuL N f ++ sp).toArray), (gx, 35, Hd.cells x), (gk57, 35, Hd.cells y)]) := HF.out.set 5 rfl _
                      generalize wk59.setRow gk57 (Hd.cells y) = wk60 at HF HK0 HHy hH ⊢
                      refine aT (i := 17) (oi := { dst := some 28, op := Op.assign (Operand.tmp 193), type := 3, pos := "outright.go:161", after := #[{ on := 13, ground := Ground.data }, { on := 16, ground := Ground.chain }, { on := 0, ground := Ground.phase }, { on := 1, ground := Ground.phase }, { on := 2, ground := Ground.phase }, { on := 3, ground := Ground.phase }, { on := 4, ground := Ground.phase }, { on := 5, ground := Ground.phase }, { on := 6, ground := Ground.phase }, { on := 7, ground := Ground.phase }, { on := 8, ground := Ground.phase }, { on := 9, ground := Ground.phase }, { on := 10, ground := Ground.phase }, { on := 11, ground := Ground.phase }, { on := 12, ground := Ground.phase }, { on := 13, ground := Ground.phase }, { on := 14, ground := Ground.textOnly Departure.lateStores }, { on := 15, ground := Ground.phase }, { on := 16, ground := Ground.phase }], guard := none }) (v := .int .i64 ((ty : Nat) : Int)) (fun _ _ => by kernel_rfl) hH ?_
                      try simp only [pA, pB, p1, p2, p3]
                      refine aT (i := 18) (oi := { dst := some 29, op := Op.assign (Operand.tmp 194), type := 4, pos := "outright.go:161", after := #[{ on := 14, ground := Ground.data }, { on := 17, ground := Ground.chain }, { on := 0, ground := Ground.phase }, { on := 1, ground := Ground.phase }, { on := 2, ground := Ground.phase }, { on := 3, ground := Ground.phase }, { on := 4, ground := Ground.phase }, { on := 5, ground := Ground.phase }, { on := 6, ground := Ground.phase }, { on := 7, ground := Ground.phase }, { on := 8, ground := Ground.phase }, { on := 9, ground := Ground.phase }, { on := 10, ground := Ground.phase }, { on := 11, ground := Ground.phase }, { on := 12, ground := Ground.phase }, { on := 13, ground := Ground.phase }, { on := 14, ground := Ground.phase }, { on := 15, ground := Ground.phase }, { on := 16, ground := Ground.phase }, { on := 17, ground := Ground.phase }], guard := none }) (v := .bool true) (fun _ _ => by kernel_rfl) hH ?_
                      try simp only [pA, pB, p1, p2, p3]
                      refine wpAnyH_done (by kernel_rfl) ?_ _
                      try simp only [pA, pB, p1, p2, p3]
                      clear hH
                      have HM : Hid (MemS wk60 n X) := HMs.out.no HK0.out
                      have HMY : Hid (MemS wk60 n Y) := HMYs.out.no HK0.out
                      refine hK0 _ _ (Met.intro (hJ0 _ _ ?_))
                      (repeat apply Exists.intro)
                      refine ⟨?_, rfl⟩
                      exact ⟨gk57, y, yb, ye, yl, yp, ty, rfl, rfl, rfl, HHy, HWy, HEy, HOy, HM, HMY, HF⟩
                    case rest =>
                     clear HF HM HMY
                     obtain ⟨gy, y, yb, ye, yl, yp, ty, rfl, rfl, rfl, HHy, HWy, HEy, HOy, HM, HMY, HF⟩ := hcut
                     go_upto_region 39 with fail
                     refine WL.start ?_
                     refine tK (.bool true) ?_
                     try simp only [pA, pB, p1, p2, p3]
                     refine tK (.bool false) ?_
                     try simp only [pA, pB, p1, p2, p3]
                     refine tK (.bool false) ?_
                     try simp only [pA, pB, p1, p2, p3]
                     refine tK (.bool true) ?_
                     try simp only [pA, pB, p1, p2, p3]
                     refine tK (.bool false) ?_
                     try simp only [pA, pB, p1, p2, p3]
                     refine tK (.bool false) ?_
                     try simp only [pA, pB, p1, p2, p3]
                     refine WL.nil ?_
                     try simp only [pA, pB, p1, p2, p3]
                     go_upto_region 41 with fail
                     refine WL.start ?_
                     refine tK (.slice (some ⟨gl, 0, none⟩) n lc) ?_
                     try simp only [pA, pB, p1, p2, p3]
                     refine tK (.int .i64 ((a : Nat) : Int)) ?_
                     try simp only [pA, pB, p1, p2, p3]
                     refine tW (.agg (Hd.cells y)) (exec_load 35 _ rfl ⟨gy, 0, none⟩ (by kernel_rfl) (.agg (Hd.cells y)) (run_load_part (cs := Hd.cs y) (sub := Hd.cs y) (HF.out.box 5 _ _ _ rfl) (Part.all _) Try.und35 rfl Try.size35)) ?_
                     try simp only [pA, pB, p1, p2, p3]
                     refine tW (.pointer (some ⟨gl, 0 + a * 7, none⟩)) (exec_ixA 83 7 Try.und83e Try.size83e _ _ rfl gl 0 n lc a (by kernel_rfl) (by kernel_rfl) ha) ?_
                     try simp only [pA, pB, p1, p2, p3]
                     refine wp_storeW 35 _ _ rfl ⟨gl, 0 + a * 7, none⟩ (.agg (Hd.cells y)) (by kernel_rfl) (by kernel_rfl) (wc.setRow gl ((svL n (updS Y a ⟨y, yb, ye, yl, yp⟩) ++ sl).toArray)) (st_V ⟨y, yb, ye, yl, yp⟩ (HF.out.box 1 _ _ _ rfl) ha) (by kernel_rfl) ?_
                     try simp only [pA, pB, p1, p2, p3]
                     have HM : Hid (MemS (wc.setRow gl ((svL n (updS Y a ⟨y, yb, ye, yl, yp⟩) ++ sl).toArray)) n X) := HM.out.kept HOG.out (Kept.setRow _ _ _) (fun k e => .inl e)
                     have HMY : Hid (MemS (wc.setRow gl ((svL n (updS Y a ⟨y, yb, ye, yl, yp⟩) ++ sl).toArray)) n Y) := HMY.out.kept HOY.out (Kept.setRow _ _ _) (fun k e => .inl e)
                     have HHy : Hid (HdAt (wc.setRow gl ((svL n (updS Y a ⟨y, yb, ye, yl, yp⟩) ++ sl).toArray)) y yb ye yl yp) := HHy.out.keptG HOy.out (Kept.setRow _ _ _) (fun k e => .inl e)
                     have HF : Hid (Fr No w (wc.setRow gl ((svL n (updS Y a ⟨y, yb, ye, yl, yp⟩) ++ sl).toArray)) [(gk2, 23, Ky.cells ⟨1, 3, 1, 0⟩), (gl, 35, (svL n (updS Y a ⟨y, yb, ye, yl, yp⟩) ++ sl).toArray), (gf, 35, (svL n X ++ sf).toArray), (gp, 3, (nuL N f ++ sp).toArray), (gx, 35, Hd.cells x), (gy, 35, Hd.cells y)]) := HF.out.set 1 rfl _
                     generalize wc.setRow gl ((svL n (updS Y a ⟨y, yb, ye, yl, yp⟩) ++ sl).toArray) = wk61 at HF HM HMY HHy ⊢
                     refine WL.nil ?_
                     try simp only [pA, pB, p1, p2, p3]
                     go_upto_region 33 with fail
                     refine WL.start ?_
                     refine tK (.int .i64 ((p : Nat) : Int)) ?_
                     try simp only [pA, pB, p1, p2, p3]
                     refine tW (.int .i64 (((p + 1) : Nat) : Int)) (exec_bin .add 3 _ _ _ rfl (.int .i64 ((p : Nat) : Int)) (.int .i64 1) (.int .i64 (((p + 1) : Nat) : Int)) (by kernel_rfl) (by kernel_rfl) (by kernel_rfl) (b_addw _ _ _ (by rw [IntKind.wrap_i64]; omega) _)) ?_
                     try simp only [pA, pB, p1, p2, p3]
                     refine tK (.int .i64 (((p + 1) : Nat) : Int)) ?_
                     try simp only [pA, pB, p1, p2, p3]
                     refine WL.nil ?_
                     try simp only [pA, pB, p1, p2, p3]
                     have HMY2 : Hid (MemS wk61 n (updS Y a ⟨y, yb, ye, yl, yp⟩)) := HMY.out.upd a HHy.out
                     have HOY2 : Hid (OffS (fun k => k = gl ∨ k = gf ∨ k = gp) n (updS Y a ⟨y, yb, ye, yl, yp⟩)) := HOY.out.upd a HOy.out
                     have HWY2 : Hid (WlS n (updS Y a ⟨y, yb, ye, yl, yp⟩)) := HWY.out.upd a HWy.out
                     have HI2 : Hid (AllI n X (updS Y a ⟨y, yb, ye, yl, yp⟩) (fun q => ∃ i, i < p + 1 ∧ q = f i)) := AllI.next2 (x := ⟨x, xb, xe, xl, xp⟩) (y := ⟨y, yb, ye, yl, yp⟩) HI.out HEa.out HEb.out ha HEx.out HEy.out (fun q ⟨i, hi, e⟩ => by
                       by_cases e2 : i = p
                       · exact .inr (by rw [e, e2])
                       · exact .inl ⟨i, by omega, e⟩)
                     have HF : Hid (Fr No w wk61 [(gk2, 23, Ky.cells ⟨1, 3, 1, 0⟩), (gl, 35, (svL n (updS Y a ⟨y, yb, ye, yl, yp⟩) ++ sl).toArray), (gf, 35, (svL n X ++ sf).toArray), (gp, 3, (nuL N f ++ sp).toArray)]) := (show Fr No w wk61 ([(gk2, 23, Ky.cells ⟨1, 3, 1, 0⟩), (gl, 35, (svL n (updS Y a ⟨y, yb, ye, yl, yp⟩) ++ sl).toArray), (gf, 35, (svL n X ++ sf).toArray), (gp, 3, (nuL N f ++ sp).toArray)] ++ [(gx, 35, Hd.cells x), (gy, 35, Hd.cells y)]) from HF.out).front
                     go_wp2
                     go_roundw
                     case rel => exact ⟨p + 1, updS Y a ⟨y, yb, ye, yl, yp⟩, by go_num, by omega, HM, HMY2, HOY2, HWY2, HI2, HF⟩
                     case measure => simp [intOf]; omega
                  ·skip
                   refine tW (.bool true) (exec_bin .eql 3 _ _ _ rfl (.int .i64 ((a : Nat) : Int)) (.int .i64 ((b : Nat) : Int)) (.bool true) (by kernel_rfl) (by kernel_rfl) (by kernel_rfl) (by rw [b_eql, q3]; try rfl)) ?_
                   try simp only [pA, pB, p1, p2, p3]
                   refine WL.nil ?_
                   try simp only [pA, pB, p1, p2, p3]
                   have hab : a = b := by have := q3; simp at this; omega
                   have HI2 : Hid (AllI n X Y (fun q => ∃ i, i < p + 1 ∧ q = f i)) := HI.out.mono (fun q ⟨i, hi, e⟩ hne => by
                     by_cases e2 : i = p
                     · exact absurd (by rw [e, e2, HEa.out, HEb.out]; exact hab) hne
                     · exact ⟨i, by omega, e⟩)
                   go_upto_region 33 with fail
                   refine WL.start ?_
                   refine tK (.int .i64 ((p : Nat) : Int)) ?_
                   try simp only [pA, pB, p1, p2, p3]
                   refine tW (.int .i64 (((p + 1) : Nat) : Int)) (exec_bin .add 3 _ _ _ rfl (.int .i64 ((p : Nat) : Int)) (.int .i64 1) (.int .i64 (((p + 1) : Nat) : Int)) (by kernel_rfl) (by kernel_rfl) (by kernel_rfl) (b_addw _ _ _ (by rw [IntKind.wrap_i64]; omega) _)) ?_
                   try simp only [pA, pB, p1, p2, p3]
                   refine tK (.int .i64 (((p + 1) : Nat) : Int)) ?_
                   try simp only [pA, pB, p1, p2, p3]
                   refine WL.nil ?_
                   try simp only [pA, pB, p1, p2, p3]
                   go_wp2
                   go_roundw
                   case rel => exact ⟨p + 1, Y, by go_num, by omega, HM, HMY, HOY, HWY, HI2, HF⟩
                   case measure => simp [intOf]; omega
                · skip
                  go_upto_region 32 with fail
                  refine WL.start ?_
                  refine tK (.int .i64 ((p : Nat) : Int)) ?_
                  try simp only [pA, pB, p1, p2, p3]
                  refine tK (.slice (some ⟨gp, 0, none⟩) N qc) ?_
                  try simp only [pA, pB, p1, p2, p3]
                  refine tK (.int .i64 ((N : Nat) : Int)) ?_
                  try simp only [pA, pB, p1, p2, p3]
                  refine tW (.bool false) (exec_bin .lss 3 _ _ _ rfl (.int .i64 ((p : Nat) : Int)) (.int .i64 ((N : Nat) : Int)) (.bool false) (by kernel_rfl) (by kernel_rfl) (by kernel_rfl) (by rw [b_lss, decide_eq_false (by omega)])) ?_
                  try simp only [pA, pB, p1, p2, p3]
                  refine WL.nil ?_
                  try simp only [pA, pB, p1, p2, p3]
                  have hin : N = p := by omega
                  subst hin
                  have HE : Hid (AllE n X Y) := HP.out.pairs HN.out HI.out
                  clear HI HOY HOG hlt hp
                  go_upto_region 42 with fail
                  refine WL.start ?_
                  refine tK (.int .i64 0) ?_
                  try simp only [pA, pB, p1, p2, p3]
                  refine WL.nil ?_
                  try simp only [pA, pB, p1, p2, p3]
                  have h0n : 0 < n := by omega
                  go_wp2
                  go_loopw [30, 31, 32] (fun v30 v31 v32 wr => ∃ (i : Nat), v30 = .int .i64 ((i : Nat) : Int) ∧ i ≤ n ∧ Hid (MemS wr n X) ∧ Hid (MemS wr n Y) ∧ Hid (Fr No w wr [(gk2, 23, Ky.cells ⟨1, 3, 1, 0⟩), (gl, 35, (svL n Y ++ sl).toArray), (gf, 35, (svL n X ++ sf).toArray), (gp, 3, (nuL N f ++ sp).toArray)])) (fun i30 i31 i32 _ => n - (intOf i30).toNat)
                  case atStart => exact ⟨0, by go_num, by omega, HM, HMY, HF⟩
                  case round =>
                    clear HF HM HMY
                    obtain ⟨i, rfl, hi, HM, HMY, HF⟩ := hrel
                    by_cases hlt : i < n
                    · skip
                      go_upto_region 43 with fail
                      refine WL.start ?_
                      refine tK (.int .i64 ((i : Nat) : Int)) ?_
                      try simp only [pA, pB, p1, p2, p3]
                      refine tK (.int .i64 ((n : Nat) : Int)) ?_
                      try simp only [pA, pB, p1, p2, p3]
                      refine tW (.bool true) (exec_bin .lss 3 _ _ _ rfl (.int .i64 ((i : Nat) : Int)) (.int .i64 ((n : Nat) : Int)) (.bool true) (by kernel_rfl) (by kernel_rfl) (by kernel_rfl) (by rw [b_lss, decide_eq_true (by omega)])) ?_
                      try simp only [pA, pB, p1, p2, p3]
                      refine WL.nil ?_
                      try simp only [pA, pB, p1, p2, p3]
                      go_upto_region 45 with fail
                      refine wp_region_held_drew (S := fun w' => Fr No w w' [(gk2, 23, Ky.cells ⟨1, 3, 1, 0⟩), (gl, 35, (svL n Y ++ sl).toArray), (gf, 35, (svL n X ++ sf).toArray), (gp, 3, (nuL N f ++ sp).toArray)]) rfl (HF.out.drew) (fun hH => ?_)
                      have HM : Hid (MemS (wr.drew) n X) := HM.out.no (Kept.refl No _).drew
                      have HMY : Hid (MemS (wr.drew) n Y) := HMY.out.no (Kept.refl No _).drew
                      have HF : Hid (Fr No w (wr.drew) [(gk2, 23, Ky.cells ⟨1, 3, 1, 0⟩), (gl, 35, (svL n Y ++ sl).toArray), (gf, 35, (svL n X ++ sf).toArray), (gp, 3, (nuL N f ++ sp).toArray)]) := HF.out.drew
                      generalize wr.drew = wk62 at HF HM HMY hH ⊢
                      refine aT (i := 0) (oi := { dst := some 210, op := Op.move (Operand.tmp 9), type := 83, pos := "outright.go:168", after := #[], guard := none }) (v := .slice (some ⟨gl, 0, none⟩) n lc) (fun _ _ => by kernel_rfl) hH ?_
                      try simp only [pA, pB, p1, p2, p3]
                      refine aT (i := 1) (oi := { dst := some 211, op := Op.move (Operand.tmp 30), type := 3, pos := "outright.go:168", after := #[], guard := none }) (v := .int .i64 ((i : Nat) : Int)) (fun _ _ => by kernel_rfl) hH ?_
                      try simp only [pA, pB, p1, p2, p3]
                      refine aT (i := 2) (oi := { dst := some 212, op := Op.indexAddr 83 (Operand.tmp 210) (Operand.tmp 211), type := 0, pos := "outright.go:168", after := #[{ on := 0, ground := Ground.data }, { on := 1, ground := Ground.data }], guard := none }) (v := .pointer (some ⟨gl, 0 + i * 7, none⟩)) (fun w' hw => exec_ixA 83 7 Try.und83e Try.size83e _ _ rfl gl 0 n lc i (by kernel_rfl) (by kernel_rfl) hlt) hH ?_
                      try simp only [pA, pB, p1, p2, p3]
                      refine aT (i := 3) (oi := { dst := some 213, op := Op.fieldAddr 35 (Operand.tmp 212) 0, type := 0, pos := "outright.go:168", after := #[{ on := 2, ground := Ground.data }], guard := none }) (v := .pointer (some ⟨gl, 0 + i * 7, none⟩)) (fun _ _ => by kernel_rfl) hH ?_
                      try simp only [pA, pB, p1, p2, p3]
                      refine aT (i := 4) (oi := { dst := some 214, op := Op.fieldAddr 28 (Operand.tmp 213) 0, type := 0, pos := "outright.go:168", after := #[{ on := 3, ground := Ground.data }], guard := none }) (v := .pointer (some ⟨gl, 0 + i * 7, none⟩)) (fun _ _ => by kernel_rfl) hH ?_
                      try simp only [pA, pB, p1, p2, p3]
                      refine aT (i := 5) (oi := { dst := some 215, op := Op.load 25 (Operand.tmp 214), type := 25, pos := "outright.go:168", after := #[{ on := 4, ground := Ground.data }], guard := none }) (v := .agg (Sp.cells ((Y i).h.b.s))) (fun w' hw => exec_load 25 _ rfl ⟨gl, 0 + i * 7, none⟩ (by kernel_rfl) (.agg (Sp.cells ((Y i).h.b.s))) (load_cells (it := Sp.cs (Y i).h.b.s) (fun j v hv => part_V (off := 0) (hw.box 1 _ _ _ rfl) hlt (part_of (by kernel_rfl)) j v hv) Try.und25 rfl Try.size25)) hH ?_
                      try simp only [pA, pB, p1, p2, p3]
                      refine aT (i := 6) (oi := { dst := some 216, op := Op.move (Operand.tmp 9), type := 83, pos := "outright.go:168", after := #[], guard := none }) (v := .slice (some ⟨gl, 0, none⟩) n lc) (fun _ _ => by kernel_rfl) hH ?_
                      try simp only [pA, pB, p1, p2, p3]
                      refine aT (i := 7) (oi := { dst := some 217, op := Op.indexAddr 83 (Operand.tmp 216) (Operand.const (Value.int IntKind.i64 0)), type := 0, pos := "outright.go:168", after := #[{ on := 6, ground := Ground.data }], guard := none }) (v := .pointer (some ⟨gl, 0 + 0 * 7, none⟩)) (fun w' hw => exec_ixA 83 7 Try.und83e Try.size83e _ _ rfl gl 0 n lc 0 (by kernel_rfl) (by kernel_rfl) h0n) hH ?_
                      try simp only [pA, pB, p1, p2, p3]
                      refine aT (i := 8) (oi := { dst := some 218, op := Op.fieldAddr 35 (Operand.tmp 217) 0, type := 0, pos := "outright.go:168", after := #[{ on := 7, ground := Ground.data }], guard := none }) (v := .pointer (some ⟨gl, 0 + 0 * 7, none⟩)) (fun _ _ => by kernel_rfl) hH ?_
                      try simp only [pA, pB, p1, p2, p3]
                      refine aT (i := 9) (oi := { dst := some 219, op := Op.fieldAddr 28 (Operand.tmp 218) 0, type := 0, pos := "outright.go:168", after := #[{ on := 8, ground := Ground.data }], guard := none }) (v := .pointer (some ⟨gl, 0 + 0 * 7, none⟩)) (fun _ _ => by kernel_rfl) hH ?_
                      try simp only [pA, pB, p1, p2, p3]
                      refine aT (i := 10) (oi := { dst := some 220, op := Op.load 25 (Operand.tmp 219), type := 25, pos := "outright.go:168", after := #[{ on := 9, ground := Ground.data }], guard := none }) (v := .agg (Sp.cells ((Y 0).h.b.s))) (fun w' hw => exec_load 25 _ rfl ⟨gl, 0 + 0 * 7, none⟩ (by kernel_rfl) (.agg (Sp.cells ((Y 0).h.b.s))) (load_cells (it := Sp.cs (Y 0).h.b.s) (fun j v hv => part_V (off := 0) (hw.box 1 _ _ _ rfl) h0n (part_of (by kernel_rfl)) j v hv) Try.und25 rfl Try.size25)) hH ?_
                      try simp only [pA, pB, p1, p2, p3]
                      refine aT (i := 11) (oi := { dst := some 221, op := Op.binOp BinOp.neq 25 (Operand.tmp 215) (Operand.tmp 220) 25, type := 4, pos := "outright.go:168", after := #[{ on := 5, ground := Ground.data }, { on := 10, ground := Ground.data }], guard := none }) (v := .bool false) (fun w' hw => exec_bin .neq 25 _ _ _ rfl (.agg (Sp.cells ((Y i).h.b.s))) (.agg (Sp.cells ((Y 0).h.b.s))) (.bool false) (by kernel_rfl) (by kernel_rfl) (by kernel_rfl) (by rw [eqS_neq, (show (Y i).h.b.s = (Y 0).h.b.s from HE.out.st i hlt), eqS_refl]; rfl)) hH ?_
                      try simp only [pA, pB, p1, p2, p3]
                      refine aT (i := 12) (oi := { dst := some 222, op := Op.move (Operand.tmp 221), type := 4, pos := "outright.go:168", after := #[{ on := 11, ground := Ground.data }], guard := none }) (v := .bool false) (fun _ _ => by kernel_rfl) hH ?_
                      try simp only [pA, pB, p1, p2, p3]
                      refine aT (i := 13) (oi := { dst := some 223, op := Op.move (Operand.tmp 9), type := 83, pos := "outright.go:168", after := #[{ on := 12, ground := Ground.guard }], guard := some (12, false) }) (v := .slice (some ⟨gl, 0, none⟩) n lc) (fun _ _ => by kernel_rfl) hH ?_
                      try simp only [pA, pB, p1, p2, p3]
                      refine aT (i := 14) (oi := { dst := some 224, op := Op.move (Operand.tmp 30), type := 3, pos := "outright.go:168", after := #[{ on := 12, ground := Ground.guard }], guard := some (12, false) }) (v := .int .i64 ((i : Nat) : Int)) (fun _ _ => by kernel_rfl) hH ?_
                      try simp only [pA, pB, p1, p2, p3]
                      refine aT (i := 15) (oi := { dst := some 225, op := Op.indexAddr 83 (Operand.tmp 223) (Operand.tmp 224), type := 0, pos := "outright.go:168", after := #[{ on := 13, ground := Ground.data }, { on := 14, ground := Ground.data }, { on := 12, ground := Ground.guard }], guard := some (12, false) }) (v := .pointer (some ⟨gl, 0 + i * 7, none⟩)) (fun w' hw => exec_ixA 83 7 Try.und83e Try.size83e _ _ rfl gl 0 n lc i (by kernel_rfl) (by kernel_rfl) hlt) hH ?_
                      try simp only [pA, pB, p1, p2, p3]
                      refine aT (i := 16) (oi := { dst := some 226, op := Op.fieldAddr 35 (Operand.tmp 225) 0, type := 0, pos := "outright.go:168", after := #[{ on := 15, ground := Ground.data }, { on := 12, ground := Ground.guard }], guard := some (12, false) }) (v := .pointer (some ⟨gl, 0 + i * 7, none⟩)) (fun _ _ => by kernel_rfl) hH ?_
                      try simp only [pA, pB, p1, p2, p3]
                      refine aT (i := 17) (oi := { dst := some 227, op := Op.fieldAddr 28 (Operand.tmp 226) 1, type := 0, pos := "outright.go:168", after := #[{ on := 16, ground := Ground.data }, { on := 12, ground := Ground.guard }], guard := some (12, false) }) (v := .pointer (some ⟨gl, 0 + i * 7 + 2, none⟩)) (fun _ _ => by kernel_rfl) hH ?_
                      try simp only [pA, pB, p1, p2, p3]
                      refine aT (i := 18) (oi := { dst := some 228, op := Op.load 26 (Operand.tmp 227), type := 26, pos := "outright.go:168", after := #[{ on := 17, ground := Ground.data }, { on := 12, ground := Ground.guard }], guard := some (12, false) }) (v := (Y i).h.b.d.v) (fun w' hw => exec_load 26 _ rfl ⟨gl, 0 + i * 7 + 2, none⟩ (by kernel_rfl) ((Y i).h.b.d.v) (load_one (row_V (hw.box 1 _ _ _ rfl) hlt 2 _ rfl) Try.und26 rfl)) hH ?_
                      try simp only [pA, pB, p1, p2, p3]
                      refine aT (i := 19) (oi := { dst := some 229, op := Op.move (Operand.tmp 9), type := 83, pos := "outright.go:168", after := #[{ on := 12, ground := Ground.guard }], guard := some (12, false) }) (v := .slice (some ⟨gl, 0, none⟩) n lc) (fun _ _ => by kernel_rfl) hH ?_
                      try simp only [pA, pB, p1, p2, p3]
                      refine aT (i := 20) (oi := { dst := some 230, op := Op.indexAddr 83 (Operand.tmp 229) (Operand.const (Value.int IntKind.i64 0)), type := 0, pos := "outright.go:168", after := #[{ on := 19, ground := Ground.data }, { on := 12, ground := Ground.guard }], guard := some (12, false) }) (v := .pointer (some ⟨gl, 0 + 0 * 7, none⟩)) (fun w' hw => exec_ixA 83 7 Try.und83e Try.size83e _ _ rfl gl 0 n lc 0 (by kernel_rfl) (by kernel_rfl) h0n) hH ?_
                      try simp only [pA, pB, p1, p2, p3]
                      refine aT (i := 21) (oi := { dst := some 231, op := Op.fieldAddr 35 (Operand.tmp 230) 0, type := 0, pos := "outright.go:168", after := #[{ on := 20, ground := Ground.data }, { on := 12, ground := Ground.guard }], guard := some (12, false) }) (v := .pointer (some ⟨gl, 0 + 0 * 7, none⟩)) (fun _ _ => by kernel_rfl) hH ?_
                      try simp only [pA, pB, p1, p2, p3]
                      refine aT (i := 22) (oi := { dst := some 232, op := Op.fieldAddr 28 (Operand.tmp 231) 1, type := 0, pos := "outright.go:168", after := #[{ on := 21, ground := Ground.data }, { on := 12, ground := Ground.guard }], guard := some (12, false) }) (v := .pointer (some ⟨gl, 0 + 0 * 7 + 2, none⟩)) (fun _ _ => by kernel_rfl) hH ?_
                      try simp only [pA, pB, p1, p2, p3]
                      refine aT (i := 23) (oi := { dst := some 233, op := Op.load 26 (Operand.tmp 232), type := 26, pos := "outright.go:168", after := #[{ on := 22, ground := Ground.data }, { on := 12, ground := Ground.guard }], guard := some (12, false) }) (v := (Y 0).h.b.d.v) (fun w' hw => exec_load 26 _ rfl ⟨gl, 0 + 0 * 7 + 2, none⟩ (by kernel_rfl) ((Y 0).h.b.d.v) (load_one (row_V (hw.box 1 _ _ _ rfl) h0n 2 _ rfl) Try.und26 rfl)) hH ?_
                      try simp only [pA, pB, p1, p2, p3]
                      refine any_call (i := 24) (o := { dst := some 234, op := Op.call { callee := Callee.value (Operand.func 32), args := #[Operand.tmp 228, Operand.tmp 233], argTypes := #[26, 26] }, type := 4, pos := "outright.go:168", after := #[{ on := 18, ground := Ground.data }, { on := 23, ground := Ground.data }, { on := 12, ground := Ground.chain }, { on := 12, ground := Ground.guard }], guard := some (12, false) }) rfl (by kernel_rfl) (by kernel_rfl) 32 #[(Y i).h.b.d.v, (Y 0).h.b.d.v] (by kernel_rfl) _ (sameB_any (Y i).h.b.d (Y 0).h.b.d (Y 0).b _ (HE.out.byte HWY.out hlt ▸ (HMY.out i hlt).b) (HMY.out 0 h0n).b) ?_
                      rintro e wq ⟨rfl, hwq⟩
                      rw [hwq]
                      clear hwq wq
                      refine ⟨.bool true, rfl, hH, fun hH => ?_⟩
                      try simp only [pA, pB, p1, p2, p3]
                      refine aT (i := 25) (oi := { dst := some 235, op := Op.unOp UnOp.not 4 (Operand.tmp 234), type := 4, pos := "outright.go:168", after := #[{ on := 24, ground := Ground.data }, { on := 12, ground := Ground.guard }], guard := some (12, false) }) (v := .bool false) (fun _ _ => by kernel_rfl) hH ?_
                      try simp only [pA, pB, p1, p2, p3]
                      refine aT (i := 26) (oi := { dst := some 236, op := Op.pick (Operand.tmp 222) (Operand.const (Value.bool true)) (Operand.tmp 235), type := 4, pos := "outright.go:168", after := #[{ on := 12, ground := Ground.data }, { on := 25, ground := Ground.data }], guard := none }) (v := .bool false) (fun _ _ => by kernel_rfl) hH ?_
                      try simp only [pA, pB, p1, p2, p3]
                      refine aT (i := 27) (oi := { dst := some 237, op := Op.move (Operand.tmp 236), type := 4, pos := "outright.go:168", after := #[{ on := 26, ground := Ground.data }, { on := 24, ground := Ground.chain }], guard := none }) (v := .bool false) (fun _ _ => by kernel_rfl) hH ?_
                      try simp only [pA, pB, p1, p2, p3]
                      refine aT (i := 28) (oi := { dst := some 238, op := Op.move (Operand.tmp 9), type := 83, pos := "outright.go:168", after := #[{ on := 27, ground := Ground.guard }], guard := some (27, false) }) (v := .slice (some ⟨gl, 0, none⟩) n lc) (fun _ _ => by kernel_rfl) hH ?_
                      try simp only [pA, pB, p1, p2, p3]
                      refine aT (i := 29) (oi := { dst := some 239, op := Op.move (Operand.tmp 30), type := 3, pos := "outright.go:168", after := #[{ on := 27, ground := Ground.guard }], guard := some (27, false) }) (v := .int .i64 ((i : Nat) : Int)) (fun _ _ => by kernel_rfl) hH ?_
                      try simp only [pA, pB, p1, p2, p3]
                      refine aT (i := 30) (oi := { dst := some 240, op := Op.indexAddr 83 (Operand.tmp 238) (Operand.tmp 239), type := 0, pos := "outright.go:168", after := #[{ on := 28, ground := Ground.data }, { on := 29, ground := Ground.data }, { on := 27, ground := Ground.guard }], guard := some (27, false) }) (v := .pointer (some ⟨gl, 0 + i * 7, none⟩)) (fun w' hw => exec_ixA 83 7 Try.und83e Try.size83e _ _ rfl gl 0 n lc i (by kernel_rfl) (by kernel_rfl) hlt) hH ?_
                      try simp only [pA, pB, p1, p2, p3]
                      refine aT (i := 31) (oi := { dst := some 241, op := Op.load 35 (Operand.tmp 240), type := 35, pos := "outright.go:168", after := #[{ on := 30, ground := Ground.data }, { on := 27, ground := Ground.guard }], guard := some (27, false) }) (v := .agg (Hd.cells ((Y i).h))) (fun w' hw => exec_load 35 _ rfl ⟨gl, 0 + i * 7, none⟩ (by kernel_rfl) (.agg (Hd.cells ((Y i).h))) (load_cells (it := Hd.cs (Y i).h) (fun j v hv => row_V (hw.box 1 _ _ _ rfl) hlt j v hv) Try.und35 rfl Try.size35)) hH ?_
                      try simp only [pA, pB, p1, p2, p3]
                      have hWi : Wl (Y i).h (Y i).b (Y i).e (Y i).l (Y i).p := HWY.out i hlt
                      have hMi : HdAt wk62 (Y i).h (Y i).b (Y i).e (Y i).l (Y i).p := HMY.out i hlt
                      have hcl : (Y i).l = [] := hWi.bk.2.2
                      refine any_call (i := 32) (o := { dst := some 242, op := Op.call { callee := Callee.value (Operand.func 31), args := #[Operand.tmp 241], argTypes := #[35] }, type := 4, pos := "outright.go:168", after := #[{ on := 31, ground := Ground.data }, { on := 27, ground := Ground.chain }, { on := 27, ground := Ground.guard }], guard := some (27, false) }) rfl (by kernel_rfl) (by kernel_rfl) 31 #[.agg (Hd.cells ((Y i).h))] (by kernel_rfl) _ (right_any (Y i).h (Y i).p (Y i).e _ hMi.p hMi.e (hcl ▸ hMi.l) (by have := hWi.may.len; omega) hWi.ops (hcl ▸ hWi.bk) hWi.may.1.1) ?_
                      rintro e wk63 ⟨rfl, hk⟩
                      have hH2 : Fr No w wk63 [(gk2, 23, Ky.cells ⟨1, 3, 1, 0⟩), (gl, 35, (svL n Y ++ sl).toArray), (gf, 35, (svL n X ++ sf).toArray), (gp, 3, (nuL N f ++ sp).toArray)] := hH.no hk
                      have HM : Hid (MemS (wk63) n X) := HM.out.no hk
                      have HMY : Hid (MemS (wk63) n Y) := HMY.out.no hk
                      have HF : Hid (Fr No w (wk63) [(gk2, 23, Ky.cells ⟨1, 3, 1, 0⟩), (gl, 35, (svL n Y ++ sl).toArray), (gf, 35, (svL n X ++ sf).toArray), (gp, 3, (nuL N f ++ sp).toArray)]) := HF.out.no hk
                      clear hk
                      refine ⟨.bool true, rfl, hH2, fun hH => ?_⟩
                      clear hH2
                      try simp only [pA, pB, p1, p2, p3]
                      clear hWi hMi hcl
                      refine aT (i := 33) (oi := { dst := some 243, op := Op.unOp UnOp.not 4 (Operand.tmp 242), type := 4, pos := "outright.go:168", after := #[{ on := 32, ground := Ground.data }, { on := 27, ground := Ground.guard }], guard := some (27, false) }) (v := .bool false) (fun _ _ => by kernel_rfl) hH ?_
                      try simp only [pA, pB, p1, p2, p3]
                      refine aT (i := 34) (oi := { dst := some 244, op := Op.pick (Operand.tmp 237) (Operand.const (Value.bool true)) (Operand.tmp 243), type := 4, pos := "outright.go:168", after := #[{ on := 27, ground := Ground.data }, { on := 33, ground := Ground.data }], guard := none }) (v := .bool false) (fun _ _ => by kernel_rfl) hH ?_
                      try simp only [pA, pB, p1, p2, p3]
                      refine wpAnyH_done (by kernel_rfl) ?_ _
                      try simp only [pA, pB, p1, p2, p3]
                      clear hH
                      go_upto_region 47 with fail
                      refine WL.start ?_
                      refine tK (.int .i64 1) ?_
                      try simp only [pA, pB, p1, p2, p3]
                      refine WL.nil ?_
                      try simp only [pA, pB, p1, p2, p3]
                      go_wp2
                      go_loopw [31, 32] (fun v31 v32 wr => ∃ (t : Nat), v31 = .int .i64 ((t : Nat) : Int) ∧ t ≤ 440 ∧ Hid (MemS wr n X) ∧ Hid (MemS wr n Y) ∧ Hid (Fr No w wr [(gk2, 23, Ky.cells ⟨1, 3, 1, 0⟩), (gl, 35, (svL n Y ++ sl).toArray), (gf, 35, (svL n X ++ sf).toArray), (gp, 3, (nuL N f ++ sp).toArray)])) (fun i31 i32 _ => 440 - (intOf i31).toNat)
                      case atStart => exact ⟨1, by go_num, by omega, HM, HMY, HF⟩
                      case round =>
                        clear HF HM HMY
                        obtain ⟨t, rfl, ht, HM, HMY, HF⟩ := hrel
                        by_cases hlt2 : t < 440
                        · skip
                          go_upto_region 48 with fail
                          refine WL.start ?_
                          refine tK (.int .i64 ((t : Nat) : Int)) ?_
                          try simp only [pA, pB, p1, p2, p3]
                          refine tW (.bool true) (exec_bin .lss 3 _ _ _ rfl (.int .i64 ((t : Nat) : Int)) (.int .i64 440) (.bool true) (by kernel_rfl) (by kernel_rfl) (by kernel_rfl) (by rw [b_lss, decide_eq_true (by omega)])) ?_
                          try simp only [pA, pB, p1, p2, p3]
                          refine WL.nil ?_
                          try simp only [pA, pB, p1, p2, p3]
                          go_upto_region 50 with fail
                          refine WL.start ?_
                          refine tK (.int .i64 0) ?_
                          try simp only [pA, pB, p1, p2, p3]
                          refine WL.nil ?_
                          try simp only [pA, pB, p1, p2, p3]
                          go_wp2
                          go_loopw [32] (fun v32 wr => ∃ (j : Nat), v32 = .int .i64 ((j : Nat) : Int) ∧ j ≤ n ∧ Hid (MemS wr n X) ∧ Hid (MemS wr n Y) ∧ Hid (Fr No w wr [(gk2, 23, Ky.cells ⟨1, 3, 1, 0⟩), (gl, 35, (svL n Y ++ sl).toArray), (gf, 35, (svL n X ++ sf).toArray), (gp, 3, (nuL N f ++ sp).toArray)])) (fun i32 _ => n - (intOf i32).toNat)
                          case atStart => exact ⟨0, by go_num, by omega, HM, HMY, HF⟩
                          case round =>
                            clear HF HM HMY
                            obtain ⟨j, rfl, hj, HM, HMY, HF⟩ := hrel
                            by_cases hlj : j < n
                            · skip
                              go_upto_region 51 with fail
                              refine WL.start ?_
                              refine tK (.int .i64 ((j : Nat) : Int)) ?_
                              try simp only [pA, pB, p1, p2, p3]
                              refine tK (.int .i64 ((n : Nat) : Int)) ?_
                              try simp only [pA, pB, p1, p2, p3]
                              refine tW (.bool true) (exec_bin .lss 3 _ _ _ rfl (.int .i64 ((j : Nat) : Int)) (.int .i64 ((n : Nat) : Int)) (.bool true) (by kernel_rfl) (by kernel_rfl) (by kernel_rfl) (by rw [b_lss, decide_eq_true (by omega)])) ?_
                              try simp only [pA, pB, p1, p2, p3]
                              refine WL.nil ?_
                              try simp only [pA, pB, p1, p2, p3]
                              go_upto_region 53 with fail
                              refine WL.start ?_
                              refine tK (.slice (some ⟨gf, 0, none⟩) n fc) ?_
                              try simp only [pA, pB, p1, p2, p3]
                              refine tK (.int .i64 ((j : Nat) : Int)) ?_
                              try simp only [pA, pB, p1, p2, p3]
                              refine tW (.pointer (some ⟨gf, 0 + j * 7, none⟩)) (exec_ixA 83 7 Try.und83e Try.size83e _ _ rfl gf 0 n fc j (by kernel_rfl) (by kernel_rfl) hlj) ?_
                              try simp only [pA, pB, p1, p2, p3]
                              refine tW (.agg (Hd.cells ((X j).h))) (exec_load 35 _ rfl ⟨gf, 0 + j * 7, none⟩ (by kernel_rfl) (.agg (Hd.cells ((X j).h))) (load_cells (it := Hd.cs (X j).h) (fun j v hv => row_V (HF.out.box 2 _ _ _ rfl) hlj j v hv) Try.und35 rfl Try.size35)) ?_
                              try simp only [pA, pB, p1, p2, p3]
                              refine tK (.int .i64 ((t : Nat) : Int)) ?_
                              try simp only [pA, pB, p1, p2, p3]
                              refine wp_callW 30 #[.agg (Hd.cells ((X j).h)), .int .i64 ((t : Nat) : Int)] (by kernel_rfl) _ (knows_any (X j).h (X j).p ((t : Nat) : Int) _ (HM.out j hlj).p (by have h1 : Wl (X j).h (X j).b (X j).e (X j).l (X j).p := HW.out j hlj; have := h1.may.len; omega)) (by kernel_rfl) ?_
                              rintro e wk64 ⟨rfl, hk⟩
                              have HM : Hid (MemS (wk64) n X) := HM.out.no hk
                              have HMY : Hid (MemS (wk64) n Y) := HMY.out.no hk
                              have HF : Hid (Fr No w (wk64) [(gk2, 23, Ky.cells ⟨1, 3, 1, 0⟩), (gl, 35, (svL n Y ++ sl).toArray), (gf, 35, (svL n X ++ sf).toArray), (gp, 3, (nuL N f ++ sp).toArray)]) := HF.out.no hk
                              clear hk
                              refine ⟨.bool (knowB (X j).h (X j).p ((t : Nat) : Int)), rfl, ?_⟩
                              try simp only [pA, pB, p1, p2, p3]
                              refine tK (.bool (knowB (X j).h (X j).p ((t : Nat) : Int))) ?_
                              try simp only [pA, pB, p1, p2, p3]
                              cases q4 : ((knowB (X j).h (X j).p ((t : Nat) : Int)))
                              ·skip
                               try simp only [q4]
                               refine sK ?_
                               try simp only [pA, pB, p1, p2, p3]
                               refine sK ?_
                               try simp only [pA, pB, p1, p2, p3]
                               refine sK ?_
                               try simp only [pA, pB, p1, p2, p3]
                               refine sK ?_
                               try simp only [pA, pB, p1, p2, p3]
                               refine sK ?_
                               try simp only [pA, pB, p1, p2, p3]
                               refine sK ?_
                               try simp only [pA, pB, p1, p2, p3]
                               refine sK ?_
                               try simp only [pA, pB, p1, p2, p3]
                               refine tK (.bool false) ?_
                               try simp only [pA, pB, p1, p2, p3]
                               refine WL.nil ?_
                               try simp only [pA, pB, p1, p2, p3]
                               go_upto_region 52 with fail
                               refine WL.start ?_
                               refine tK (.int .i64 ((j : Nat) : Int)) ?_
                               try simp only [pA, pB, p1, p2, p3]
                               refine tW (.int .i64 (((j + 1) : Nat) : Int)) (exec_bin .add 3 _ _ _ rfl (.int .i64 ((j : Nat) : Int)) (.int .i64 1) (.int .i64 (((j + 1) : Nat) : Int)) (by kernel_rfl) (by kernel_rfl) (by kernel_rfl) (b_addw _ _ _ (by rw [IntKind.wrap_i64]; omega) _)) ?_
                               try simp only [pA, pB, p1, p2, p3]
                               refine tK (.int .i64 (((j + 1) : Nat) : Int)) ?_
                               try simp only [pA, pB, p1, p2, p3]
                               refine WL.nil ?_
                               try simp only [pA, pB, p1, p2, p3]
                               go_wp2
                               go_roundw
                               case rel => exact ⟨j + 1, by go_num, by omega, HM, HMY, HF⟩
                               case measure => simp [intOf]; omega
                              ·skip
                               try simp only [q4]
                               refine tK (.slice (some ⟨gl, 0, none⟩) n lc) ?_
                               try simp only [pA, pB, p1, p2, p3]
                               refine tK (.int .i64 ((i : Nat) : Int)) ?_
                               try simp only [pA, pB, p1, p2, p3]
                               refine tW (.pointer (some ⟨gl, 0 + i * 7, none⟩)) (exec_ixA 83 7 Try.und83e Try.size83e _ _ rfl gl 0 n lc i (by kernel_rfl) (by kernel_rfl) hlt) ?_
                               try simp only [pA, pB, p1, p2, p3]
                               refine tW (.agg (Hd.cells ((Y i).h))) (exec_load 35 _ rfl ⟨gl, 0 + i * 7, none⟩ (by kernel_rfl) (.agg (Hd.cells ((Y i).h))) (load_cells (it := Hd.cs (Y i).h) (fun j v hv => row_V (HF.out.box 1 _ _ _ rfl) hlt j v hv) Try.und35 rfl Try.size35)) ?_
                               try simp only [pA, pB, p1, p2, p3]
                               refine tK (.int .i64 ((t : Nat) : Int)) ?_
                               try simp only [pA, pB, p1, p2, p3]
                               refine wp_callW 30 #[.agg (Hd.cells ((Y i).h)), .int .i64 ((t : Nat) : Int)] (by kernel_rfl) _ (knows_any (Y i).h (Y i).p ((t : Nat) : Int) _ (HMY.out i hlt).p (by have h1 : Wl (Y i).h (Y i).b (Y i).e (Y i).l (Y i).p := HWY.out i hlt; have := h1.may.len; omega)) (by kernel_rfl) ?_
                               rintro e wk65 ⟨rfl, hk⟩
                               have HM : Hid (MemS (wk65) n X) := HM.out.no hk
                               have HMY : Hid (MemS (wk65) n Y) := HMY.out.no hk
                               have HF : Hid (Fr No w (wk65) [(gk2, 23, Ky.cells ⟨1, 3, 1, 0⟩), (gl, 35, (svL n Y ++ sl).toArray), (gf, 35, (svL n X ++ sf).toArray), (gp, 3, (nuL N f ++ sp).toArray)]) := HF.out.no hk
                               clear hk
                               refine ⟨.bool true, by rw [(show knowB (Y i).h (Y i).p ((t : Nat) : Int) = true from HE.out.kn i j hlt hlj ((t : Nat) : Int) q4)], ?_⟩
                               try simp only [pA, pB, p1, p2, p3]
                               refine tK (.bool false) ?_
                               try simp only [pA, pB, p1, p2, p3]
                               refine tK (.bool false) ?_
                               try simp only [pA, pB, p1, p2, p3]
                               refine WL.nil ?_
                               try simp only [pA, pB, p1, p2, p3]
                               go_upto_region 52 with fail
                               refine WL.start ?_
                               refine tK (.int .i64 ((j : Nat) : Int)) ?_
                               try simp only [pA, pB, p1, p2, p3]
                               refine tW (.int .i64 (((j + 1) : Nat) : Int)) (exec_bin .add 3 _ _ _ rfl (.int .i64 ((j : Nat) : Int)) (.int .i64 1) (.int .i64 (((j + 1) : Nat) : Int)) (by kernel_rfl) (by kernel_rfl) (by kernel_rfl) (b_addw _ _ _ (by rw [IntKind.wrap_i64]; omega) _)) ?_
                               try simp only [pA, pB, p1, p2, p3]
                               refine tK (.int .i64 (((j + 1) : Nat) : Int)) ?_
                               try simp only [pA, pB, p1, p2, p3]
                               refine WL.nil ?_
                               try simp only [pA, pB, p1, p2, p3]
                               go_wp2
                               go_roundw
                               case rel => exact ⟨j + 1, by go_num, by omega, HM, HMY, HF⟩
                               case measure => simp [intOf]; omega
                            · skip
                              go_upto_region 51 with fail
                              refine WL.start ?_
                              refine tK (.int .i64 ((j : Nat) : Int)) ?_
                              try simp only [pA, pB, p1, p2, p3]
                              refine tK (.int .i64 ((n : Nat) : Int)) ?_
                              try simp only [pA, pB, p1, p2, p3]
                              refine tW (.bool false) (exec_bin .lss 3 _ _ _ rfl (.int .i64 ((j : Nat) : Int)) (.int .i64 ((n : Nat) : Int)) (.bool false) (by kernel_rfl) (by kernel_rfl) (by kernel_rfl) (by rw [b_lss, decide_eq_false (by omega)])) ?_
                              try simp only [pA, pB, p1, p2, p3]
                              refine WL.nil ?_
                              try simp only [pA, pB, p1, p2, p3]
                              go_upto_region 49 with fail
                              refine WL.start ?_
                              refine tK (.int .i64 ((t : Nat) : Int)) ?_
                              try simp only [pA, pB, p1, p2, p3]
                              refine tW (.int .i64 (((t + 1) : Nat) : Int)) (exec_bin .add 3 _ _ _ rfl (.int .i64 ((t : Nat) : Int)) (.int .i64 1) (.int .i64 (((t + 1) : Nat) : Int)) (by kernel_rfl) (by kernel_rfl) (by kernel_rfl) (b_addw _ _ _ (by rw [IntKind.wrap_i64]; omega) _)) ?_
                              try simp only [pA, pB, p1, p2, p3]
                              refine tK (.int .i64 (((t + 1) : Nat) : Int)) ?_
                              try simp only [pA, pB, p1, p2, p3]
                              refine WL.nil ?_
                              try simp only [pA, pB, p1, p2, p3]
                              go_wp2
                              go_roundw
                              case rel => exact ⟨t + 1, by go_num, by omega, HM, HMY, HF⟩
                              case measure => simp [intOf]; omega
                        · skip
                          go_upto_region 48 with fail
                          refine WL.start ?_
                          refine tK (.int .i64 ((t : Nat) : Int)) ?_
                          try simp only [pA, pB, p1, p2, p3]
                          refine tW (.bool false) (exec_bin .lss 3 _ _ _ rfl (.int .i64 ((t : Nat) : Int)) (.int .i64 440) (.bool false) (by kernel_rfl) (by kernel_rfl) (by kernel_rfl) (by rw [b_lss, decide_eq_false (by omega)])) ?_
                          try simp only [pA, pB, p1, p2, p3]
                          refine WL.nil ?_
                          try simp only [pA, pB, p1, p2, p3]
                          go_upto_region 44 with fail
                          refine WL.start ?_
                          refine tK (.int .i64 ((i : Nat) : Int)) ?_
                          try simp only [pA, pB, p1, p2, p3]
                          refine tW (.int .i64 (((i + 1) : Nat) : Int)) (exec_bin .add 3 _ _ _ rfl (.int .i64 ((i : Nat) : Int)) (.int .i64 1) (.int .i64 (((i + 1) : Nat) : Int)) (by kernel_rfl) (by kernel_rfl) (by kernel_rfl) (b_addw _ _ _ (by rw [IntKind.wrap_i64]; omega) _)) ?_
                          try simp only [pA, pB, p1, p2, p3]
                          refine tK (.int .i64 (((i + 1) : Nat) : Int)) ?_
                          try simp only [pA, pB, p1, p2, p3]
                          refine WL.nil ?_
                          try simp only [pA, pB, p1, p2, p3]
                          go_wp2
                          go_roundw
                          case rel => exact ⟨i + 1, by go_num, by omega, HM, HMY, HF⟩
                          case measure => simp [intOf]; omega
                    · skip
                      go_upto_region 43 with fail
                      refine WL.start ?_
                      refine tK (.int .i64 ((i : Nat) : Int)) ?_
                      try simp only [pA, pB, p1, p2, p3]
                      refine tK (.int .i64 ((n : Nat) : Int)) ?_
                      try simp only [pA, pB, p1, p2, p3]
                      refine tW (.bool false) (exec_bin .lss 3 _ _ _ rfl (.int .i64 ((i : Nat) : Int)) (.int .i64 ((n : Nat) : Int)) (.bool false) (by kernel_rfl) (by kernel_rfl) (by kernel_rfl) (by rw [b_lss, decide_eq_false (by omega)])) ?_
                      try simp only [pA, pB, p1, p2, p3]
                      refine WL.nil ?_
                      try simp only [pA, pB, p1, p2, p3]
                      go_upto_region 55 with fail
                      refine WL.start ?_
                      refine tK (.bool true) ?_
                      try simp only [pA, pB, p1, p2, p3]
                      refine WL.nil ?_
                      try simp only [pA, pB, p1, p2, p3]
                      go_wp2
                      rw [HC.out]
                      exact ⟨rfl, HF.out.kept⟩

end Go.Proofs.Ytcgnbpaaalmkoaa
