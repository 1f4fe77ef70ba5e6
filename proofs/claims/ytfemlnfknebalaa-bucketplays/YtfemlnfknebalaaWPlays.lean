import Derived.Test.YtfemlnfknebalaaWApplies
import Derived.Test.YtfemlnfknebalaaSc
import Derived.Test.YtfemlnfknebalaaUa
namespace Go.Proofs.Ytfemlnfknebalaa
open Go.RowKit
set_option linter.unusedVariables false
set_option linter.unusedSimpArgs false

theorem BkAt.nil (w : World) (u : Int) : BkAt w ⟨u, ⟨none, 0, 0⟩, ⟨none, 0, 0⟩⟩ ⟨u, [], []⟩ := BkAt.own (base := 0) (base' := 0) rfl (OwE.nil w 0) (OwL.nil w 0) (by simp) (by simp)
theorem Fine.nil {u : Int} (h : 0 ≤ u) : Fine 0 ⟨u, [], []⟩ := ⟨h, fun i j x y h => by simp at h, fun i j x y h => by simp at h, by simp, by simp⟩
theorem bkt0 {u : Int} (h : bktB u [] [] = true) : 0 ≤ u := by
  have := (bkt_good h).up0; exact this
theorem Fr.appN {w0 w w' : World} {l : List (Nat × TypeId × Array Value)} {t c cap n : Nat} {a : Option Addr} {vs : List Value} (hf : Fr No w0 w l) (ho : Own t c w w0.heap.size a cap n vs) (hk : Kept (At a) w w') (hne : ∀ x ∈ l, ¬ At a x.1) : Fr No w0 w' l := by
  refine ⟨hf.kept.trans hk (fun _ e => e.elim) (fun i hi e => by have := ho.base e; omega), fun i k T cs hi => ?_, hf.low, hf.inj⟩
  exact (hf.box i k T cs hi).kept hk (hne _ (List.mem_of_getElem? hi))
set_option maxRecDepth 100000 in
set_option maxHeartbeats 4000000 in
theorem playsWalk (u0 room : Int) (ca : Option Addr) (cn cc : Nat) (xs : List Cm) (w : World) (hl : xs.length = cn) (hbig : cn ≤ 140737488351232) (hX : Cs w ca xs) : Calls Try.prog 4 #[.int .i64 u0, .int .i64 room, .slice ca cn cc] w (fun e w' => e = .returned (.bool true) ∧ Kept No w w') := by
  obtain ⟨C, hC⟩ : ∃ C : Ending → World → Prop, C = (fun e w' => e = .returned (.bool true) ∧ Kept No w w') := ⟨_, rfl⟩
  have HC : Hid (C = (fun e w' => e = .returned (.bool true) ∧ Kept No w w')) := hC
  rw [← hC]
  clear hC
  have HL : Hid (xs.length = cn) := hl
  have HX : Hid (Cs w ca xs) := hX
  clear hl hX
  have HF : Hid (Fr No w w []) := Fr.start _ _
  go_enter Try.func4, Try.ntmps4
  go_upto_region 0 with fail
  refine WL.start ?_
  refine tK (.bool false) ?_
  try simp only [pA, pB, p1, p2, p3]
  refine WL.nil ?_
  try simp only [pA, pB, p1, p2, p3]
  go_upto_region 1 with fail
  refine WL.start ?_
  refine tK (.int .i64 u0) ?_
  try simp only [pA, pB, p1, p2, p3]
  refine tW (.agg (Bv.cells ⟨u0, ⟨none, 0, 0⟩, ⟨none, 0, 0⟩⟩)) (exec_build 25 _ rfl (Bv.cells ⟨u0, ⟨none, 0, 0⟩, ⟨none, 0, 0⟩⟩) (by kernel_rfl)) ?_
  try simp only [pA, pB, p1, p2, p3]
  refine wp_runW (.pointer (some ⟨w.heap.size, 0, none⟩)) (w.alloc (.cells (Bv.cells bvZ) 25)) (exec_alloc 25 rfl (Bv.cells bvZ) zero25) (by kernel_rfl) ?_
  try simp only [pA, pB, p1, p2, p3]
  have HF : Hid (Fr No w (w.alloc (.cells (Bv.cells bvZ) 25)) [(w.heap.size, 25, Bv.cells bvZ)]) := HF.out.alloc _ _
  generalize w.alloc (.cells (Bv.cells bvZ) 25) = wk2 at HF ⊢
  generalize w.heap.size = gk1 at HF ⊢
  refine wp_storeW 25 _ _ rfl ⟨gk1, 0, none⟩ (.agg (Bv.cells ⟨u0, ⟨none, 0, 0⟩, ⟨none, 0, 0⟩⟩)) (by kernel_rfl) (by kernel_rfl) (wk2.setRow gk1 (Bv.cells ⟨u0, ⟨none, 0, 0⟩, ⟨none, 0, 0⟩⟩)) (st25 (HF.out.box 0 _ _ _ rfl) rfl) (by kernel_rfl) ?_
  try simp only [pA, pB, p1, p2, p3]
  have HF : Hid (Fr No w (wk2.setRow gk1 (Bv.cells ⟨u0, ⟨none, 0, 0⟩, ⟨none, 0, 0⟩⟩)) [(gk1, 25, Bv.cells ⟨u0, ⟨none, 0, 0⟩, ⟨none, 0, 0⟩⟩)]) := HF.out.set 0 rfl _
  generalize wk2.setRow gk1 (Bv.cells ⟨u0, ⟨none, 0, 0⟩, ⟨none, 0, 0⟩⟩) = wk3 at HF ⊢
  refine WL.nil ?_
  try simp only [pA, pB, p1, p2, p3]
  go_upto_region 2 with fail
  refine WL.start ?_
  refine tW (.agg (Bv.cells ⟨u0, ⟨none, 0, 0⟩, ⟨none, 0, 0⟩⟩)) (exec_load 25 _ rfl ⟨gk1, 0, none⟩ (by kernel_rfl) (.agg (Bv.cells ⟨u0, ⟨none, 0, 0⟩, ⟨none, 0, 0⟩⟩)) (ld25 (HF.out.box 0 _ _ _ rfl))) ?_
  try simp only [pA, pB, p1, p2, p3]
  refine wp_callW 11 #[.agg (Bv.cells ⟨u0, ⟨none, 0, 0⟩, ⟨none, 0, 0⟩⟩)] (by kernel_rfl) _ (bucket_any u0 none 0 0 none 0 0 [] [] _ (OwE.nil _ 0).rd (OwL.nil _ 0).rd (by omega) (by omega)) (by kernel_rfl) ?_
  rintro e wk4 ⟨rfl, hk⟩
  have HF : Hid (Fr No w (wk4) [(gk1, 25, Bv.cells ⟨u0, ⟨none, 0, 0⟩, ⟨none, 0, 0⟩⟩)]) := HF.out.no hk
  clear hk
  refine ⟨.bool (bktB u0 [] []), rfl, ?_⟩
  try simp only [pA, pB, p1, p2, p3]
  refine tK (.bool (!(bktB u0 [] []))) ?_
  try simp only [pA, pB, p1, p2, p3]
  refine WL.nil ?_
  try simp only [pA, pB, p1, p2, p3]
  go_upto_if 19 with fail
  go_cut [] from 15 (fun wc => ∃ u1 : Int, Hid (Fr No w wc [(gk1, 25, Bv.cells ⟨u1, ⟨none, 0, 0⟩, ⟨none, 0, 0⟩⟩)]) ∧ 0 ≤ u1)
  case first =>
   rename_i J0 K0 hJ0 hK0
   cases hq : bktB u0 [] []
   ·skip
    simp only [Bool.not_false]
    go_upto_region 3 with fail
    refine WL.start ?_
    refine tK (.pointer (some ⟨gk1, 0, none⟩)) ?_
    try simp only [pA, pB, p1, p2, p3]
    refine wp_storeW 3 _ _ rfl ⟨gk1, 0, none⟩ (.int .i64 0) (by kernel_rfl) (by kernel_rfl) (wk4.setRow gk1 (Bv.cells ⟨0, ⟨none, 0, 0⟩, ⟨none, 0, 0⟩⟩)) (run_store_at (cur := Bv.cs ⟨u0, ⟨none, 0, 0⟩, ⟨none, 0, 0⟩⟩) (vs := [.int .i64 0]) (HF.out.box 0 _ _ _ rfl) rfl Try.size3 (by exact Nat.le_of_ble_eq_true rfl) (by simp [Value.oneCell'])) (by kernel_rfl) ?_
    try simp only [pA, pB, p1, p2, p3]
    have HF : Hid (Fr No w (wk4.setRow gk1 (Bv.cells ⟨0, ⟨none, 0, 0⟩, ⟨none, 0, 0⟩⟩)) [(gk1, 25, Bv.cells ⟨0, ⟨none, 0, 0⟩, ⟨none, 0, 0⟩⟩)]) := HF.out.set 0 rfl _
    generalize wk4.setRow gk1 (Bv.cells ⟨0, ⟨none, 0, 0⟩, ⟨none, 0, 0⟩⟩) = wk5 at HF ⊢
    refine WL.nil ?_
    try simp only [pA, pB, p1, p2, p3]
    refine hK0 _ _ (Met.intro (hJ0 _ _ ?_))
    (repeat apply Exists.intro)
    refine ⟨?_, rfl⟩
    exact ⟨0, HF, by omega⟩
   ·skip
    simp only [Bool.not_true]
    go_wp2
    go_meet
    case rel => exact ⟨u0, HF, bkt0 hq⟩
  case rest =>
   obtain ⟨u1, HF, hu1⟩ := hcut
   go_wp2
   go_loopw [8, 9, 10] (fun v8 v9 v10 wr => ∃ (k n : Nat) (b : Bk) (sb lb : Sl) (a8 : Option Addr) (c8 : Nat) (a9 : Option Addr) (c9 : Nat) (os ks : List Bv) (hs : List Bk), v8 = .slice a8 n c8 ∧ v9 = .slice a9 n c9 ∧ v10 = .int .i64 ((k : Nat) : Int) ∧ k ≤ cn ∧ k ≤ 400 ∧ n ≤ k ∧ sb.l ≤ sb.k ∧ Hid (Fr No w wr [(gk1, 25, Bv.cells ⟨b.up, sb, lb⟩)]) ∧ Hid (BkAt wr ⟨b.up, sb, lb⟩ b) ∧ Hid (Fine k b) ∧ Hid (Olds wr w.heap.size gk1 a8 n c8 a9 n c9 os ks hs)) (fun _ _ i _ => 400 - (intOf i).toNat)
   case atStart => exact ⟨0, 0, ⟨u1, [], []⟩, ⟨none, 0, 0⟩, ⟨none, 0, 0⟩, none, 0, none, 0, [], [], [], rfl, rfl, by go_num, by omega, by omega, by omega, Nat.le_refl _, HF, BkAt.nil _ _, Fine.nil hu1, Olds.start _ _ _⟩
   case round =>
    clear HF hu1
    obtain ⟨k, n, ⟨bu, bes, bls⟩, ⟨ba, bn, bc⟩, ⟨la, ln, lc⟩, a8, c8, a9, c9, os, ks, hs, rfl, rfl, rfl, hk1, hk2, hn, hle, HF, HB, HFi, HO⟩ := hrel
    have HF : Hid (Fr No w wr [(gk1, 25, Bv.cells ⟨bu, ⟨ba, bn, bc⟩, ⟨la, ln, lc⟩⟩)]) := HF
    have HB : Hid (BkAt wr ⟨bu, ⟨ba, bn, bc⟩, ⟨la, ln, lc⟩⟩ ⟨bu, bes, bls⟩) := HB
    have hle : bn ≤ bc := hle
    have hbu : 0 ≤ bu := HFi.out.up
    have hbn : bn ≤ 400 := by have h1 : bes.length = bn := HB.out.e.len; have h2 : bes.length ≤ k := HFi.out.ne; omega
    have hln : ln ≤ 400 := by have h1 : bls.length = ln := HB.out.l.len; have h2 : bls.length ≤ k := HFi.out.nl; omega
    by_cases hkn : k < cn
    · by_cases hk4 : k < 400
      · skip
        obtain ⟨xb, xo, e0, hcell⟩ := Cs.at HX.out (i := k) (by rw [HL.out]; exact hkn)
        subst e0
        have HCE : Hid (∀ (j : Nat) v, (cAt xs k).cs[j]? = some v → w.cell? ⟨xb, xo + k * 9 + j, none⟩ = some v) := hcell
        clear hcell
        generalize cAt xs k = x at HCE
        have HS8 : Hid (∀ k, At a8 k → k < wr.heap.size) := fun k h => HO.out.o8.lt h
        have HS9 : Hid (∀ k, At a9 k → k < wr.heap.size) := fun k h => HO.out.o9.lt h
        have HLh : Hid (hs.length = n) := HO.out.lh
        have HKr : Hid (Kept No wr wr) := Kept.refl _ _
        go_upto_region 7 with fail
        refine WL.start ?_
        refine tK (.int .i64 ((k : Nat) : Int)) ?_
        try simp only [pA, pB, p1, p2, p3]
        refine tK (.slice (some ⟨xb, xo, none⟩) cn cc) ?_
        try simp only [pA, pB, p1, p2, p3]
        refine tK (.int .i64 ((cn : Nat) : Int)) ?_
        try simp only [pA, pB, p1, p2, p3]
        refine tW (.bool true) (exec_bin .lss 3 _ _ _ rfl (.int .i64 ((k : Nat) : Int)) (.int .i64 ((cn : Nat) : Int)) (.bool true) (by kernel_rfl) (by kernel_rfl) (by kernel_rfl) (by rw [b_lss, decide_eq_true (by omega)])) ?_
        try simp only [pA, pB, p1, p2, p3]
        refine tK (.bool true) ?_
        try simp only [pA, pB, p1, p2, p3]
        refine tK (.int .i64 ((k : Nat) : Int)) ?_
        try simp only [pA, pB, p1, p2, p3]
        refine tW (.bool true) (exec_bin .lss 3 _ _ _ rfl (.int .i64 ((k : Nat) : Int)) (.int .i64 400) (.bool true) (by kernel_rfl) (by kernel_rfl) (by kernel_rfl) (by rw [b_lss, decide_eq_true (by omega)])) ?_
        try simp only [pA, pB, p1, p2, p3]
        refine tK (.bool true) ?_
        try simp only [pA, pB, p1, p2, p3]
        refine WL.nil ?_
        try simp only [pA, pB, p1, p2, p3]
        go_upto_region 9 with fail
        refine WL.start ?_
        refine tK (.slice (some ⟨xb, xo, none⟩) cn cc) ?_
        try simp only [pA, pB, p1, p2, p3]
        refine tK (.int .i64 ((k : Nat) : Int)) ?_
        try simp only [pA, pB, p1, p2, p3]
        refine tW (.pointer (some ⟨xb, xo + k * 9, none⟩)) (exec_ixA 34 9 Try.und34e Try.size34e _ _ rfl xb xo cn cc k (by kernel_rfl) (by kernel_rfl) hkn) ?_
        try simp only [pA, pB, p1, p2, p3]
        refine tW (.agg (Cm.cells x)) (exec_load 29 _ rfl ⟨xb, xo + k * 9, none⟩ (by kernel_rfl) (.agg (Cm.cells x)) (load_Ca (fun j v h => HF.out.kept.cell (HCE.out j v h) (fun e => e)))) ?_
        try simp only [pA, pB, p1, p2, p3]
        refine wp_runW (.pointer (some ⟨wr.heap.size, 0, none⟩)) (wr.alloc (.cells (Cm.cells cZ) 29)) (exec_alloc 29 rfl (Cm.cells cZ) zero29) (by kernel_rfl) ?_
        try simp only [pA, pB, p1, p2, p3]
        have HB_s : Hid (BkAt wr ⟨bu, ⟨ba, bn, bc⟩, ⟨la, ln, lc⟩⟩ ⟨bu, bes, bls⟩) := HB
        have HO_s : Hid (Olds wr w.heap.size gk1 a8 n c8 a9 n c9 os ks hs) := HO
        have HKr_s : Hid (Kept No wr wr) := HKr
        have HKs : Hid (Kept No wr wr) := Kept.refl _ _
        have HG_gk6 : Hid (wr.heap.size ≤ wr.heap.size) := Nat.le_refl _
        have HB : Hid (BkAt (wr.alloc (.cells (Cm.cells cZ) 29)) ⟨bu, ⟨ba, bn, bc⟩, ⟨la, ln, lc⟩⟩ ⟨bu, bes, bls⟩) := HB.out.no ((Kept.refl No _).alloc _)
        have HO : Hid (Olds (wr.alloc (.cells (Cm.cells cZ) 29)) w.heap.size gk1 a8 n c8 a9 n c9 os ks hs) := HO.out.no ((Kept.refl No _).alloc _)
        have HKr : Hid (Kept No wr (wr.alloc (.cells (Cm.cells cZ) 29))) := HKr.out.no ((Kept.refl No _).alloc _)
        have HKs : Hid (Kept No wr (wr.alloc (.cells (Cm.cells cZ) 29))) := HKs.out.no ((Kept.refl No _).alloc _)
        have HF : Hid (Fr No w (wr.alloc (.cells (Cm.cells cZ) 29)) [(gk1, 25, Bv.cells ⟨bu, ⟨ba, bn, bc⟩, ⟨la, ln, lc⟩⟩), (wr.heap.size, 29, Cm.cells cZ)]) := HF.out.alloc _ _
        generalize wr.alloc (.cells (Cm.cells cZ) 29) = wk7 at HF HB HO HKr HKs ⊢
        obtain ⟨gk6, hg⟩ : ∃ g, g = wr.heap.size := ⟨_, rfl⟩
        have HG_gk6 : Hid (wr.heap.size ≤ gk6) := by show _ ≤ _; rw [hg]; exact HG_gk6.out
        rw [← hg] at HF ⊢
        clear hg
        refine wp_storeW 29 _ _ rfl ⟨gk6, 0, none⟩ (.agg (Cm.cells x)) (by kernel_rfl) (by kernel_rfl) (wk7.setRow gk6 (Cm.cells x)) (st29 (HF.out.box 1 _ _ _ rfl) rfl) (by kernel_rfl) ?_
        try simp only [pA, pB, p1, p2, p3]
        have HB : Hid (BkAt (wk7.setRow gk6 (Cm.cells x)) ⟨bu, ⟨ba, bn, bc⟩, ⟨la, ln, lc⟩⟩ ⟨bu, bes, bls⟩) := HB_s.out.no (HKs.out.newRow HG_gk6.out _)
        have HO : Hid (Olds (wk7.setRow gk6 (Cm.cells x)) w.heap.size gk1 a8 n c8 a9 n c9 os ks hs) := HO_s.out.no (HKs.out.newRow HG_gk6.out _)
        have HKr : Hid (Kept No wr (wk7.setRow gk6 (Cm.cells x))) := HKr_s.out.no (HKs.out.newRow HG_gk6.out _)
        have HKs : Hid (Kept No wr (wk7.setRow gk6 (Cm.cells x))) := HKs.out.newRow HG_gk6.out _
        have HF : Hid (Fr No w (wk7.setRow gk6 (Cm.cells x)) [(gk1, 25, Bv.cells ⟨bu, ⟨ba, bn, bc⟩, ⟨la, ln, lc⟩⟩), (gk6, 29, Cm.cells x)]) := HF.out.set 1 rfl _
        generalize wk7.setRow gk6 (Cm.cells x) = wk8 at HF HB HO HKr HKs ⊢
        refine WL.nil ?_
        try simp only [pA, pB, p1, p2, p3]
        have HGE_gk6 : Hid (wr.heap.size ≤ gk6) := Nat.le_trans HKr_s.out.size HG_gk6.out
        clear HKs HB_s HO_s HKr_s HG_gk6
        go_upto_region 10 with fail
        refine WL.start ?_
        refine tW (.agg (Cm.cells x)) (exec_load 29 _ rfl ⟨gk6, 0, none⟩ (by kernel_rfl) (.agg (Cm.cells x)) (ld29 (HF.out.box 1 _ _ _ rfl))) ?_
        try simp only [pA, pB, p1, p2, p3]
        cases q1 : (cmdB x)
        ·skip
         refine wp_callW 12 #[.agg (Cm.cells x)] (by kernel_rfl) _ (command_any x _) (by kernel_rfl) ?_
         rintro e wk9 ⟨rfl, hk⟩
         have HB : Hid (BkAt (wk9) ⟨bu, ⟨ba, bn, bc⟩, ⟨la, ln, lc⟩⟩ ⟨bu, bes, bls⟩) := HB.out.no hk
         have HO : Hid (Olds (wk9) w.heap.size gk1 a8 n c8 a9 n c9 os ks hs) := HO.out.no hk
         have HKr : Hid (Kept No wr (wk9)) := HKr.out.no hk
         have HF : Hid (Fr No w (wk9) [(gk1, 25, Bv.cells ⟨bu, ⟨ba, bn, bc⟩, ⟨la, ln, lc⟩⟩), (gk6, 29, Cm.cells x)]) := HF.out.no hk
         clear hk
         refine ⟨.bool false, by rw [q1], ?_⟩
         try simp only [pA, pB, p1, p2, p3]
         refine tK (.bool true) ?_
         try simp only [pA, pB, p1, p2, p3]
         refine tK (.bool true) ?_
         try simp only [pA, pB, p1, p2, p3]
         refine sK ?_
         try simp only [pA, pB, p1, p2, p3]
         refine sK ?_
         try simp only [pA, pB, p1, p2, p3]
         refine sK ?_
         try simp only [pA, pB, p1, p2, p3]
         refine tK (.bool true) ?_
         try simp only [pA, pB, p1, p2, p3]
         refine WL.nil ?_
         try simp only [pA, pB, p1, p2, p3]
         go_upto_region 11 with fail
         refine WL.start ?_
         refine tW (.agg (Bv.cells ⟨bu, ⟨ba, bn, bc⟩, ⟨la, ln, lc⟩⟩)) (exec_load 25 _ rfl ⟨gk1, 0, none⟩ (by kernel_rfl) (.agg (Bv.cells ⟨bu, ⟨ba, bn, bc⟩, ⟨la, ln, lc⟩⟩)) (ld25 (HF.out.box 0 _ _ _ rfl))) ?_
         try simp only [pA, pB, p1, p2, p3]
         refine tW (.agg (Cm.cells x)) (exec_load 29 _ rfl ⟨gk6, 0, none⟩ (by kernel_rfl) (.agg (Cm.cells x)) (ld29 (HF.out.box 1 _ _ _ rfl))) ?_
         try simp only [pA, pB, p1, p2, p3]
         refine tK (.int .i64 room) ?_
         try simp only [pA, pB, p1, p2, p3]
         refine wp_callW 3 #[.agg (Bv.cells ⟨bu, ⟨ba, bn, bc⟩, ⟨la, ln, lc⟩⟩), .agg (Cm.cells x), .int .i64 room] (by kernel_rfl) _ (appliesWalk bu ba bn bc la ln lc bes bls x room _ HB.out.e HB.out.l hle (by omega) (by omega) (by omega)) (by kernel_rfl) ?_
         rintro e wk10 ⟨rfl, hk⟩
         have HB : Hid (BkAt (wk10) ⟨bu, ⟨ba, bn, bc⟩, ⟨la, ln, lc⟩⟩ ⟨bu, bes, bls⟩) := HB.out.no hk
         have HO : Hid (Olds (wk10) w.heap.size gk1 a8 n c8 a9 n c9 os ks hs) := HO.out.no hk
         have HKr : Hid (Kept No wr (wk10)) := HKr.out.no hk
         have HF : Hid (Fr No w (wk10) [(gk1, 25, Bv.cells ⟨bu, ⟨ba, bn, bc⟩, ⟨la, ln, lc⟩⟩), (gk6, 29, Cm.cells x)]) := HF.out.no hk
         clear hk
         refine ⟨.bool true, rfl, ?_⟩
         try simp only [pA, pB, p1, p2, p3]
         refine tK (.bool false) ?_
         try simp only [pA, pB, p1, p2, p3]
         refine WL.nil ?_
         try simp only [pA, pB, p1, p2, p3]
         have HF : Hid (Fr No w wk10 [(gk1, 25, Bv.cells ⟨bu, ⟨ba, bn, bc⟩, ⟨la, ln, lc⟩⟩)]) := (show Fr No w wk10 ([(gk1, 25, Bv.cells ⟨bu, ⟨ba, bn, bc⟩, ⟨la, ln, lc⟩⟩)] ++ [(gk6, 29, Cm.cells x)]) from HF.out).front
         go_wp2
         go_roundw
         case rel => exact ⟨k + 1, n, ⟨bu, bes, bls⟩, ⟨ba, bn, bc⟩, ⟨la, ln, lc⟩, a8, c8, a9, c9, os, ks, hs, rfl, rfl, by go_num, by omega, by omega, by omega, hle, HF, HB, HFi.out.mono (by omega), HO⟩
         case measure => simp [intOf]; omega
        ·skip
         refine wp_callW 12 #[.agg (Cm.cells x)] (by kernel_rfl) _ (command_any x _) (by kernel_rfl) ?_
         rintro e wk11 ⟨rfl, hk⟩
         have HB : Hid (BkAt (wk11) ⟨bu, ⟨ba, bn, bc⟩, ⟨la, ln, lc⟩⟩ ⟨bu, bes, bls⟩) := HB.out.no hk
         have HO : Hid (Olds (wk11) w.heap.size gk1 a8 n c8 a9 n c9 os ks hs) := HO.out.no hk
         have HKr : Hid (Kept No wr (wk11)) := HKr.out.no hk
         have HF : Hid (Fr No w (wk11) [(gk1, 25, Bv.cells ⟨bu, ⟨ba, bn, bc⟩, ⟨la, ln, lc⟩⟩), (gk6, 29, Cm.cells x)]) := HF.out.no hk
         clear hk
         refine ⟨.bool true, by rw [q1], ?_⟩
         try simp only [pA, pB, p1, p2, p3]
         refine tK (.bool false) ?_
         try simp only [pA, pB, p1, p2, p3]
         refine tK (.bool false) ?_
         try simp only [pA, pB, p1, p2, p3]
         refine tK (.pointer (some ⟨gk1, 0, none⟩)) ?_
         try simp only [pA, pB, p1, p2, p3]
         refine tW (.int .i64 bu) (exec_load 3 _ rfl ⟨gk1, 0, none⟩ (by kernel_rfl) (.int .i64 bu) (ld3 ((HF.out.box 0 _ _ _ rfl).cell 0))) ?_
         try simp only [pA, pB, p1, p2, p3]
         cases q2 : (decide (1048576 ≤ bu))
         ·skip
          refine tW (.bool false) (exec_bin .geq 3 _ _ _ rfl (.int .i64 bu) (.int .i64 1048576) (.bool false) (by kernel_rfl) (by kernel_rfl) (by kernel_rfl) (by rw [b_geq, q2]; try rfl)) ?_
          try simp only [pA, pB, p1, p2, p3]
          refine tK (.bool false) ?_
          try simp only [pA, pB, p1, p2, p3]
          refine WL.nil ?_
          try simp only [pA, pB, p1, p2, p3]
          go_upto_region 13 with fail
          refine WL.start ?_
          refine tW (.agg (Bv.cells ⟨bu, ⟨ba, bn, bc⟩, ⟨la, ln, lc⟩⟩)) (exec_load 25 _ rfl ⟨gk1, 0, none⟩ (by kernel_rfl) (.agg (Bv.cells ⟨bu, ⟨ba, bn, bc⟩, ⟨la, ln, lc⟩⟩)) (ld25 (HF.out.box 0 _ _ _ rfl))) ?_
          try simp only [pA, pB, p1, p2, p3]
          refine tW (.agg (Cm.cells x)) (exec_load 29 _ rfl ⟨gk6, 0, none⟩ (by kernel_rfl) (.agg (Cm.cells x)) (ld29 (HF.out.box 1 _ _ _ rfl))) ?_
          try simp only [pA, pB, p1, p2, p3]
          refine tK (.int .i64 room) ?_
          try simp only [pA, pB, p1, p2, p3]
          refine wp_callW 9 #[.agg (Bv.cells ⟨bu, ⟨ba, bn, bc⟩, ⟨la, ln, lc⟩⟩), .agg (Cm.cells x), .int .i64 room] (by kernel_rfl) _ (applied_yes bu ba bn bc la ln lc bes bls x room _ HB.out.e HB.out.l hle (by omega) (by omega) (by omega) (refS_ok q1 (by have := of_decide_eq_false q2; omega))) (by kernel_rfl) ?_
          rintro e wk12 ⟨⟨u2, ⟨qa, qn, qc⟩, ⟨ra, rn, rc⟩⟩, rfl, hr, hk⟩
          obtain ⟨h1, h2, h3, h4⟩ := hr HFi.out.re HFi.out.rl
          have HFn : Hid (Fine (k + 1) (stepS ⟨bu, bes, bls⟩ x room).1) := HFi.out.step x room
          generalize stepS ⟨bu, bes, bls⟩ x room = R at h1 h2 h3 h4 HFn
          have h1 : u2 = R.1.up := h1
          subst h1
          have HN : Hid (BkAt wk12 ⟨R.1.up, ⟨qa, qn, qc⟩, ⟨ra, rn, rc⟩⟩ R.1) := HB.out.next hk rfl h2 h4 (by have := HFn.out.ne; omega) (by have := HFn.out.nl; omega)
          have hqc : qn ≤ qc := h3
          have hqn : qn ≤ 401 := by have e1 : R.1.es.length = qn := HN.out.e.len; have := HFn.out.ne; omega
          have hrn : rn ≤ 401 := by have e1 : R.1.ls.length = rn := HN.out.l.len; have := HFn.out.nl; omega
          have HB : Hid (BkAt (wk12) ⟨bu, ⟨ba, bn, bc⟩, ⟨la, ln, lc⟩⟩ ⟨bu, bes, bls⟩) := HB.out.no hk
          have HO : Hid (Olds (wk12) w.heap.size gk1 a8 n c8 a9 n c9 os ks hs) := HO.out.no hk
          have HKr : Hid (Kept No wr (wk12)) := HKr.out.no hk
          have HF : Hid (Fr No w (wk12) [(gk1, 25, Bv.cells ⟨bu, ⟨ba, bn, bc⟩, ⟨la, ln, lc⟩⟩), (gk6, 29, Cm.cells x)]) := HF.out.no hk
          clear hr h2 h3 h4 hk
          refine ⟨.tuple #[.agg (Bv.cells ⟨R.1.up, ⟨qa, qn, qc⟩, ⟨ra, rn, rc⟩⟩), .bool true], rfl, ?_⟩
          try simp only [pA, pB, p1, p2, p3]
          refine tK (.tuple #[.agg (Bv.cells ⟨R.1.up, ⟨qa, qn, qc⟩, ⟨ra, rn, rc⟩⟩), .bool true]) ?_
          try simp only [pA, pB, p1, p2, p3]
          refine tK (.agg (Bv.cells ⟨R.1.up, ⟨qa, qn, qc⟩, ⟨ra, rn, rc⟩⟩)) ?_
          try simp only [pA, pB, p1, p2, p3]
          refine tK (.bool true) ?_
          try simp only [pA, pB, p1, p2, p3]
          refine wp_runW (.pointer (some ⟨wk12.heap.size, 0, none⟩)) (wk12.alloc (.cells (Bv.cells bvZ) 25)) (exec_alloc 25 rfl (Bv.cells bvZ) zero25) (by kernel_rfl) ?_
          try simp only [pA, pB, p1, p2, p3]
          have HB_s : Hid (BkAt wk12 ⟨bu, ⟨ba, bn, bc⟩, ⟨la, ln, lc⟩⟩ ⟨bu, bes, bls⟩) := HB
          have HO_s : Hid (Olds wk12 w.heap.size gk1 a8 n c8 a9 n c9 os ks hs) := HO
          have HKr_s : Hid (Kept No wr wk12) := HKr
          have HN_s : Hid (BkAt wk12 ⟨R.1.up, ⟨qa, qn, qc⟩, ⟨ra, rn, rc⟩⟩ R.1) := HN
          have HKs : Hid (Kept No wk12 wk12) := Kept.refl _ _
          have HG_gk13 : Hid (wk12.heap.size ≤ wk12.heap.size) := Nat.le_refl _
          have HB : Hid (BkAt (wk12.alloc (.cells (Bv.cells bvZ) 25)) ⟨bu, ⟨ba, bn, bc⟩, ⟨la, ln, lc⟩⟩ ⟨bu, bes, bls⟩) := HB.out.no ((Kept.refl No _).alloc _)
          have HO : Hid (Olds (wk12.alloc (.cells (Bv.cells bvZ) 25)) w.heap.size gk1 a8 n c8 a9 n c9 os ks hs) := HO.out.no ((Kept.refl No _).alloc _)
          have HKr : Hid (Kept No wr (wk12.alloc (.cells (Bv.cells bvZ) 25))) := HKr.out.no ((Kept.refl No _).alloc _)
          have HN : Hid (BkAt (wk12.alloc (.cells (Bv.cells bvZ) 25)) ⟨R.1.up, ⟨qa, qn, qc⟩, ⟨ra, rn, rc⟩⟩ R.1) := HN.out.no ((Kept.refl No _).alloc _)
          have HKs : Hid (Kept No wk12 (wk12.alloc (.cells (Bv.cells bvZ) 25))) := HKs.out.no ((Kept.refl No _).alloc _)
          have HF : Hid (Fr No w (wk12.alloc (.cells (Bv.cells bvZ) 25)) [(gk1, 25, Bv.cells ⟨bu, ⟨ba, bn, bc⟩, ⟨la, ln, lc⟩⟩), (gk6, 29, Cm.cells x), (wk12.heap.size, 25, Bv.cells bvZ)]) := HF.out.alloc _ _
          generalize wk12.alloc (.cells (Bv.cells bvZ) 25) = wk14 at HF HB HO HKr HN HKs ⊢
          obtain ⟨gk13, hg⟩ : ∃ g, g = wk12.heap.size := ⟨_, rfl⟩
          have HG_gk13 : Hid (wk12.heap.size ≤ gk13) := by show _ ≤ _; rw [hg]; exact HG_gk13.out
          rw [← hg] at HF ⊢
          clear hg
          refine wp_storeW 25 _ _ rfl ⟨gk13, 0, none⟩ (.agg (Bv.cells ⟨R.1.up, ⟨qa, qn, qc⟩, ⟨ra, rn, rc⟩⟩)) (by kernel_rfl) (by kernel_rfl) (wk14.setRow gk13 (Bv.cells ⟨R.1.up, ⟨qa, qn, qc⟩, ⟨ra, rn, rc⟩⟩)) (st25 (HF.out.box 2 _ _ _ rfl) rfl) (by kernel_rfl) ?_
          try simp only [pA, pB, p1, p2, p3]
          have HB : Hid (BkAt (wk14.setRow gk13 (Bv.cells ⟨R.1.up, ⟨qa, qn, qc⟩, ⟨ra, rn, rc⟩⟩)) ⟨bu, ⟨ba, bn, bc⟩, ⟨la, ln, lc⟩⟩ ⟨bu, bes, bls⟩) := HB_s.out.no (HKs.out.newRow HG_gk13.out _)
          have HO : Hid (Olds (wk14.setRow gk13 (Bv.cells ⟨R.1.up, ⟨qa, qn, qc⟩, ⟨ra, rn, rc⟩⟩)) w.heap.size gk1 a8 n c8 a9 n c9 os ks hs) := HO_s.out.no (HKs.out.newRow HG_gk13.out _)
          have HKr : Hid (Kept No wr (wk14.setRow gk13 (Bv.cells ⟨R.1.up, ⟨qa, qn, qc⟩, ⟨ra, rn, rc⟩⟩))) := HKr_s.out.no (HKs.out.newRow HG_gk13.out _)
          have HN : Hid (BkAt (wk14.setRow gk13 (Bv.cells ⟨R.1.up, ⟨qa, qn, qc⟩, ⟨ra, rn, rc⟩⟩)) ⟨R.1.up, ⟨qa, qn, qc⟩, ⟨ra, rn, rc⟩⟩ R.1) := HN_s.out.no (HKs.out.newRow HG_gk13.out _)
          have HKs : Hid (Kept No wk12 (wk14.setRow gk13 (Bv.cells ⟨R.1.up, ⟨qa, qn, qc⟩, ⟨ra, rn, rc⟩⟩))) := HKs.out.newRow HG_gk13.out _
          have HF : Hid (Fr No w (wk14.setRow gk13 (Bv.cells ⟨R.1.up, ⟨qa, qn, qc⟩, ⟨ra, rn, rc⟩⟩)) [(gk1, 25, Bv.cells ⟨bu, ⟨ba, bn, bc⟩, ⟨la, ln, lc⟩⟩), (gk6, 29, Cm.cells x), (gk13, 25, Bv.cells ⟨R.1.up, ⟨qa, qn, qc⟩, ⟨ra, rn, rc⟩⟩)]) := HF.out.set 2 rfl _
          generalize wk14.setRow gk13 (Bv.cells ⟨R.1.up, ⟨qa, qn, qc⟩, ⟨ra, rn, rc⟩⟩) = wk15 at HF HB HO HKr HN HKs ⊢
          refine tK (.bool true) ?_
          try simp only [pA, pB, p1, p2, p3]
          refine WL.nil ?_
          try simp only [pA, pB, p1, p2, p3]
          have HGE_gk13 : Hid (wr.heap.size ≤ gk13) := Nat.le_trans HKr_s.out.size HG_gk13.out
          clear HKs HB_s HO_s HKr_s HN_s HG_gk13
          go_upto_region 14 with fail
          refine WL.start ?_
          refine tK (.bool true) ?_
          try simp only [pA, pB, p1, p2, p3]
          refine tK (.bool false) ?_
          try simp only [pA, pB, p1, p2, p3]
          refine tK (.bool false) ?_
          try simp only [pA, pB, p1, p2, p3]
          refine tW (.agg (Bv.cells ⟨R.1.up, ⟨qa, qn, qc⟩, ⟨ra, rn, rc⟩⟩)) (exec_load 25 _ rfl ⟨gk13, 0, none⟩ (by kernel_rfl) (.agg (Bv.cells ⟨R.1.up, ⟨qa, qn, qc⟩, ⟨ra, rn, rc⟩⟩)) (ld25 (HF.out.box 2 _ _ _ rfl))) ?_
          try simp only [pA, pB, p1, p2, p3]
          refine tK (.pointer (some ⟨gk6, 3, none⟩)) ?_
          try simp only [pA, pB, p1, p2, p3]
          refine tW (.string x.nm) (exec_load 9 _ rfl ⟨gk6, 3, none⟩ (by kernel_rfl) (.string x.nm) (ld9 ((HF.out.box 1 _ _ _ rfl).cell 3))) ?_
          try simp only [pA, pB, p1, p2, p3]
          refine tK (.pointer (some ⟨gk6, 1, none⟩)) ?_
          try simp only [pA, pB, p1, p2, p3]
          refine tW (.int .i64 x.cl) (exec_load 3 _ rfl ⟨gk6, 1, none⟩ (by kernel_rfl) (.int .i64 x.cl) (ld3 ((HF.out.box 1 _ _ _ rfl).cell 1))) ?_
          try simp only [pA, pB, p1, p2, p3]
          refine wp_callW 13 #[.agg (Bv.cells ⟨R.1.up, ⟨qa, qn, qc⟩, ⟨ra, rn, rc⟩⟩), .string x.nm, .int .i64 x.cl] (by kernel_rfl) _ (asked_rise R.1.up qa qn qc ra rn rc R.1.es R.1.ls x.nm x.cl _ HN.out.e HN.out.l HFn.out.re HFn.out.rl (by omega) (by omega)) (by kernel_rfl) ?_
          rintro e wk16 ⟨rfl, hk⟩
          have HB : Hid (BkAt (wk16) ⟨bu, ⟨ba, bn, bc⟩, ⟨la, ln, lc⟩⟩ ⟨bu, bes, bls⟩) := HB.out.no hk
          have HO : Hid (Olds (wk16) w.heap.size gk1 a8 n c8 a9 n c9 os ks hs) := HO.out.no hk
          have HKr : Hid (Kept No wr (wk16)) := HKr.out.no hk
          have HN : Hid (BkAt (wk16) ⟨R.1.up, ⟨qa, qn, qc⟩, ⟨ra, rn, rc⟩⟩ R.1) := HN.out.no hk
          have HF : Hid (Fr No w (wk16) [(gk1, 25, Bv.cells ⟨bu, ⟨ba, bn, bc⟩, ⟨la, ln, lc⟩⟩), (gk6, 29, Cm.cells x), (gk13, 25, Bv.cells ⟨R.1.up, ⟨qa, qn, qc⟩, ⟨ra, rn, rc⟩⟩)]) := HF.out.no hk
          clear hk
          refine ⟨.bool true, rfl, ?_⟩
          try simp only [pA, pB, p1, p2, p3]
          refine tK (.bool false) ?_
          try simp only [pA, pB, p1, p2, p3]
          refine tK (.bool false) ?_
          try simp only [pA, pB, p1, p2, p3]
          refine WL.nil ?_
          try simp only [pA, pB, p1, p2, p3]
          clear HKr
          go_upto_region 16 with fail
          refine WL.start ?_
          refine tK (.slice a8 n c8) ?_
          try simp only [pA, pB, p1, p2, p3]
          refine tW (.agg (Bv.cells ⟨bu, ⟨ba, bn, bc⟩, ⟨la, ln, lc⟩⟩)) (exec_load 25 _ rfl ⟨gk1, 0, none⟩ (by kernel_rfl) (.agg (Bv.cells ⟨bu, ⟨ba, bn, bc⟩, ⟨la, ln, lc⟩⟩)) (ld25 (HF.out.box 0 _ _ _ rfl))) ?_
          try simp only [pA, pB, p1, p2, p3]
          obtain ⟨o8a, o8c, wk17, hrun, hO, hk, hA⟩ := app1B (w := wk16) (base := w.heap.size) HF.out.kept.size HO.out.o8 HO.out.l8 ⟨bu, ⟨ba, bn, bc⟩, ⟨la, ln, lc⟩⟩ (by omega)
          refine wp_runW (.slice (some ⟨wk16.heap.size, 0, none⟩) 1 1) (wk16.alloc (.cells (Bv.cells ⟨bu, ⟨ba, bn, bc⟩, ⟨la, ln, lc⟩⟩) 25)) (exec_slice2 36 25 _ rfl (Bv.cells ⟨bu, ⟨ba, bn, bc⟩, ⟨la, ln, lc⟩⟩) (.agg (Bv.cells ⟨bu, ⟨ba, bn, bc⟩, ⟨la, ln, lc⟩⟩)) (by kernel_rfl) (slice1_bv ⟨bu, ⟨ba, bn, bc⟩, ⟨la, ln, lc⟩⟩ _)) (by kernel_rfl) ?_
          try simp only [pA, pB, p1, p2, p3]
          refine wp_runW (.slice o8a (n + 1) o8c) wk17 (exec_appN _ _ 36 36 rfl _ _ (by kernel_rfl) (by kernel_rfl) hrun) (by kernel_rfl) ?_
          try simp only [pA, pB, p1, p2, p3]
          have hBl : gk1 < wk16.heap.size := (HF.out.box 0 _ _ _ rfl).lt
          have hTy := own_ty HO.out.o8
          have HF : Hid (Fr No w wk17 [(gk1, 25, Bv.cells ⟨bu, ⟨ba, bn, bc⟩, ⟨la, ln, lc⟩⟩), (gk6, 29, Cm.cells x), (gk13, 25, Bv.cells ⟨R.1.up, ⟨qa, qn, qc⟩, ⟨ra, rn, rc⟩⟩)]) := HF.out.appN HO.out.o8 hk (by
            simp only [List.mem_cons, List.not_mem_nil, or_false, forall_eq_or_imp, forall_eq]
            exact ⟨fun e => (HO.out.ap _ e).1 rfl, fun e => by have := HS8.out _ e; have := HGE_gk6.out; omega, fun e => by have := HS8.out _ e; have := HGE_gk13.out; omega⟩)
          have HO : Hid (Olds wk17 w.heap.size gk1 o8a (n + 1) o8c a9 n c9 (os ++ [⟨bu, ⟨ba, bn, bc⟩, ⟨la, ln, lc⟩⟩]) ks (hs ++ [⟨bu, bes, bls⟩])) := HO.out.push8 HB.out hO hk hA hBl
          have HB : Hid (BkAt wk17 ⟨bu, ⟨ba, bn, bc⟩, ⟨la, ln, lc⟩⟩ ⟨bu, bes, bls⟩) := HB.out.kept hk hTy
          have HN : Hid (BkAt wk17 ⟨R.1.up, ⟨qa, qn, qc⟩, ⟨ra, rn, rc⟩⟩ R.1) := HN.out.kept hk hTy
          clear hrun hO hk hA hBl hTy
          refine tK (.slice o8a (n + 1) o8c) ?_
          try simp only [pA, pB, p1, p2, p3]
          refine WL.nil ?_
          try simp only [pA, pB, p1, p2, p3]
          go_upto_region 17 with fail
          refine WL.start ?_
          refine tK (.slice a9 n c9) ?_
          try simp only [pA, pB, p1, p2, p3]
          refine tW (.agg (Bv.cells ⟨bu, ⟨ba, bn, bc⟩, ⟨la, ln, lc⟩⟩)) (exec_load 25 _ rfl ⟨gk1, 0, none⟩ (by kernel_rfl) (.agg (Bv.cells ⟨bu, ⟨ba, bn, bc⟩, ⟨la, ln, lc⟩⟩)) (ld25 (HF.out.box 0 _ _ _ rfl))) ?_
          try simp only [pA, pB, p1, p2, p3]
          refine wp_callW 14 #[.agg (Bv.cells ⟨bu, ⟨ba, bn, bc⟩, ⟨la, ln, lc⟩⟩)] (by kernel_rfl) _ (twin_any bu ba bn bc la ln lc bes bls _ (by omega) (by omega) HB.out.e HB.out.l) (by kernel_rfl) ?_
          rintro e wk18 ⟨⟨ea, en, ec⟩, ⟨fa, fm, fc⟩, rfl, hT1, hT2, hk⟩
          have HB : Hid (BkAt (wk18) ⟨bu, ⟨ba, bn, bc⟩, ⟨la, ln, lc⟩⟩ ⟨bu, bes, bls⟩) := HB.out.no hk
          have HN : Hid (BkAt (wk18) ⟨R.1.up, ⟨qa, qn, qc⟩, ⟨ra, rn, rc⟩⟩ R.1) := HN.out.no hk
          have HO : Hid (Olds (wk18) w.heap.size gk1 o8a (n + 1) o8c a9 n c9 (os ++ [⟨bu, ⟨ba, bn, bc⟩, ⟨la, ln, lc⟩⟩]) ks (hs ++ [⟨bu, bes, bls⟩])) := HO.out.no hk
          have HF : Hid (Fr No w (wk18) [(gk1, 25, Bv.cells ⟨bu, ⟨ba, bn, bc⟩, ⟨la, ln, lc⟩⟩), (gk6, 29, Cm.cells x), (gk13, 25, Bv.cells ⟨R.1.up, ⟨qa, qn, qc⟩, ⟨ra, rn, rc⟩⟩)]) := HF.out.no hk
          have HT : Hid (BkAt wk18 ⟨bu, ⟨ea, en, ec⟩, ⟨fa, fm, fc⟩⟩ ⟨bu, bes, bls⟩) := BkAt.own rfl hT1 hT2 HB.out.ne HB.out.nl
          clear hT1 hT2
          clear hk
          refine ⟨.agg (Bv.cells ⟨bu, ⟨ea, en, ec⟩, ⟨fa, fm, fc⟩⟩), rfl, ?_⟩
          try simp only [pA, pB, p1, p2, p3]
          obtain ⟨o9a, o9c, wk19, hrun, hO, hk, hA⟩ := app1B (w := wk18) (base := w.heap.size) HF.out.kept.size HO.out.o9 HO.out.l9 ⟨bu, ⟨ea, en, ec⟩, ⟨fa, fm, fc⟩⟩ (by omega)
          refine wp_runW (.slice (some ⟨wk18.heap.size, 0, none⟩) 1 1) (wk18.alloc (.cells (Bv.cells ⟨bu, ⟨ea, en, ec⟩, ⟨fa, fm, fc⟩⟩) 25)) (exec_slice2 36 25 _ rfl (Bv.cells ⟨bu, ⟨ea, en, ec⟩, ⟨fa, fm, fc⟩⟩) (.agg (Bv.cells ⟨bu, ⟨ea, en, ec⟩, ⟨fa, fm, fc⟩⟩)) (by kernel_rfl) (slice1_bv ⟨bu, ⟨ea, en, ec⟩, ⟨fa, fm, fc⟩⟩ _)) (by kernel_rfl) ?_
          try simp only [pA, pB, p1, p2, p3]
          refine wp_runW (.slice o9a (n + 1) o9c) wk19 (exec_appN _ _ 36 36 rfl _ _ (by kernel_rfl) (by kernel_rfl) hrun) (by kernel_rfl) ?_
          try simp only [pA, pB, p1, p2, p3]
          have hBl : gk1 < wk18.heap.size := (HF.out.box 0 _ _ _ rfl).lt
          have hTy := own_ty HO.out.o9
          have HF : Hid (Fr No w wk19 [(gk1, 25, Bv.cells ⟨bu, ⟨ba, bn, bc⟩, ⟨la, ln, lc⟩⟩), (gk6, 29, Cm.cells x), (gk13, 25, Bv.cells ⟨R.1.up, ⟨qa, qn, qc⟩, ⟨ra, rn, rc⟩⟩)]) := HF.out.appN HO.out.o9 hk (by
            simp only [List.mem_cons, List.not_mem_nil, or_false, forall_eq_or_imp, forall_eq]
            exact ⟨fun e => HO.out.aq _ e rfl, fun e => by have := HS9.out _ e; have := HGE_gk6.out; omega, fun e => by have := HS9.out _ e; have := HGE_gk13.out; omega⟩)
          have HO : Hid (Olds wk19 w.heap.size gk1 o8a (n + 1) o8c o9a (n + 1) o9c (os ++ [⟨bu, ⟨ba, bn, bc⟩, ⟨la, ln, lc⟩⟩]) (ks ++ [⟨bu, ⟨ea, en, ec⟩, ⟨fa, fm, fc⟩⟩]) (hs ++ [⟨bu, bes, bls⟩])) := HO.out.push9 HT.out (by rw [List.getElem?_append_right (Nat.le_of_eq HLh.out), HLh.out, Nat.sub_self]; rfl) hO hk hA hBl
          have HB : Hid (BkAt wk19 ⟨bu, ⟨ba, bn, bc⟩, ⟨la, ln, lc⟩⟩ ⟨bu, bes, bls⟩) := HB.out.kept hk hTy
          have HN : Hid (BkAt wk19 ⟨R.1.up, ⟨qa, qn, qc⟩, ⟨ra, rn, rc⟩⟩ R.1) := HN.out.kept hk hTy
          clear hrun hO hk hA hBl hTy
          refine tK (.slice o9a (n + 1) o9c) ?_
          try simp only [pA, pB, p1, p2, p3]
          refine WL.nil ?_
          try simp only [pA, pB, p1, p2, p3]
          go_upto_region 18 with fail
          refine WL.start ?_
          refine tW (.agg (Bv.cells ⟨R.1.up, ⟨qa, qn, qc⟩, ⟨ra, rn, rc⟩⟩)) (exec_load 25 _ rfl ⟨gk13, 0, none⟩ (by kernel_rfl) (.agg (Bv.cells ⟨R.1.up, ⟨qa, qn, qc⟩, ⟨ra, rn, rc⟩⟩)) (ld25 (HF.out.box 2 _ _ _ rfl))) ?_
          try simp only [pA, pB, p1, p2, p3]
          refine wp_storeW 25 _ _ rfl ⟨gk1, 0, none⟩ (.agg (Bv.cells ⟨R.1.up, ⟨qa, qn, qc⟩, ⟨ra, rn, rc⟩⟩)) (by kernel_rfl) (by kernel_rfl) (wk19.setRow gk1 (Bv.cells ⟨R.1.up, ⟨qa, qn, qc⟩, ⟨ra, rn, rc⟩⟩)) (st25 (HF.out.box 0 _ _ _ rfl) rfl) (by kernel_rfl) ?_
          try simp only [pA, pB, p1, p2, p3]
          have HB : Hid (BkAt (wk19.setRow gk1 (Bv.cells ⟨R.1.up, ⟨qa, qn, qc⟩, ⟨ra, rn, rc⟩⟩)) ⟨bu, ⟨ba, bn, bc⟩, ⟨la, ln, lc⟩⟩ ⟨bu, bes, bls⟩) := HB.out.row (HF.out.box 0 _ _ _ rfl) (by decide) (by decide) _
          have HN : Hid (BkAt (wk19.setRow gk1 (Bv.cells ⟨R.1.up, ⟨qa, qn, qc⟩, ⟨ra, rn, rc⟩⟩)) ⟨R.1.up, ⟨qa, qn, qc⟩, ⟨ra, rn, rc⟩⟩ R.1) := HN.out.row (HF.out.box 0 _ _ _ rfl) (by decide) (by decide) _
          have HO : Hid (Olds (wk19.setRow gk1 (Bv.cells ⟨R.1.up, ⟨qa, qn, qc⟩, ⟨ra, rn, rc⟩⟩)) w.heap.size gk1 o8a (n + 1) o8c o9a (n + 1) o9c (os ++ [⟨bu, ⟨ba, bn, bc⟩, ⟨la, ln, lc⟩⟩]) (ks ++ [⟨bu, ⟨ea, en, ec⟩, ⟨fa, fm, fc⟩⟩]) (hs ++ [⟨bu, bes, bls⟩])) := HO.out.row (HF.out.box 0 _ _ _ rfl) _
          have HF : Hid (Fr No w (wk19.setRow gk1 (Bv.cells ⟨R.1.up, ⟨qa, qn, qc⟩, ⟨ra, rn, rc⟩⟩)) [(gk1, 25, Bv.cells ⟨R.1.up, ⟨qa, qn, qc⟩, ⟨ra, rn, rc⟩⟩), (gk6, 29, Cm.cells x), (gk13, 25, Bv.cells ⟨R.1.up, ⟨qa, qn, qc⟩, ⟨ra, rn, rc⟩⟩)]) := HF.out.set 0 rfl _
          generalize wk19.setRow gk1 (Bv.cells ⟨R.1.up, ⟨qa, qn, qc⟩, ⟨ra, rn, rc⟩⟩) = wk20 at HF HB HN HO ⊢
          refine WL.nil ?_
          try simp only [pA, pB, p1, p2, p3]
          have HF : Hid (Fr No w wk20 [(gk1, 25, Bv.cells ⟨R.1.up, ⟨qa, qn, qc⟩, ⟨ra, rn, rc⟩⟩)]) := (show Fr No w wk20 ([(gk1, 25, Bv.cells ⟨R.1.up, ⟨qa, qn, qc⟩, ⟨ra, rn, rc⟩⟩)] ++ [(gk6, 29, Cm.cells x), (gk13, 25, Bv.cells ⟨R.1.up, ⟨qa, qn, qc⟩, ⟨ra, rn, rc⟩⟩)]) from HF.out).front
          go_wp2
          go_roundw
          case rel => exact ⟨k + 1, n + 1, R.1, ⟨qa, qn, qc⟩, ⟨ra, rn, rc⟩, o8a, o8c, o9a, o9c, _, _, _, rfl, rfl, by go_num, by omega, by omega, by omega, hqc, HF, HN, HFn, HO⟩
          case measure => simp [intOf]; omega
         ·skip
          refine tW (.bool true) (exec_bin .geq 3 _ _ _ rfl (.int .i64 bu) (.int .i64 1048576) (.bool true) (by kernel_rfl) (by kernel_rfl) (by kernel_rfl) (by rw [b_geq, q2]; try rfl)) ?_
          try simp only [pA, pB, p1, p2, p3]
          refine tK (.bool true) ?_
          try simp only [pA, pB, p1, p2, p3]
          refine WL.nil ?_
          try simp only [pA, pB, p1, p2, p3]
          go_upto_region 11 with fail
          refine WL.start ?_
          refine tW (.agg (Bv.cells ⟨bu, ⟨ba, bn, bc⟩, ⟨la, ln, lc⟩⟩)) (exec_load 25 _ rfl ⟨gk1, 0, none⟩ (by kernel_rfl) (.agg (Bv.cells ⟨bu, ⟨ba, bn, bc⟩, ⟨la, ln, lc⟩⟩)) (ld25 (HF.out.box 0 _ _ _ rfl))) ?_
          try simp only [pA, pB, p1, p2, p3]
          refine tW (.agg (Cm.cells x)) (exec_load 29 _ rfl ⟨gk6, 0, none⟩ (by kernel_rfl) (.agg (Cm.cells x)) (ld29 (HF.out.box 1 _ _ _ rfl))) ?_
          try simp only [pA, pB, p1, p2, p3]
          refine tK (.int .i64 room) ?_
          try simp only [pA, pB, p1, p2, p3]
          refine wp_callW 3 #[.agg (Bv.cells ⟨bu, ⟨ba, bn, bc⟩, ⟨la, ln, lc⟩⟩), .agg (Cm.cells x), .int .i64 room] (by kernel_rfl) _ (appliesWalk bu ba bn bc la ln lc bes bls x room _ HB.out.e HB.out.l hle (by omega) (by omega) (by omega)) (by kernel_rfl) ?_
          rintro e wk21 ⟨rfl, hk⟩
          have HB : Hid (BkAt (wk21) ⟨bu, ⟨ba, bn, bc⟩, ⟨la, ln, lc⟩⟩ ⟨bu, bes, bls⟩) := HB.out.no hk
          have HO : Hid (Olds (wk21) w.heap.size gk1 a8 n c8 a9 n c9 os ks hs) := HO.out.no hk
          have HKr : Hid (Kept No wr (wk21)) := HKr.out.no hk
          have HF : Hid (Fr No w (wk21) [(gk1, 25, Bv.cells ⟨bu, ⟨ba, bn, bc⟩, ⟨la, ln, lc⟩⟩), (gk6, 29, Cm.cells x)]) := HF.out.no hk
          clear hk
          refine ⟨.bool true, rfl, ?_⟩
          try simp only [pA, pB, p1, p2, p3]
          refine tK (.bool false) ?_
          try simp only [pA, pB, p1, p2, p3]
          refine WL.nil ?_
          try simp only [pA, pB, p1, p2, p3]
          have HF : Hid (Fr No w wk21 [(gk1, 25, Bv.cells ⟨bu, ⟨ba, bn, bc⟩, ⟨la, ln, lc⟩⟩)]) := (show Fr No w wk21 ([(gk1, 25, Bv.cells ⟨bu, ⟨ba, bn, bc⟩, ⟨la, ln, lc⟩⟩)] ++ [(gk6, 29, Cm.cells x)]) from HF.out).front
          go_wp2
          go_roundw
          case rel => exact ⟨k + 1, n, ⟨bu, bes, bls⟩, ⟨ba, bn, bc⟩, ⟨la, ln, lc⟩, a8, c8, a9, c9, os, ks, hs, rfl, rfl, by go_num, by omega, by omega, by omega, hle, HF, HB, HFi.out.mono (by omega), HO⟩
          case measure => simp [intOf]; omega
      · skip
        go_upto_region 7 with fail
        refine WL.start ?_
        refine tK (.int .i64 ((k : Nat) : Int)) ?_
        try simp only [pA, pB, p1, p2, p3]
        refine tK (.slice ca cn cc) ?_
        try simp only [pA, pB, p1, p2, p3]
        refine tK (.int .i64 ((cn : Nat) : Int)) ?_
        try simp only [pA, pB, p1, p2, p3]
        refine tW (.bool true) (exec_bin .lss 3 _ _ _ rfl (.int .i64 ((k : Nat) : Int)) (.int .i64 ((cn : Nat) : Int)) (.bool true) (by kernel_rfl) (by kernel_rfl) (by kernel_rfl) (by rw [b_lss, decide_eq_true (by omega)])) ?_
        try simp only [pA, pB, p1, p2, p3]
        refine tK (.bool true) ?_
        try simp only [pA, pB, p1, p2, p3]
        refine tK (.int .i64 ((k : Nat) : Int)) ?_
        try simp only [pA, pB, p1, p2, p3]
        refine tW (.bool false) (exec_bin .lss 3 _ _ _ rfl (.int .i64 ((k : Nat) : Int)) (.int .i64 400) (.bool false) (by kernel_rfl) (by kernel_rfl) (by kernel_rfl) (by rw [b_lss, decide_eq_false (by omega)])) ?_
        try simp only [pA, pB, p1, p2, p3]
        refine tK (.bool false) ?_
        try simp only [pA, pB, p1, p2, p3]
        refine WL.nil ?_
        try simp only [pA, pB, p1, p2, p3]
        have HK0 : Hid (Kept No w wr) := HF.out.kept
        clear HF HB HFi
        generalize wr = w1 at HK0 HO ⊢
        go_wp2
        go_loopw [14] (fun v14 wr => ∃ i : Nat, v14 = .int .i64 ((i : Nat) : Int) ∧ i ≤ n ∧ Hid (Fr No w1 wr [])) (fun i _ => n - (intOf i).toNat)
        case atStart => exact ⟨0, by go_num, by omega, Fr.start _ _⟩
        case round =>
          obtain ⟨i, rfl, hi, HF⟩ := hrel
          by_cases hin : i < n
          · skip
            obtain ⟨⟨vu, ⟨va, vn, vc⟩, ⟨ta, tn, tc⟩⟩, hv⟩ : ∃ v, os[i]? = some v := ⟨_, List.getElem?_eq_getElem (by rw [HO.out.l8]; exact hin)⟩
            obtain ⟨⟨yu, ⟨ya, yn, yc⟩, ⟨za, zn, zc⟩⟩, hy⟩ : ∃ v, ks[i]? = some v := ⟨_, List.getElem?_eq_getElem (by rw [HO.out.l9]; exact hin)⟩
            obtain ⟨hb, e1, h8⟩ := HO.out.b8 i _ hv
            obtain ⟨hb', e2, h9⟩ := HO.out.b9 i _ hy
            obtain rfl : hb = hb' := by rw [e1] at e2; exact Option.some.inj e2
            obtain ⟨pb, po, p0, p1⟩ := Own.rows HO.out.o8 (bvL_c os) (by omega) i _ (by rw [List.getElem?_map, hv]; rfl)
            obtain ⟨sb, so, s0, s1⟩ := Own.rows HO.out.o9 (bvL_c ks) (by omega) i _ (by rw [List.getElem?_map, hy]; rfl)
            subst p0 s0
            have H8 : Hid (BkAt w1 ⟨vu, ⟨va, vn, vc⟩, ⟨ta, tn, tc⟩⟩ hb) := h8
            have H9 : Hid (BkAt w1 ⟨yu, ⟨ya, yn, yc⟩, ⟨za, zn, zc⟩⟩ hb) := h9
            have HC8 : Hid (∀ (j : Nat) v, (Bv.cs ⟨vu, ⟨va, vn, vc⟩, ⟨ta, tn, tc⟩⟩)[j]? = some v → w1.cell? ⟨pb, po + i * 3 + j, none⟩ = some v) := p1
            have HC9 : Hid (∀ (j : Nat) v, (Bv.cs ⟨yu, ⟨ya, yn, yc⟩, ⟨za, zn, zc⟩⟩)[j]? = some v → w1.cell? ⟨sb, so + i * 3 + j, none⟩ = some v) := s1
            have HUu : Hid (vu = yu) := h8.up.trans h9.up.symm
            have hv1 : vn ≤ 140737488355328 := by have e : hb.es.length = vn := h8.e.len; have := h8.ne; omega
            have hv2 : tn ≤ 140737488355328 := by have e : hb.ls.length = tn := h8.l.len; have := h8.nl; omega
            clear hv hy e1 e2 h8 h9 p1 s1 HO
            go_upto_region 20 with fail
            refine WL.start ?_
            refine tK (.int .i64 ((i : Nat) : Int)) ?_
            try simp only [pA, pB, p1, p2, p3]
            refine tK (.slice (some ⟨pb, po, none⟩) n c8) ?_
            try simp only [pA, pB, p1, p2, p3]
            refine tK (.int .i64 ((n : Nat) : Int)) ?_
            try simp only [pA, pB, p1, p2, p3]
            refine tW (.bool true) (exec_bin .lss 3 _ _ _ rfl (.int .i64 ((i : Nat) : Int)) (.int .i64 ((n : Nat) : Int)) (.bool true) (by kernel_rfl) (by kernel_rfl) (by kernel_rfl) (by rw [b_lss, decide_eq_true (by omega)])) ?_
            try simp only [pA, pB, p1, p2, p3]
            refine WL.nil ?_
            try simp only [pA, pB, p1, p2, p3]
            go_upto_region 22 with fail
            refine wp_region_held_drew (S := fun w' => Fr No w1 w' []) rfl HF.out.drew (fun hH => ?_)
            have HF : Hid (Fr No w1 (wr.drew) []) := HF.out.drew
            generalize wr.drew = wk22 at HF hH ⊢
            refine aT (i := 0) (oi := { dst := some 82, op := Op.move (Operand.tmp 8), type := 36, pos := "law.go:114", after := #[], guard := none }) (v := .slice (some ⟨pb, po, none⟩) n c8) (fun _ _ => by kernel_rfl) hH ?_
            try simp only [pA, pB, p1, p2, p3]
            refine aT (i := 1) (oi := { dst := some 83, op := Op.move (Operand.tmp 14), type := 3, pos := "law.go:114", after := #[], guard := none }) (v := .int .i64 ((i : Nat) : Int)) (fun _ _ => by kernel_rfl) hH ?_
            try simp only [pA, pB, p1, p2, p3]
            refine aT (i := 2) (oi := { dst := some 84, op := Op.indexAddr 36 (Operand.tmp 82) (Operand.tmp 83), type := 0, pos := "law.go:114", after := #[{ on := 0, ground := Ground.data }, { on := 1, ground := Ground.data }], guard := none }) (v := .pointer (some ⟨pb, po + i * 3, none⟩)) (fun w' hw => exec_ixA 36 3 Try.und36e Try.size36e _ _ rfl pb po n c8 i (by kernel_rfl) (by kernel_rfl) hin) hH ?_
            try simp only [pA, pB, p1, p2, p3]
            refine aT (i := 3) (oi := { dst := some 85, op := Op.load 25 (Operand.tmp 84), type := 25, pos := "law.go:114", after := #[{ on := 2, ground := Ground.data }], guard := none }) (v := .agg (Bv.cells ⟨vu, ⟨va, vn, vc⟩, ⟨ta, tn, tc⟩⟩)) (fun w' hw => exec_load 25 _ rfl ⟨pb, po + i * 3, none⟩ (by kernel_rfl) (.agg (Bv.cells ⟨vu, ⟨va, vn, vc⟩, ⟨ta, tn, tc⟩⟩)) (load_Bv (fun j v h => hw.kept.cell (HC8.out j v h) (fun e => e)))) hH ?_
            try simp only [pA, pB, p1, p2, p3]
            refine aT (i := 4) (oi := { dst := some 86, op := Op.move (Operand.tmp 9), type := 36, pos := "law.go:114", after := #[], guard := none }) (v := .slice (some ⟨sb, so, none⟩) n c9) (fun _ _ => by kernel_rfl) hH ?_
            try simp only [pA, pB, p1, p2, p3]
            refine aT (i := 5) (oi := { dst := some 87, op := Op.move (Operand.tmp 14), type := 3, pos := "law.go:114", after := #[], guard := none }) (v := .int .i64 ((i : Nat) : Int)) (fun _ _ => by kernel_rfl) hH ?_
            try simp only [pA, pB, p1, p2, p3]
            refine aT (i := 6) (oi := { dst := some 88, op := Op.indexAddr 36 (Operand.tmp 86) (Operand.tmp 87), type := 0, pos := "law.go:114", after := #[{ on := 4, ground := Ground.data }, { on := 5, ground := Ground.data }], guard := none }) (v := .pointer (some ⟨sb, so + i * 3, none⟩)) (fun w' hw => exec_ixA 36 3 Try.und36e Try.size36e _ _ rfl sb so n c9 i (by kernel_rfl) (by kernel_rfl) hin) hH ?_
            try simp only [pA, pB, p1, p2, p3]
            refine aT (i := 7) (oi := { dst := some 89, op := Op.load 25 (Operand.tmp 88), type := 25, pos := "law.go:114", after := #[{ on := 6, ground := Ground.data }], guard := none }) (v := .agg (Bv.cells ⟨yu, ⟨ya, yn, yc⟩, ⟨za, zn, zc⟩⟩)) (fun w' hw => exec_load 25 _ rfl ⟨sb, so + i * 3, none⟩ (by kernel_rfl) (.agg (Bv.cells ⟨yu, ⟨ya, yn, yc⟩, ⟨za, zn, zc⟩⟩)) (load_Bv (fun j v h => hw.kept.cell (HC9.out j v h) (fun e => e)))) hH ?_
            try simp only [pA, pB, p1, p2, p3]
            refine any_call (i := 8) (o := { dst := some 90, op := Op.call { callee := Callee.value (Operand.func 15), args := #[Operand.tmp 85, Operand.tmp 89], argTypes := #[25, 25] }, type := 4, pos := "law.go:114", after := #[{ on := 3, ground := Ground.data }, { on := 7, ground := Ground.data }], guard := none }) rfl (by kernel_rfl) (by kernel_rfl) 15 #[.agg (Bv.cells ⟨vu, ⟨va, vn, vc⟩, ⟨ta, tn, tc⟩⟩), .agg (Bv.cells ⟨yu, ⟨ya, yn, yc⟩, ⟨za, zn, zc⟩⟩)] (by kernel_rfl) _ (sameB_any vu va vn vc ta tn tc yu ya yn yc za zn zc hb.es hb.es hb.ls hb.ls _ (H8.out.no HF.out.kept).e (H9.out.no HF.out.kept).e (H8.out.no HF.out.kept).l (H9.out.no HF.out.kept).l hv1 hv2) ?_
            rintro e wk23 ⟨rfl, hk⟩
            have hH2 : Fr No w1 wk23 [] := hH.no hk
            have HF : Hid (Fr No w1 (wk23) []) := HF.out.no hk
            clear hk
            refine ⟨.bool true, by rw [HUu.out, sameB_refl], hH2, fun hH => ?_⟩
            clear hH2
            try simp only [pA, pB, p1, p2, p3]
            refine aT (i := 9) (oi := { dst := some 91, op := Op.unOp UnOp.not 4 (Operand.tmp 90), type := 4, pos := "law.go:114", after := #[{ on := 8, ground := Ground.data }], guard := none }) (v := .bool false) (fun _ _ => by kernel_rfl) hH ?_
            try simp only [pA, pB, p1, p2, p3]
            refine wpAnyH_done (by kernel_rfl) ?_ _
            try simp only [pA, pB, p1, p2, p3]
            clear hH
            go_wp2
            go_roundw
            case rel => exact ⟨i + 1, by go_num, by omega, HF⟩
            case measure => simp [intOf]; omega
          · skip
            go_upto_region 20 with fail
            refine WL.start ?_
            refine tK (.int .i64 ((i : Nat) : Int)) ?_
            try simp only [pA, pB, p1, p2, p3]
            refine tK (.slice a8 n c8) ?_
            try simp only [pA, pB, p1, p2, p3]
            refine tK (.int .i64 ((n : Nat) : Int)) ?_
            try simp only [pA, pB, p1, p2, p3]
            refine tW (.bool false) (exec_bin .lss 3 _ _ _ rfl (.int .i64 ((i : Nat) : Int)) (.int .i64 ((n : Nat) : Int)) (.bool false) (by kernel_rfl) (by kernel_rfl) (by kernel_rfl) (by rw [b_lss, decide_eq_false (by omega)])) ?_
            try simp only [pA, pB, p1, p2, p3]
            refine WL.nil ?_
            try simp only [pA, pB, p1, p2, p3]
            go_upto_region 24 with fail
            refine WL.start ?_
            refine wp_callW 10 #[] (by kernel_rfl) _ (head_any _) (by kernel_rfl) ?_
            rintro e wk24 ⟨rfl, hk⟩
            have HF : Hid (Fr No w1 (wk24) []) := HF.out.no hk
            clear hk
            refine ⟨.bool true, rfl, ?_⟩
            try simp only [pA, pB, p1, p2, p3]
            refine tK (.bool true) ?_
            try simp only [pA, pB, p1, p2, p3]
            refine WL.nil ?_
            try simp only [pA, pB, p1, p2, p3]
            go_wp2
            rw [HC.out]
            exact ⟨rfl, HK0.out.no HF.out.kept⟩
    · skip
      go_upto_region 7 with fail
      refine WL.start ?_
      refine tK (.int .i64 ((k : Nat) : Int)) ?_
      try simp only [pA, pB, p1, p2, p3]
      refine tK (.slice ca cn cc) ?_
      try simp only [pA, pB, p1, p2, p3]
      refine tK (.int .i64 ((cn : Nat) : Int)) ?_
      try simp only [pA, pB, p1, p2, p3]
      refine tW (.bool false) (exec_bin .lss 3 _ _ _ rfl (.int .i64 ((k : Nat) : Int)) (.int .i64 ((cn : Nat) : Int)) (.bool false) (by kernel_rfl) (by kernel_rfl) (by kernel_rfl) (by rw [b_lss, decide_eq_false (by omega)])) ?_
      try simp only [pA, pB, p1, p2, p3]
      refine tK (.bool false) ?_
      try simp only [pA, pB, p1, p2, p3]
      refine sK ?_
      try simp only [pA, pB, p1, p2, p3]
      refine sK ?_
      try simp only [pA, pB, p1, p2, p3]
      refine tK (.bool false) ?_
      try simp only [pA, pB, p1, p2, p3]
      refine WL.nil ?_
      try simp only [pA, pB, p1, p2, p3]
      have HK0 : Hid (Kept No w wr) := HF.out.kept
      clear HF HB HFi
      generalize wr = w1 at HK0 HO ⊢
      go_wp2
      go_loopw [14] (fun v14 wr => ∃ i : Nat, v14 = .int .i64 ((i : Nat) : Int) ∧ i ≤ n ∧ Hid (Fr No w1 wr [])) (fun i _ => n - (intOf i).toNat)
      case atStart => exact ⟨0, by go_num, by omega, Fr.start _ _⟩
      case round =>
        obtain ⟨i, rfl, hi, HF⟩ := hrel
        by_cases hin : i < n
        · skip
          obtain ⟨⟨vu, ⟨va, vn, vc⟩, ⟨ta, tn, tc⟩⟩, hv⟩ : ∃ v, os[i]? = some v := ⟨_, List.getElem?_eq_getElem (by rw [HO.out.l8]; exact hin)⟩
          obtain ⟨⟨yu, ⟨ya, yn, yc⟩, ⟨za, zn, zc⟩⟩, hy⟩ : ∃ v, ks[i]? = some v := ⟨_, List.getElem?_eq_getElem (by rw [HO.out.l9]; exact hin)⟩
          obtain ⟨hb, e1, h8⟩ := HO.out.b8 i _ hv
          obtain ⟨hb', e2, h9⟩ := HO.out.b9 i _ hy
          obtain rfl : hb = hb' := by rw [e1] at e2; exact Option.some.inj e2
          obtain ⟨pb, po, p0, p1⟩ := Own.rows HO.out.o8 (bvL_c os) (by omega) i _ (by rw [List.getElem?_map, hv]; rfl)
          obtain ⟨sb, so, s0, s1⟩ := Own.rows HO.out.o9 (bvL_c ks) (by omega) i _ (by rw [List.getElem?_map, hy]; rfl)
          subst p0 s0
          have H8 : Hid (BkAt w1 ⟨vu, ⟨va, vn, vc⟩, ⟨ta, tn, tc⟩⟩ hb) := h8
          have H9 : Hid (BkAt w1 ⟨yu, ⟨ya, yn, yc⟩, ⟨za, zn, zc⟩⟩ hb) := h9
          have HC8 : Hid (∀ (j : Nat) v, (Bv.cs ⟨vu, ⟨va, vn, vc⟩, ⟨ta, tn, tc⟩⟩)[j]? = some v → w1.cell? ⟨pb, po + i * 3 + j, none⟩ = some v) := p1
          have HC9 : Hid (∀ (j : Nat) v, (Bv.cs ⟨yu, ⟨ya, yn, yc⟩, ⟨za, zn, zc⟩⟩)[j]? = some v → w1.cell? ⟨sb, so + i * 3 + j, none⟩ = some v) := s1
          have HUu : Hid (vu = yu) := h8.up.trans h9.up.symm
          have hv1 : vn ≤ 140737488355328 := by have e : hb.es.length = vn := h8.e.len; have := h8.ne; omega
          have hv2 : tn ≤ 140737488355328 := by have e : hb.ls.length = tn := h8.l.len; have := h8.nl; omega
          clear hv hy e1 e2 h8 h9 p1 s1 HO
          go_upto_region 20 with fail
          refine WL.start ?_
          refine tK (.int .i64 ((i : Nat) : Int)) ?_
          try simp only [pA, pB, p1, p2, p3]
          refine tK (.slice (some ⟨pb, po, none⟩) n c8) ?_
          try simp only [pA, pB, p1, p2, p3]
          refine tK (.int .i64 ((n : Nat) : Int)) ?_
          try simp only [pA, pB, p1, p2, p3]
          refine tW (.bool true) (exec_bin .lss 3 _ _ _ rfl (.int .i64 ((i : Nat) : Int)) (.int .i64 ((n : Nat) : Int)) (.bool true) (by kernel_rfl) (by kernel_rfl) (by kernel_rfl) (by rw [b_lss, decide_eq_true (by omega)])) ?_
          try simp only [pA, pB, p1, p2, p3]
          refine WL.nil ?_
          try simp only [pA, pB, p1, p2, p3]
          go_upto_region 22 with fail
          refine wp_region_held_drew (S := fun w' => Fr No w1 w' []) rfl HF.out.drew (fun hH => ?_)
          have HF : Hid (Fr No w1 (wr.drew) []) := HF.out.drew
          generalize wr.drew = wk25 at HF hH ⊢
          refine aT (i := 0) (oi := { dst := some 82, op := Op.move (Operand.tmp 8), type := 36, pos := "law.go:114", after := #[], guard := none }) (v := .slice (some ⟨pb, po, none⟩) n c8) (fun _ _ => by kernel_rfl) hH ?_
          try simp only [pA, pB, p1, p2, p3]
          refine aT (i := 1) (oi := { dst := some 83, op := Op.move (Operand.tmp 14), type := 3, pos := "law.go:114", after := #[], guard := none }) (v := .int .i64 ((i : Nat) : Int)) (fun _ _ => by kernel_rfl) hH ?_
          try simp only [pA, pB, p1, p2, p3]
          refine aT (i := 2) (oi := { dst := some 84, op := Op.indexAddr 36 (Operand.tmp 82) (Operand.tmp 83), type := 0, pos := "law.go:114", after := #[{ on := 0, ground := Ground.data }, { on := 1, ground := Ground.data }], guard := none }) (v := .pointer (some ⟨pb, po + i * 3, none⟩)) (fun w' hw => exec_ixA 36 3 Try.und36e Try.size36e _ _ rfl pb po n c8 i (by kernel_rfl) (by kernel_rfl) hin) hH ?_
          try simp only [pA, pB, p1, p2, p3]
          refine aT (i := 3) (oi := { dst := some 85, op := Op.load 25 (Operand.tmp 84), type := 25, pos := "law.go:114", after := #[{ on := 2, ground := Ground.data }], guard := none }) (v := .agg (Bv.cells ⟨vu, ⟨va, vn, vc⟩, ⟨ta, tn, tc⟩⟩)) (fun w' hw => exec_load 25 _ rfl ⟨pb, po + i * 3, none⟩ (by kernel_rfl) (.agg (Bv.cells ⟨vu, ⟨va, vn, vc⟩, ⟨ta, tn, tc⟩⟩)) (load_Bv (fun j v h => hw.kept.cell (HC8.out j v h) (fun e => e)))) hH ?_
          try simp only [pA, pB, p1, p2, p3]
          refine aT (i := 4) (oi := { dst := some 86, op := Op.move (Operand.tmp 9), type := 36, pos := "law.go:114", after := #[], guard := none }) (v := .slice (some ⟨sb, so, none⟩) n c9) (fun _ _ => by kernel_rfl) hH ?_
          try simp only [pA, pB, p1, p2, p3]
          refine aT (i := 5) (oi := { dst := some 87, op := Op.move (Operand.tmp 14), type := 3, pos := "law.go:114", after := #[], guard := none }) (v := .int .i64 ((i : Nat) : Int)) (fun _ _ => by kernel_rfl) hH ?_
          try simp only [pA, pB, p1, p2, p3]
          refine aT (i := 6) (oi := { dst := some 88, op := Op.indexAddr 36 (Operand.tmp 86) (Operand.tmp 87), type := 0, pos := "law.go:114", after := #[{ on := 4, ground := Ground.data }, { on := 5, ground := Ground.data }], guard := none }) (v := .pointer (some ⟨sb, so + i * 3, none⟩)) (fun w' hw => exec_ixA 36 3 Try.und36e Try.size36e _ _ rfl sb so n c9 i (by kernel_rfl) (by kernel_rfl) hin) hH ?_
          try simp only [pA, pB, p1, p2, p3]
          refine aT (i := 7) (oi := { dst := some 89, op := Op.load 25 (Operand.tmp 88), type := 25, pos := "law.go:114", after := #[{ on := 6, ground := Ground.data }], guard := none }) (v := .agg (Bv.cells ⟨yu, ⟨ya, yn, yc⟩, ⟨za, zn, zc⟩⟩)) (fun w' hw => exec_load 25 _ rfl ⟨sb, so + i * 3, none⟩ (by kernel_rfl) (.agg (Bv.cells ⟨yu, ⟨ya, yn, yc⟩, ⟨za, zn, zc⟩⟩)) (load_Bv (fun j v h => hw.kept.cell (HC9.out j v h) (fun e => e)))) hH ?_
          try simp only [pA, pB, p1, p2, p3]
          refine any_call (i := 8) (o := { dst := some 90, op := Op.call { callee := Callee.value (Operand.func 15), args := #[Operand.tmp 85, Operand.tmp 89], argTypes := #[25, 25] }, type := 4, pos := "law.go:114", after := #[{ on := 3, ground := Ground.data }, { on := 7, ground := Ground.data }], guard := none }) rfl (by kernel_rfl) (by kernel_rfl) 15 #[.agg (Bv.cells ⟨vu, ⟨va, vn, vc⟩, ⟨ta, tn, tc⟩⟩), .agg (Bv.cells ⟨yu, ⟨ya, yn, yc⟩, ⟨za, zn, zc⟩⟩)] (by kernel_rfl) _ (sameB_any vu va vn vc ta tn tc yu ya yn yc za zn zc hb.es hb.es hb.ls hb.ls _ (H8.out.no HF.out.kept).e (H9.out.no HF.out.kept).e (H8.out.no HF.out.kept).l (H9.out.no HF.out.kept).l hv1 hv2) ?_
          rintro e wk26 ⟨rfl, hk⟩
          have hH2 : Fr No w1 wk26 [] := hH.no hk
          have HF : Hid (Fr No w1 (wk26) []) := HF.out.no hk
          clear hk
          refine ⟨.bool true, by rw [HUu.out, sameB_refl], hH2, fun hH => ?_⟩
          clear hH2
          try simp only [pA, pB, p1, p2, p3]
          refine aT (i := 9) (oi := { dst := some 91, op := Op.unOp UnOp.not 4 (Operand.tmp 90), type := 4, pos := "law.go:114", after := #[{ on := 8, ground := Ground.data }], guard := none }) (v := .bool false) (fun _ _ => by kernel_rfl) hH ?_
          try simp only [pA, pB, p1, p2, p3]
          refine wpAnyH_done (by kernel_rfl) ?_ _
          try simp only [pA, pB, p1, p2, p3]
          clear hH
          go_wp2
          go_roundw
          case rel => exact ⟨i + 1, by go_num, by omega, HF⟩
          case measure => simp [intOf]; omega
        · skip
          go_upto_region 20 with fail
          refine WL.start ?_
          refine tK (.int .i64 ((i : Nat) : Int)) ?_
          try simp only [pA, pB, p1, p2, p3]
          refine tK (.slice a8 n c8) ?_
          try simp only [pA, pB, p1, p2, p3]
          refine tK (.int .i64 ((n : Nat) : Int)) ?_
          try simp only [pA, pB, p1, p2, p3]
          refine tW (.bool false) (exec_bin .lss 3 _ _ _ rfl (.int .i64 ((i : Nat) : Int)) (.int .i64 ((n : Nat) : Int)) (.bool false) (by kernel_rfl) (by kernel_rfl) (by kernel_rfl) (by rw [b_lss, decide_eq_false (by omega)])) ?_
          try simp only [pA, pB, p1, p2, p3]
          refine WL.nil ?_
          try simp only [pA, pB, p1, p2, p3]
          go_upto_region 24 with fail
          refine WL.start ?_
          refine wp_callW 10 #[] (by kernel_rfl) _ (head_any _) (by kernel_rfl) ?_
          rintro e wk27 ⟨rfl, hk⟩
          have HF : Hid (Fr No w1 (wk27) []) := HF.out.no hk
          clear hk
          refine ⟨.bool true, rfl, ?_⟩
          try simp only [pA, pB, p1, p2, p3]
          refine tK (.bool true) ?_
          try simp only [pA, pB, p1, p2, p3]
          refine WL.nil ?_
          try simp only [pA, pB, p1, p2, p3]
          go_wp2
          rw [HC.out]
          exact ⟨rfl, HK0.out.no HF.out.kept⟩

end Go.Proofs.Ytfemlnfknebalaa
