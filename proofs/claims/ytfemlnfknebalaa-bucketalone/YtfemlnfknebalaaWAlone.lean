import Derived.Test.YtfemlnfknebalaaTb
namespace Go.Proofs.Ytfemlnfknebalaa
open Go.RowKit
set_option linter.unusedVariables false
set_option linter.unusedSimpArgs false

set_option maxRecDepth 100000 in
set_option maxHeartbeats 4000000 in
theorem aloneWalk (room : Int) (ca : Option Addr) (cn cc : Nat) (nm : ByteArray) (xs : List Cm) (w : World) (hl : xs.length = cn) (hbig : cn ≤ 140737488351232) (hX : Cs w ca xs) : Calls Try.prog 8 #[.int .i64 room, .slice ca cn cc, .string nm] w (fun e w' => e = .returned (.bool true) ∧ Kept No w w') := by
  obtain ⟨C, hC⟩ : ∃ C : Ending → World → Prop, C = (fun e w' => e = .returned (.bool true) ∧ Kept No w w') := ⟨_, rfl⟩
  have HC : Hid (C = (fun e w' => e = .returned (.bool true) ∧ Kept No w w')) := hC
  rw [← hC]
  clear hC
  have HL : Hid (xs.length = cn) := hl
  have HX : Hid (Cs w ca xs) := hX
  clear hl hX
  have HF : Hid (Fr No w w []) := Fr.start _ _
  go_enter Try.func8, Try.ntmps8
  go_upto_region 0 with fail
  refine WL.start ?_
  refine wp_takeW (.bool false) (by kernel_rfl) (by kernel_rfl) ?_
  try simp only [pA, pB, p1, p2, p3]
  refine WL.nil ?_
  try simp only [pA, pB, p1, p2, p3]
  go_upto_region 1 with fail
  refine WL.start ?_
  refine wp_runW (.pointer (some ⟨w.heap.size, 0, none⟩)) (w.alloc (.cells (Bv.cells bvZ) 25)) (exec_alloc 25 rfl (Bv.cells bvZ) zero25) (by kernel_rfl) ?_
  try simp only [pA, pB, p1, p2, p3]
  have HF : Hid (Fr No w (w.alloc (.cells (Bv.cells bvZ) 25)) [(w.heap.size, 25, Bv.cells bvZ)]) := HF.out.alloc _ _
  generalize w.alloc (.cells (Bv.cells bvZ) 25) = wk2 at HF ⊢
  generalize w.heap.size = gk1 at HF ⊢
  refine wp_runW (.pointer (some ⟨wk2.heap.size, 0, none⟩)) (wk2.alloc (.cells (Bv.cells bvZ) 25)) (exec_alloc 25 rfl (Bv.cells bvZ) zero25) (by kernel_rfl) ?_
  try simp only [pA, pB, p1, p2, p3]
  have HF : Hid (Fr No w (wk2.alloc (.cells (Bv.cells bvZ) 25)) [(gk1, 25, Bv.cells bvZ), (wk2.heap.size, 25, Bv.cells bvZ)]) := HF.out.alloc _ _
  generalize wk2.alloc (.cells (Bv.cells bvZ) 25) = wk4 at HF ⊢
  generalize wk2.heap.size = gk3 at HF ⊢
  refine WL.nil ?_
  try simp only [pA, pB, p1, p2, p3]
  go_upto_region 2 with fail
  refine WL.start ?_
  refine wp_takeW (.bool true) (by kernel_rfl) (by kernel_rfl) ?_
  try simp only [pA, pB, p1, p2, p3]
  refine WL.nil ?_
  try simp only [pA, pB, p1, p2, p3]
  go_upto_region 3 with fail
  refine WL.start ?_
  refine wp_takeW (.int .i64 0) (by kernel_rfl) (by kernel_rfl) ?_
  try simp only [pA, pB, p1, p2, p3]
  refine WL.nil ?_
  try simp only [pA, pB, p1, p2, p3]
  go_wp2
  go_loopw [9, 10] (fun v9 v10 wr => ∃ (k : Nat) (ro : Bool) (b o : Bk) (sb lb sa la : Sl), v10 = .int .i64 ((k : Nat) : Int) ∧ v9 = .bool ro ∧ k ≤ cn ∧ k ≤ 400 ∧ Hid (Fr No w wr [(gk1, 25, Bv.cells ⟨b.up, sb, lb⟩), (gk3, 25, Bv.cells ⟨o.up, sa, la⟩)]) ∧ Hid (OwE wr w.heap.size sb b.es) ∧ Hid (OwL wr w.heap.size lb b.ls) ∧ Hid (OwE wr w.heap.size sa o.es) ∧ Hid (OwL wr w.heap.size la o.ls) ∧ Hid (AInv nm k b o ro)) (fun _ i _ => 400 - (intOf i).toNat)
  case atStart => exact ⟨0, true, bkZ, bkZ, slZ, slZ, slZ, slZ, by go_num, rfl, by omega, by omega, HF, OwE.nil _ _, OwL.nil _ _, OwE.nil _ _, OwL.nil _ _, AInv.start nm⟩
  case round =>
    obtain ⟨k, ro, ⟨bu, bes, bls⟩, ⟨au, aes, als⟩, ⟨ba, bn, bc⟩, ⟨la, ln, lc⟩, ⟨aa, an, ac⟩, ⟨ma, mn, mc⟩, rfl, rfl, hk1, hk2, HF, HBE, HBL, HAE, HAL, HI⟩ := hrel
    have HBE : Hid (OwE wr w.heap.size ⟨ba, bn, bc⟩ bes) := HBE
    have HBL : Hid (OwL wr w.heap.size ⟨la, ln, lc⟩ bls) := HBL
    have HAE : Hid (OwE wr w.heap.size ⟨aa, an, ac⟩ aes) := HAE
    have HAL : Hid (OwL wr w.heap.size ⟨ma, mn, mc⟩ als) := HAL
    have HF : Hid (Fr No w wr [(gk1, 25, Bv.cells ⟨bu, ⟨ba, bn, bc⟩, ⟨la, ln, lc⟩⟩), (gk3, 25, Bv.cells ⟨au, ⟨aa, an, ac⟩, ⟨ma, mn, mc⟩⟩)]) := HF
    have hbn : bn ≤ 400 := by have h1 : bes.length = bn := HBE.out.len; have h2 : bes.length ≤ k := HI.out.ben; omega
    have hln : ln ≤ 400 := by have h1 : bls.length = ln := HBL.out.len; have h2 : bls.length ≤ k := HI.out.bln; omega
    have han : an ≤ 400 := by have h1 : aes.length = an := HAE.out.len; have h2 : aes.length ≤ k := HI.out.aen; omega
    have hmn : mn ≤ 400 := by have h1 : als.length = mn := HAL.out.len; have h2 : als.length ≤ k := HI.out.aln; omega
    have hbu : 0 ≤ bu ∧ bu ≤ 400 := by have h2 : 0 ≤ bu ∧ bu ≤ k := HI.out.bu; omega
    have hau : 0 ≤ au ∧ au ≤ 400 := by have h2 : 0 ≤ au ∧ au ≤ k := HI.out.au; omega
    by_cases hkn : k < cn
    · by_cases hk4 : k < 400
      · skip
        obtain ⟨xb, xo, e0, hcell⟩ := Cs.at HX.out (i := k) (by rw [HL.out]; exact hkn)
        subst e0
        have HCE : Hid (∀ (j : Nat) v, (cAt xs k).cs[j]? = some v → w.cell? ⟨xb, xo + k * 9 + j, none⟩ = some v) := hcell
        clear hcell
        generalize cAt xs k = x at HCE
        go_upto_region 4 with fail
        refine WL.start ?_
        refine wp_takeW (.int .i64 ((k : Nat) : Int)) (by kernel_rfl) (by kernel_rfl) ?_
        try simp only [pA, pB, p1, p2, p3]
        refine wp_takeW (.slice (some ⟨xb, xo, none⟩) cn cc) (by kernel_rfl) (by kernel_rfl) ?_
        try simp only [pA, pB, p1, p2, p3]
        refine wp_takeW (.int .i64 ((cn : Nat) : Int)) (by kernel_rfl) (by kernel_rfl) ?_
        try simp only [pA, pB, p1, p2, p3]
        refine wp_takeW (.bool true) (exec_bin .lss 3 _ _ _ rfl (.int .i64 ((k : Nat) : Int)) (.int .i64 ((cn : Nat) : Int)) (.bool true) (by kernel_rfl) (by kernel_rfl) (by kernel_rfl) (by rw [b_lss, decide_eq_true (by omega)])) (by kernel_rfl) ?_
        try simp only [pA, pB, p1, p2, p3]
        refine wp_takeW (.bool true) (by kernel_rfl) (by kernel_rfl) ?_
        try simp only [pA, pB, p1, p2, p3]
        refine wp_takeW (.int .i64 ((k : Nat) : Int)) (by kernel_rfl) (by kernel_rfl) ?_
        try simp only [pA, pB, p1, p2, p3]
        refine wp_takeW (.bool true) (exec_bin .lss 3 _ _ _ rfl (.int .i64 ((k : Nat) : Int)) (.int .i64 400) (.bool true) (by kernel_rfl) (by kernel_rfl) (by kernel_rfl) (by rw [b_lss, decide_eq_true (by omega)])) (by kernel_rfl) ?_
        try simp only [pA, pB, p1, p2, p3]
        refine wp_takeW (.bool true) (by kernel_rfl) (by kernel_rfl) ?_
        try simp only [pA, pB, p1, p2, p3]
        refine WL.nil ?_
        try simp only [pA, pB, p1, p2, p3]
        go_upto_region 6 with fail
        refine WL.start ?_
        refine wp_takeW (.slice (some ⟨xb, xo, none⟩) cn cc) (by kernel_rfl) (by kernel_rfl) ?_
        try simp only [pA, pB, p1, p2, p3]
        refine wp_takeW (.int .i64 ((k : Nat) : Int)) (by kernel_rfl) (by kernel_rfl) ?_
        try simp only [pA, pB, p1, p2, p3]
        refine wp_takeW (.pointer (some ⟨xb, xo + k * 9, none⟩)) (exec_ixA 34 9 Try.und34e Try.size34e _ _ rfl xb xo cn cc k (by kernel_rfl) (by kernel_rfl) hkn) (by kernel_rfl) ?_
        try simp only [pA, pB, p1, p2, p3]
        refine wp_takeW (.agg (Cm.cells x)) (exec_load 29 _ rfl ⟨xb, xo + k * 9, none⟩ (by kernel_rfl) (.agg (Cm.cells x)) (load_Ca (fun j v h => HF.out.kept.cell (HCE.out j v h) (fun e => e)))) (by kernel_rfl) ?_
        try simp only [pA, pB, p1, p2, p3]
        refine wp_runW (.pointer (some ⟨wr.heap.size, 0, none⟩)) (wr.alloc (.cells (Cm.cells cZ) 29)) (exec_alloc 29 rfl (Cm.cells cZ) zero29) (by kernel_rfl) ?_
        try simp only [pA, pB, p1, p2, p3]
        have HBE_s : Hid (OwE wr w.heap.size ⟨ba, bn, bc⟩ bes) := HBE
        have HBL_s : Hid (OwL wr w.heap.size ⟨la, ln, lc⟩ bls) := HBL
        have HAE_s : Hid (OwE wr w.heap.size ⟨aa, an, ac⟩ aes) := HAE
        have HAL_s : Hid (OwL wr w.heap.size ⟨ma, mn, mc⟩ als) := HAL
        have HKs : Hid (Kept No wr wr) := Kept.refl _ _
        have HG_gk5 : Hid (wr.heap.size ≤ wr.heap.size) := Nat.le_refl _
        have HBE : Hid (OwE (wr.alloc (.cells (Cm.cells cZ) 29)) w.heap.size ⟨ba, bn, bc⟩ bes) := HBE.out.no ((Kept.refl No _).alloc _)
        have HBL : Hid (OwL (wr.alloc (.cells (Cm.cells cZ) 29)) w.heap.size ⟨la, ln, lc⟩ bls) := HBL.out.no ((Kept.refl No _).alloc _)
        have HAE : Hid (OwE (wr.alloc (.cells (Cm.cells cZ) 29)) w.heap.size ⟨aa, an, ac⟩ aes) := HAE.out.no ((Kept.refl No _).alloc _)
        have HAL : Hid (OwL (wr.alloc (.cells (Cm.cells cZ) 29)) w.heap.size ⟨ma, mn, mc⟩ als) := HAL.out.no ((Kept.refl No _).alloc _)
        have HKs : Hid (Kept No wr (wr.alloc (.cells (Cm.cells cZ) 29))) := HKs.out.no ((Kept.refl No _).alloc _)
        have HF : Hid (Fr No w (wr.alloc (.cells (Cm.cells cZ) 29)) [(gk1, 25, Bv.cells ⟨bu, ⟨ba, bn, bc⟩, ⟨la, ln, lc⟩⟩), (gk3, 25, Bv.cells ⟨au, ⟨aa, an, ac⟩, ⟨ma, mn, mc⟩⟩), (wr.heap.size, 29, Cm.cells cZ)]) := HF.out.alloc _ _
        generalize wr.alloc (.cells (Cm.cells cZ) 29) = wk6 at HF HBE HBL HAE HAL HKs ⊢
        obtain ⟨gk5, hg⟩ : ∃ g, g = wr.heap.size := ⟨_, rfl⟩
        have HG_gk5 : Hid (wr.heap.size ≤ gk5) := by show _ ≤ _; rw [hg]; exact HG_gk5.out
        rw [← hg] at HF ⊢
        clear hg
        refine wp_storeW 29 _ _ rfl ⟨gk5, 0, none⟩ (.agg (Cm.cells x)) (by kernel_rfl) (by kernel_rfl) (wk6.setRow gk5 (Cm.cells x)) (st29 (HF.out.box 2 _ _ _ rfl) rfl) (by kernel_rfl) ?_
        try simp only [pA, pB, p1, p2, p3]
        have HBE : Hid (OwE (wk6.setRow gk5 (Cm.cells x)) w.heap.size ⟨ba, bn, bc⟩ bes) := HBE_s.out.no (HKs.out.newRow HG_gk5.out _)
        have HBL : Hid (OwL (wk6.setRow gk5 (Cm.cells x)) w.heap.size ⟨la, ln, lc⟩ bls) := HBL_s.out.no (HKs.out.newRow HG_gk5.out _)
        have HAE : Hid (OwE (wk6.setRow gk5 (Cm.cells x)) w.heap.size ⟨aa, an, ac⟩ aes) := HAE_s.out.no (HKs.out.newRow HG_gk5.out _)
        have HAL : Hid (OwL (wk6.setRow gk5 (Cm.cells x)) w.heap.size ⟨ma, mn, mc⟩ als) := HAL_s.out.no (HKs.out.newRow HG_gk5.out _)
        have HKs : Hid (Kept No wr (wk6.setRow gk5 (Cm.cells x))) := HKs.out.newRow HG_gk5.out _
        have HF : Hid (Fr No w (wk6.setRow gk5 (Cm.cells x)) [(gk1, 25, Bv.cells ⟨bu, ⟨ba, bn, bc⟩, ⟨la, ln, lc⟩⟩), (gk3, 25, Bv.cells ⟨au, ⟨aa, an, ac⟩, ⟨ma, mn, mc⟩⟩), (gk5, 29, Cm.cells x)]) := HF.out.set 2 rfl _
        generalize wk6.setRow gk5 (Cm.cells x) = wk7 at HF HBE HBL HAE HAL HKs ⊢
        refine WL.nil ?_
        try simp only [pA, pB, p1, p2, p3]
        clear HKs HBE_s HBL_s HAE_s HAL_s HG_gk5
        go_upto_region 7 with fail
        refine WL.start ?_
        refine wp_takeW (.agg (Cm.cells x)) (exec_load 29 _ rfl ⟨gk5, 0, none⟩ (by kernel_rfl) (.agg (Cm.cells x)) (ld29 (HF.out.box 2 _ _ _ rfl))) (by kernel_rfl) ?_
        try simp only [pA, pB, p1, p2, p3]
        cases q1 : (cmdB x)
        ·skip
         refine wp_callW 12 #[.agg (Cm.cells x)] (by kernel_rfl) _ (command_any x _) (by kernel_rfl) ?_
         rintro e wk8 ⟨rfl, hk⟩
         have HBE : Hid (OwE (wk8) w.heap.size ⟨ba, bn, bc⟩ bes) := HBE.out.no hk
         have HBL : Hid (OwL (wk8) w.heap.size ⟨la, ln, lc⟩ bls) := HBL.out.no hk
         have HAE : Hid (OwE (wk8) w.heap.size ⟨aa, an, ac⟩ aes) := HAE.out.no hk
         have HAL : Hid (OwL (wk8) w.heap.size ⟨ma, mn, mc⟩ als) := HAL.out.no hk
         have HF : Hid (Fr No w (wk8) [(gk1, 25, Bv.cells ⟨bu, ⟨ba, bn, bc⟩, ⟨la, ln, lc⟩⟩), (gk3, 25, Bv.cells ⟨au, ⟨aa, an, ac⟩, ⟨ma, mn, mc⟩⟩), (gk5, 29, Cm.cells x)]) := HF.out.no hk
         clear hk
         refine ⟨.bool false, by rw [q1], ?_⟩
         try simp only [pA, pB, p1, p2, p3]
         refine wp_takeW (.bool true) (by kernel_rfl) (by kernel_rfl) ?_
         try simp only [pA, pB, p1, p2, p3]
         refine WL.nil ?_
         try simp only [pA, pB, p1, p2, p3]
         have HF : Hid (Fr No w wk8 [(gk1, 25, Bv.cells ⟨bu, ⟨ba, bn, bc⟩, ⟨la, ln, lc⟩⟩), (gk3, 25, Bv.cells ⟨au, ⟨aa, an, ac⟩, ⟨ma, mn, mc⟩⟩)]) := (show Fr No w wk8 ([(gk1, 25, Bv.cells ⟨bu, ⟨ba, bn, bc⟩, ⟨la, ln, lc⟩⟩), (gk3, 25, Bv.cells ⟨au, ⟨aa, an, ac⟩, ⟨ma, mn, mc⟩⟩)] ++ [(gk5, 29, Cm.cells x)]) from HF.out).front
         go_wp2
         go_roundw
         case rel => exact ⟨k + 1, ro, ⟨bu, bes, bls⟩, ⟨au, aes, als⟩, ⟨ba, bn, bc⟩, ⟨la, ln, lc⟩, ⟨aa, an, ac⟩, ⟨ma, mn, mc⟩, by go_num, rfl, by omega, by omega, HF, HBE, HBL, HAE, HAL, HI.out.pass⟩
         case measure => simp [intOf]; omega
        ·skip
         refine wp_callW 12 #[.agg (Cm.cells x)] (by kernel_rfl) _ (command_any x _) (by kernel_rfl) ?_
         rintro e wk9 ⟨rfl, hk⟩
         have HBE : Hid (OwE (wk9) w.heap.size ⟨ba, bn, bc⟩ bes) := HBE.out.no hk
         have HBL : Hid (OwL (wk9) w.heap.size ⟨la, ln, lc⟩ bls) := HBL.out.no hk
         have HAE : Hid (OwE (wk9) w.heap.size ⟨aa, an, ac⟩ aes) := HAE.out.no hk
         have HAL : Hid (OwL (wk9) w.heap.size ⟨ma, mn, mc⟩ als) := HAL.out.no hk
         have HF : Hid (Fr No w (wk9) [(gk1, 25, Bv.cells ⟨bu, ⟨ba, bn, bc⟩, ⟨la, ln, lc⟩⟩), (gk3, 25, Bv.cells ⟨au, ⟨aa, an, ac⟩, ⟨ma, mn, mc⟩⟩), (gk5, 29, Cm.cells x)]) := HF.out.no hk
         clear hk
         refine ⟨.bool true, by rw [q1], ?_⟩
         try simp only [pA, pB, p1, p2, p3]
         refine wp_takeW (.bool false) (by kernel_rfl) (by kernel_rfl) ?_
         try simp only [pA, pB, p1, p2, p3]
         refine WL.nil ?_
         try simp only [pA, pB, p1, p2, p3]
         have HAP : Hid (∀ W, RdE W ⟨ba, bn, bc⟩ bes → RdL W ⟨la, ln, lc⟩ bls → Calls Try.prog 22 #[.agg (Bv.cells ⟨bu, ⟨ba, bn, bc⟩, ⟨la, ln, lc⟩⟩), .agg (Cm.cells x), .int .i64 room] W (ApYes W (stepS ⟨bu, bes, bls⟩ x room))) := fun W h1 h2 => apply_yes bu ba bn bc la ln lc bes bls x room W (refS_ok q1 (by omega)) h1 h2 (by omega) (by omega) (by omega)
         have HAP2 : Hid (∀ W, RdE W ⟨aa, an, ac⟩ aes → RdL W ⟨ma, mn, mc⟩ als → Calls Try.prog 22 #[.agg (Bv.cells ⟨au, ⟨aa, an, ac⟩, ⟨ma, mn, mc⟩⟩), .agg (Cm.cells x), .int .i64 room] W (ApYes W (stepS ⟨au, aes, als⟩ x room))) := fun W h1 h2 => apply_yes au aa an ac ma mn mc aes als x room W (refS_ok q1 (by omega)) h1 h2 (by omega) (by omega) (by omega)
         have HES : Hid (eqN x.nm nm = false → eIs (stepS ⟨bu, bes, bls⟩ x room).1.es nm = eIs bes nm ∧ findE (stepS ⟨bu, bes, bls⟩ x room).1.es nm = findE bes nm) := fun h => HI.out.es x room (fun e => by rw [eqN_iff.2 e] at h; cases h)
         have HLS : Hid (∀ j : Int, (j ≠ x.cl ∨ quest x = true) → lIs (stepS ⟨bu, bes, bls⟩ x room).1.ls j = lIs bls j ∧ findL (stepS ⟨bu, bes, bls⟩ x room).1.ls j = findL bls j) := fun j hj => HI.out.ls x room j hj
         have HRn : Hid ((stepS ⟨bu, bes, bls⟩ x room).1.es.length ≤ 401 ∧ (stepS ⟨bu, bes, bls⟩ x room).1.ls.length ≤ 401) := ⟨by have h1 := (act_rise HI.out.be x room).2.2; have h2 : bes.length ≤ k := HI.out.ben; show (actS bes x room).1.length ≤ 401; have h3 : (actS bes x room).1.length ≤ bes.length + 1 := h1; omega, by have h1 := (step_ls HI.out.bl x room).2.2; have h2 : bls.length ≤ k := HI.out.bln; have h3 : (stepS ⟨bu, bes, bls⟩ x room).1.ls.length ≤ bls.length + 1 := h1; omega⟩
         have HIO : Hid (eqN x.nm nm = false → AInv nm (k + 1) (stepS ⟨bu, bes, bls⟩ x room).1 ⟨au, aes, als⟩ (ro && !((stepS ⟨bu, bes, bls⟩ x room).2.er == 103))) := fun h => HI.out.other x room (fun e => by rw [eqN_iff.2 e] at h; cases h)
         have HIS : Hid (eqN x.nm nm = true → AInv nm (k + 1) (stepS ⟨bu, bes, bls⟩ x room).1 (stepS ⟨au, aes, als⟩ x room).1 (ro && !((stepS ⟨bu, bes, bls⟩ x room).2.er == 103))) := fun h => HI.out.same x room (eqN_iff.1 h)
         generalize stepS ⟨bu, bes, bls⟩ x room = R at HAP HES HLS HRn HIO HIS
         generalize stepS ⟨au, aes, als⟩ x room = R2 at HAP2 HIS
         clear HI q1
         go_upto_region 8 with fail
         refine WL.start ?_
         refine wp_takeW (.agg (Bv.cells ⟨bu, ⟨ba, bn, bc⟩, ⟨la, ln, lc⟩⟩)) (exec_load 25 _ rfl ⟨gk1, 0, none⟩ (by kernel_rfl) (.agg (Bv.cells ⟨bu, ⟨ba, bn, bc⟩, ⟨la, ln, lc⟩⟩)) (ld25 (HF.out.box 0 _ _ _ rfl))) (by kernel_rfl) ?_
         try simp only [pA, pB, p1, p2, p3]
         refine wp_takeW (.agg (Cm.cells x)) (exec_load 29 _ rfl ⟨gk5, 0, none⟩ (by kernel_rfl) (.agg (Cm.cells x)) (ld29 (HF.out.box 2 _ _ _ rfl))) (by kernel_rfl) ?_
         try simp only [pA, pB, p1, p2, p3]
         refine wp_takeW (.int .i64 room) (by kernel_rfl) (by kernel_rfl) ?_
         try simp only [pA, pB, p1, p2, p3]
         refine wp_callW 22 #[.agg (Bv.cells ⟨bu, ⟨ba, bn, bc⟩, ⟨la, ln, lc⟩⟩), .agg (Cm.cells x), .int .i64 room] (by kernel_rfl) _ (HAP.out _ HBE.out.rd HBL.out.rd) (by kernel_rfl) ?_
         rintro e wk10 ⟨⟨qa, qn, qc⟩, ⟨ra, rn, rc⟩, ⟨xa, xn, xc⟩, rfl, hQ, hR, hX, hD, hk⟩
         have HNE : Hid (OwE wk10 w.heap.size ⟨qa, qn, qc⟩ R.1.es) := hQ.lower HF.out.kept.size
         have HNL : Hid (OwL wk10 w.heap.size ⟨ra, rn, rc⟩ R.1.ls) := hR.lower HF.out.kept.size
         have HBE : Hid (OwE (wk10) w.heap.size ⟨ba, bn, bc⟩ bes) := HBE.out.no hk
         have HBL : Hid (OwL (wk10) w.heap.size ⟨la, ln, lc⟩ bls) := HBL.out.no hk
         have HAE : Hid (OwE (wk10) w.heap.size ⟨aa, an, ac⟩ aes) := HAE.out.no hk
         have HAL : Hid (OwL (wk10) w.heap.size ⟨ma, mn, mc⟩ als) := HAL.out.no hk
         have HF : Hid (Fr No w (wk10) [(gk1, 25, Bv.cells ⟨bu, ⟨ba, bn, bc⟩, ⟨la, ln, lc⟩⟩), (gk3, 25, Bv.cells ⟨au, ⟨aa, an, ac⟩, ⟨ma, mn, mc⟩⟩), (gk5, 29, Cm.cells x)]) := HF.out.no hk
         clear hQ hR hX hD hk
         refine ⟨.tuple #[.agg (Bv.cells ⟨R.1.up, ⟨qa, qn, qc⟩, ⟨ra, rn, rc⟩⟩), .agg (Av.cells ⟨R.2.er, R.2.e, ⟨xa, xn, xc⟩⟩), .int .i64 0], rfl, ?_⟩
         try simp only [pA, pB, p1, p2, p3]
         have hqn : qn ≤ 401 := by have h1 : R.1.es.length = qn := HNE.out.len; have := HRn.out.1; omega
         have hrn : rn ≤ 401 := by have h1 : R.1.ls.length = rn := HNL.out.len; have := HRn.out.2; omega
         refine wp_takeW (.tuple #[.agg (Bv.cells ⟨R.1.up, ⟨qa, qn, qc⟩, ⟨ra, rn, rc⟩⟩), .agg (Av.cells ⟨R.2.er, R.2.e, ⟨xa, xn, xc⟩⟩), .int .i64 0]) (by kernel_rfl) (by kernel_rfl) ?_
         try simp only [pA, pB, p1, p2, p3]
         refine wp_takeW (.agg (Bv.cells ⟨R.1.up, ⟨qa, qn, qc⟩, ⟨ra, rn, rc⟩⟩)) (by kernel_rfl) (by kernel_rfl) ?_
         try simp only [pA, pB, p1, p2, p3]
         refine wp_takeW (.agg (Av.cells ⟨R.2.er, R.2.e, ⟨xa, xn, xc⟩⟩)) (by kernel_rfl) (by kernel_rfl) ?_
         try simp only [pA, pB, p1, p2, p3]
         refine wp_takeW (.int .i64 0) (by kernel_rfl) (by kernel_rfl) ?_
         try simp only [pA, pB, p1, p2, p3]
         refine wp_runW (.pointer (some ⟨wk10.heap.size, 0, none⟩)) (wk10.alloc (.cells (Bv.cells bvZ) 25)) (exec_alloc 25 rfl (Bv.cells bvZ) zero25) (by kernel_rfl) ?_
         try simp only [pA, pB, p1, p2, p3]
         have HBE_s : Hid (OwE wk10 w.heap.size ⟨ba, bn, bc⟩ bes) := HBE
         have HBL_s : Hid (OwL wk10 w.heap.size ⟨la, ln, lc⟩ bls) := HBL
         have HAE_s : Hid (OwE wk10 w.heap.size ⟨aa, an, ac⟩ aes) := HAE
         have HAL_s : Hid (OwL wk10 w.heap.size ⟨ma, mn, mc⟩ als) := HAL
         have HNE_s : Hid (OwE wk10 w.heap.size ⟨qa, qn, qc⟩ R.1.es) := HNE
         have HNL_s : Hid (OwL wk10 w.heap.size ⟨ra, rn, rc⟩ R.1.ls) := HNL
         have HKs : Hid (Kept No wk10 wk10) := Kept.refl _ _
         have HG_gk11 : Hid (wk10.heap.size ≤ wk10.heap.size) := Nat.le_refl _
         have HBE : Hid (OwE (wk10.alloc (.cells (Bv.cells bvZ) 25)) w.heap.size ⟨ba, bn, bc⟩ bes) := HBE.out.no ((Kept.refl No _).alloc _)
         have HBL : Hid (OwL (wk10.alloc (.cells (Bv.cells bvZ) 25)) w.heap.size ⟨la, ln, lc⟩ bls) := HBL.out.no ((Kept.refl No _).alloc _)
         have HAE : Hid (OwE (wk10.alloc (.cells (Bv.cells bvZ) 25)) w.heap.size ⟨aa, an, ac⟩ aes) := HAE.out.no ((Kept.refl No _).alloc _)
         have HAL : Hid (OwL (wk10.alloc (.cells (Bv.cells bvZ) 25)) w.heap.size ⟨ma, mn, mc⟩ als) := HAL.out.no ((Kept.refl No _).alloc _)
         have HNE : Hid (OwE (wk10.alloc (.cells (Bv.cells bvZ) 25)) w.heap.size ⟨qa, qn, qc⟩ R.1.es) := HNE.out.no ((Kept.refl No _).alloc _)
         have HNL : Hid (OwL (wk10.alloc (.cells (Bv.cells bvZ) 25)) w.heap.size ⟨ra, rn, rc⟩ R.1.ls) := HNL.out.no ((Kept.refl No _).alloc _)
         have HKs : Hid (Kept No wk10 (wk10.alloc (.cells (Bv.cells bvZ) 25))) := HKs.out.no ((Kept.refl No _).alloc _)
         have HF : Hid (Fr No w (wk10.alloc (.cells (Bv.cells bvZ) 25)) [(gk1, 25, Bv.cells ⟨bu, ⟨ba, bn, bc⟩, ⟨la, ln, lc⟩⟩), (gk3, 25, Bv.cells ⟨au, ⟨aa, an, ac⟩, ⟨ma, mn, mc⟩⟩), (gk5, 29, Cm.cells x), (wk10.heap.size, 25, Bv.cells bvZ)]) := HF.out.alloc _ _
         generalize wk10.alloc (.cells (Bv.cells bvZ) 25) = wk12 at HF HBE HBL HAE HAL HNE HNL HKs ⊢
         obtain ⟨gk11, hg⟩ : ∃ g, g = wk10.heap.size := ⟨_, rfl⟩
         have HG_gk11 : Hid (wk10.heap.size ≤ gk11) := by show _ ≤ _; rw [hg]; exact HG_gk11.out
         rw [← hg] at HF ⊢
         clear hg
         refine wp_runW (.pointer (some ⟨wk12.heap.size, 0, none⟩)) (wk12.alloc (.cells (Av.cells avZ) 56)) (exec_alloc 56 rfl (Av.cells avZ) zero56) (by kernel_rfl) ?_
         try simp only [pA, pB, p1, p2, p3]
         have HG_gk13 : Hid (wk10.heap.size ≤ wk12.heap.size) := HKs.out.size
         have HBE : Hid (OwE (wk12.alloc (.cells (Av.cells avZ) 56)) w.heap.size ⟨ba, bn, bc⟩ bes) := HBE.out.no ((Kept.refl No _).alloc _)
         have HBL : Hid (OwL (wk12.alloc (.cells (Av.cells avZ) 56)) w.heap.size ⟨la, ln, lc⟩ bls) := HBL.out.no ((Kept.refl No _).alloc _)
         have HAE : Hid (OwE (wk12.alloc (.cells (Av.cells avZ) 56)) w.heap.size ⟨aa, an, ac⟩ aes) := HAE.out.no ((Kept.refl No _).alloc _)
         have HAL : Hid (OwL (wk12.alloc (.cells (Av.cells avZ) 56)) w.heap.size ⟨ma, mn, mc⟩ als) := HAL.out.no ((Kept.refl No _).alloc _)
         have HNE : Hid (OwE (wk12.alloc (.cells (Av.cells avZ) 56)) w.heap.size ⟨qa, qn, qc⟩ R.1.es) := HNE.out.no ((Kept.refl No _).alloc _)
         have HNL : Hid (OwL (wk12.alloc (.cells (Av.cells avZ) 56)) w.heap.size ⟨ra, rn, rc⟩ R.1.ls) := HNL.out.no ((Kept.refl No _).alloc _)
         have HKs : Hid (Kept No wk10 (wk12.alloc (.cells (Av.cells avZ) 56))) := HKs.out.no ((Kept.refl No _).alloc _)
         have HF : Hid (Fr No w (wk12.alloc (.cells (Av.cells avZ) 56)) [(gk1, 25, Bv.cells ⟨bu, ⟨ba, bn, bc⟩, ⟨la, ln, lc⟩⟩), (gk3, 25, Bv.cells ⟨au, ⟨aa, an, ac⟩, ⟨ma, mn, mc⟩⟩), (gk5, 29, Cm.cells x), (gk11, 25, Bv.cells bvZ), (wk12.heap.size, 56, Av.cells avZ)]) := HF.out.alloc _ _
         generalize wk12.alloc (.cells (Av.cells avZ) 56) = wk14 at HF HBE HBL HAE HAL HNE HNL HKs ⊢
         obtain ⟨gk13, hg⟩ : ∃ g, g = wk12.heap.size := ⟨_, rfl⟩
         have HG_gk13 : Hid (wk10.heap.size ≤ gk13) := by show _ ≤ _; rw [hg]; exact HG_gk13.out
         rw [← hg] at HF ⊢
         clear hg
         refine wp_storeW 25 _ _ rfl ⟨gk11, 0, none⟩ (.agg (Bv.cells ⟨R.1.up, ⟨qa, qn, qc⟩, ⟨ra, rn, rc⟩⟩)) (by kernel_rfl) (by kernel_rfl) (wk14.setRow gk11 (Bv.cells ⟨R.1.up, ⟨qa, qn, qc⟩, ⟨ra, rn, rc⟩⟩)) (st25 (HF.out.box 3 _ _ _ rfl) rfl) (by kernel_rfl) ?_
         try simp only [pA, pB, p1, p2, p3]
         have HBE : Hid (OwE (wk14.setRow gk11 (Bv.cells ⟨R.1.up, ⟨qa, qn, qc⟩, ⟨ra, rn, rc⟩⟩)) w.heap.size ⟨ba, bn, bc⟩ bes) := HBE_s.out.no (HKs.out.newRow HG_gk11.out _)
         have HBL : Hid (OwL (wk14.setRow gk11 (Bv.cells ⟨R.1.up, ⟨qa, qn, qc⟩, ⟨ra, rn, rc⟩⟩)) w.heap.size ⟨la, ln, lc⟩ bls) := HBL_s.out.no (HKs.out.newRow HG_gk11.out _)
         have HAE : Hid (OwE (wk14.setRow gk11 (Bv.cells ⟨R.1.up, ⟨qa, qn, qc⟩, ⟨ra, rn, rc⟩⟩)) w.heap.size ⟨aa, an, ac⟩ aes) := HAE_s.out.no (HKs.out.newRow HG_gk11.out _)
         have HAL : Hid (OwL (wk14.setRow gk11 (Bv.cells ⟨R.1.up, ⟨qa, qn, qc⟩, ⟨ra, rn, rc⟩⟩)) w.heap.size ⟨ma, mn, mc⟩ als) := HAL_s.out.no (HKs.out.newRow HG_gk11.out _)
         have HNE : Hid (OwE (wk14.setRow gk11 (Bv.cells ⟨R.1.up, ⟨qa, qn, qc⟩, ⟨ra, rn, rc⟩⟩)) w.heap.size ⟨qa, qn, qc⟩ R.1.es) := HNE_s.out.no (HKs.out.newRow HG_gk11.out _)
         have HNL : Hid (OwL (wk14.setRow gk11 (Bv.cells ⟨R.1.up, ⟨qa, qn, qc⟩, ⟨ra, rn, rc⟩⟩)) w.heap.size ⟨ra, rn, rc⟩ R.1.ls) := HNL_s.out.no (HKs.out.newRow HG_gk11.out _)
         have HKs : Hid (Kept No wk10 (wk14.setRow gk11 (Bv.cells ⟨R.1.up, ⟨qa, qn, qc⟩, ⟨ra, rn, rc⟩⟩))) := HKs.out.newRow HG_gk11.out _
         have HF : Hid (Fr No w (wk14.setRow gk11 (Bv.cells ⟨R.1.up, ⟨qa, qn, qc⟩, ⟨ra, rn, rc⟩⟩)) [(gk1, 25, Bv.cells ⟨bu, ⟨ba, bn, bc⟩, ⟨la, ln, lc⟩⟩), (gk3, 25, Bv.cells ⟨au, ⟨aa, an, ac⟩, ⟨ma, mn, mc⟩⟩), (gk5, 29, Cm.cells x), (gk11, 25, Bv.cells ⟨R.1.up, ⟨qa, qn, qc⟩, ⟨ra, rn, rc⟩⟩), (gk13, 56, Av.cells avZ)]) := HF.out.set 3 rfl _
         generalize wk14.setRow gk11 (Bv.cells ⟨R.1.up, ⟨qa, qn, qc⟩, ⟨ra, rn, rc⟩⟩) = wk15 at HF HBE HBL HAE HAL HNE HNL HKs ⊢
         refine wp_storeW 56 _ _ rfl ⟨gk13, 0, none⟩ (.agg (Av.cells ⟨R.2.er, R.2.e, ⟨xa, xn, xc⟩⟩)) (by kernel_rfl) (by kernel_rfl) (wk15.setRow gk13 (Av.cells ⟨R.2.er, R.2.e, ⟨xa, xn, xc⟩⟩)) (st56 (HF.out.box 4 _ _ _ rfl) rfl) (by kernel_rfl) ?_
         try simp only [pA, pB, p1, p2, p3]
         have HBE : Hid (OwE (wk15.setRow gk13 (Av.cells ⟨R.2.er, R.2.e, ⟨xa, xn, xc⟩⟩)) w.heap.size ⟨ba, bn, bc⟩ bes) := HBE_s.out.no (HKs.out.newRow HG_gk13.out _)
         have HBL : Hid (OwL (wk15.setRow gk13 (Av.cells ⟨R.2.er, R.2.e, ⟨xa, xn, xc⟩⟩)) w.heap.size ⟨la, ln, lc⟩ bls) := HBL_s.out.no (HKs.out.newRow HG_gk13.out _)
         have HAE : Hid (OwE (wk15.setRow gk13 (Av.cells ⟨R.2.er, R.2.e, ⟨xa, xn, xc⟩⟩)) w.heap.size ⟨aa, an, ac⟩ aes) := HAE_s.out.no (HKs.out.newRow HG_gk13.out _)
         have HAL : Hid (OwL (wk15.setRow gk13 (Av.cells ⟨R.2.er, R.2.e, ⟨xa, xn, xc⟩⟩)) w.heap.size ⟨ma, mn, mc⟩ als) := HAL_s.out.no (HKs.out.newRow HG_gk13.out _)
         have HNE : Hid (OwE (wk15.setRow gk13 (Av.cells ⟨R.2.er, R.2.e, ⟨xa, xn, xc⟩⟩)) w.heap.size ⟨qa, qn, qc⟩ R.1.es) := HNE_s.out.no (HKs.out.newRow HG_gk13.out _)
         have HNL : Hid (OwL (wk15.setRow gk13 (Av.cells ⟨R.2.er, R.2.e, ⟨xa, xn, xc⟩⟩)) w.heap.size ⟨ra, rn, rc⟩ R.1.ls) := HNL_s.out.no (HKs.out.newRow HG_gk13.out _)
         have HKs : Hid (Kept No wk10 (wk15.setRow gk13 (Av.cells ⟨R.2.er, R.2.e, ⟨xa, xn, xc⟩⟩))) := HKs.out.newRow HG_gk13.out _
         have HF : Hid (Fr No w (wk15.setRow gk13 (Av.cells ⟨R.2.er, R.2.e, ⟨xa, xn, xc⟩⟩)) [(gk1, 25, Bv.cells ⟨bu, ⟨ba, bn, bc⟩, ⟨la, ln, lc⟩⟩), (gk3, 25, Bv.cells ⟨au, ⟨aa, an, ac⟩, ⟨ma, mn, mc⟩⟩), (gk5, 29, Cm.cells x), (gk11, 25, Bv.cells ⟨R.1.up, ⟨qa, qn, qc⟩, ⟨ra, rn, rc⟩⟩), (gk13, 56, Av.cells ⟨R.2.er, R.2.e, ⟨xa, xn, xc⟩⟩)]) := HF.out.set 4 rfl _
         generalize wk15.setRow gk13 (Av.cells ⟨R.2.er, R.2.e, ⟨xa, xn, xc⟩⟩) = wk16 at HF HBE HBL HAE HAL HNE HNL HKs ⊢
         refine wp_takeW (.int .i64 0) (by kernel_rfl) (by kernel_rfl) ?_
         try simp only [pA, pB, p1, p2, p3]
         refine WL.nil ?_
         try simp only [pA, pB, p1, p2, p3]
         clear HKs HBE_s HBL_s HAE_s HAL_s HNE_s HNL_s HG_gk11 HG_gk13
         go_upto_region 9 with fail
         refine WL.start ?_
         refine wp_takeW (.int .i64 0) (by kernel_rfl) (by kernel_rfl) ?_
         try simp only [pA, pB, p1, p2, p3]
         refine wp_takeW (.bool false) (exec_bin .neq 46 _ _ _ rfl (.int .i64 0) (.int .i64 0) (.bool false) (by kernel_rfl) (by kernel_rfl) (by kernel_rfl) (by kernel_rfl)) (by kernel_rfl) ?_
         try simp only [pA, pB, p1, p2, p3]
         refine WL.nil ?_
         try simp only [pA, pB, p1, p2, p3]
         go_upto_region 11 with fail
         go_cut [9] from 56 to 61 (fun v9 wc => v9 = .bool (ro && !(R.2.er == 103)) ∧ wc = wk16)
         case first =>
          rename_i J0 K0 hJ0 hK0
          rcases ro with _ | _
          ·skip
           refine WL.start ?_
           refine wp_takeW (.bool false) (by kernel_rfl) (by kernel_rfl) ?_
           try simp only [pA, pB, p1, p2, p3]
           refine wp_takeW (.bool false) (by kernel_rfl) (by kernel_rfl) ?_
           try simp only [pA, pB, p1, p2, p3]
           refine wp_skip (by kernel_rfl) ?_
           try simp only [pA, pB, p1, p2, p3]
           refine wp_skip (by kernel_rfl) ?_
           try simp only [pA, pB, p1, p2, p3]
           refine wp_skip (by kernel_rfl) ?_
           try simp only [pA, pB, p1, p2, p3]
           refine wp_takeW (.bool false) (by kernel_rfl) (by kernel_rfl) ?_
           try simp only [pA, pB, p1, p2, p3]
           refine wp_takeW (.bool false) (by kernel_rfl) (by kernel_rfl) ?_
           try simp only [pA, pB, p1, p2, p3]
           refine WL.nil ?_
           try simp only [pA, pB, p1, p2, p3]
           refine hK0 _ _ (Met.intro (hJ0 _ _ ?_))
           (repeat apply Exists.intro)
           refine ⟨?_, rfl⟩
           exact ⟨rfl, rfl⟩
          ·skip
           refine WL.start ?_
           refine wp_takeW (.bool true) (by kernel_rfl) (by kernel_rfl) ?_
           try simp only [pA, pB, p1, p2, p3]
           refine wp_takeW (.bool true) (by kernel_rfl) (by kernel_rfl) ?_
           try simp only [pA, pB, p1, p2, p3]
           refine wp_takeW (.pointer (some ⟨gk13, 0, none⟩)) (by kernel_rfl) (by kernel_rfl) ?_
           try simp only [pA, pB, p1, p2, p3]
           refine wp_takeW (.int .i64 R.2.er) (exec_load 46 _ rfl ⟨gk13, 0, none⟩ (by kernel_rfl) (.int .i64 R.2.er) (ld46 ((HF.out.box 4 _ _ _ rfl).cell 0))) (by kernel_rfl) ?_
           try simp only [pA, pB, p1, p2, p3]
           cases q2 : (R.2.er == 103)
           ·skip
            refine wp_takeW (.bool true) (exec_bin .neq 46 _ _ _ rfl (.int .i64 R.2.er) (.int .i64 103) (.bool true) (by kernel_rfl) (by kernel_rfl) (by kernel_rfl) (by rw [b_neq46, q2]; try rfl)) (by kernel_rfl) ?_
            try simp only [pA, pB, p1, p2, p3]
            refine wp_takeW (.bool true) (by kernel_rfl) (by kernel_rfl) ?_
            try simp only [pA, pB, p1, p2, p3]
            refine wp_takeW (.bool true) (by kernel_rfl) (by kernel_rfl) ?_
            try simp only [pA, pB, p1, p2, p3]
            refine WL.nil ?_
            try simp only [pA, pB, p1, p2, p3]
            refine hK0 _ _ (Met.intro (hJ0 _ _ ?_))
            (repeat apply Exists.intro)
            refine ⟨?_, rfl⟩
            exact ⟨by rw [q2]; rfl, rfl⟩
           ·skip
            refine wp_takeW (.bool false) (exec_bin .neq 46 _ _ _ rfl (.int .i64 R.2.er) (.int .i64 103) (.bool false) (by kernel_rfl) (by kernel_rfl) (by kernel_rfl) (by rw [b_neq46, q2]; try rfl)) (by kernel_rfl) ?_
            try simp only [pA, pB, p1, p2, p3]
            refine wp_takeW (.bool false) (by kernel_rfl) (by kernel_rfl) ?_
            try simp only [pA, pB, p1, p2, p3]
            refine wp_takeW (.bool false) (by kernel_rfl) (by kernel_rfl) ?_
            try simp only [pA, pB, p1, p2, p3]
            refine WL.nil ?_
            try simp only [pA, pB, p1, p2, p3]
            refine hK0 _ _ (Met.intro (hJ0 _ _ ?_))
            (repeat apply Exists.intro)
            refine ⟨?_, rfl⟩
            exact ⟨by rw [q2]; rfl, rfl⟩
         case rest =>
          obtain ⟨rfl, rfl⟩ := hcut
          cases q3 : (eqN x.nm nm)
          ·skip
           go_upto_region 12 with fail
           refine WL.start ?_
           refine wp_takeW (.agg (Bv.cells ⟨bu, ⟨ba, bn, bc⟩, ⟨la, ln, lc⟩⟩)) (exec_load 25 _ rfl ⟨gk1, 0, none⟩ (by kernel_rfl) (.agg (Bv.cells ⟨bu, ⟨ba, bn, bc⟩, ⟨la, ln, lc⟩⟩)) (ld25 (HF.out.box 0 _ _ _ rfl))) (by kernel_rfl) ?_
           try simp only [pA, pB, p1, p2, p3]
           refine wp_takeW (.string nm) (by kernel_rfl) (by kernel_rfl) ?_
           try simp only [pA, pB, p1, p2, p3]
           refine wp_callW 24 #[.agg (Bv.cells ⟨bu, ⟨ba, bn, bc⟩, ⟨la, ln, lc⟩⟩), .string nm] (by kernel_rfl) _ (find_any bu ba bn bc ⟨la, ln, lc⟩ bes nm _ HBE.out.len (by omega) HBE.out.rd.row) (by kernel_rfl) ?_
           rintro e wk17 ⟨rfl, hk⟩
           have HBE : Hid (OwE (wk17) w.heap.size ⟨ba, bn, bc⟩ bes) := HBE.out.no hk
           have HBL : Hid (OwL (wk17) w.heap.size ⟨la, ln, lc⟩ bls) := HBL.out.no hk
           have HAE : Hid (OwE (wk17) w.heap.size ⟨aa, an, ac⟩ aes) := HAE.out.no hk
           have HAL : Hid (OwL (wk17) w.heap.size ⟨ma, mn, mc⟩ als) := HAL.out.no hk
           have HNE : Hid (OwE (wk17) w.heap.size ⟨qa, qn, qc⟩ R.1.es) := HNE.out.no hk
           have HNL : Hid (OwL (wk17) w.heap.size ⟨ra, rn, rc⟩ R.1.ls) := HNL.out.no hk
           have HF : Hid (Fr No w (wk17) [(gk1, 25, Bv.cells ⟨bu, ⟨ba, bn, bc⟩, ⟨la, ln, lc⟩⟩), (gk3, 25, Bv.cells ⟨au, ⟨aa, an, ac⟩, ⟨ma, mn, mc⟩⟩), (gk5, 29, Cm.cells x), (gk11, 25, Bv.cells ⟨R.1.up, ⟨qa, qn, qc⟩, ⟨ra, rn, rc⟩⟩), (gk13, 56, Av.cells ⟨R.2.er, R.2.e, ⟨xa, xn, xc⟩⟩)]) := HF.out.no hk
           clear hk
           refine ⟨.tuple #[.agg (En.cells (findE bes nm)), .bool (eIs bes nm)], rfl, ?_⟩
           try simp only [pA, pB, p1, p2, p3]
           refine wp_takeW (.tuple #[.agg (En.cells (findE bes nm)), .bool (eIs bes nm)]) (by kernel_rfl) (by kernel_rfl) ?_
           try simp only [pA, pB, p1, p2, p3]
           refine wp_takeW (.agg (En.cells (findE bes nm))) (by kernel_rfl) (by kernel_rfl) ?_
           try simp only [pA, pB, p1, p2, p3]
           refine wp_takeW (.bool (eIs bes nm)) (by kernel_rfl) (by kernel_rfl) ?_
           try simp only [pA, pB, p1, p2, p3]
           refine wp_runW (.pointer (some ⟨wk17.heap.size, 0, none⟩)) (wk17.alloc (.cells (En.cells enZ) 54)) (exec_alloc 54 rfl (En.cells enZ) zero54) (by kernel_rfl) ?_
           try simp only [pA, pB, p1, p2, p3]
           have HBE_s : Hid (OwE wk17 w.heap.size ⟨ba, bn, bc⟩ bes) := HBE
           have HBL_s : Hid (OwL wk17 w.heap.size ⟨la, ln, lc⟩ bls) := HBL
           have HAE_s : Hid (OwE wk17 w.heap.size ⟨aa, an, ac⟩ aes) := HAE
           have HAL_s : Hid (OwL wk17 w.heap.size ⟨ma, mn, mc⟩ als) := HAL
           have HNE_s : Hid (OwE wk17 w.heap.size ⟨qa, qn, qc⟩ R.1.es) := HNE
           have HNL_s : Hid (OwL wk17 w.heap.size ⟨ra, rn, rc⟩ R.1.ls) := HNL
           have HKs : Hid (Kept No wk17 wk17) := Kept.refl _ _
           have HG_gk18 : Hid (wk17.heap.size ≤ wk17.heap.size) := Nat.le_refl _
           have HBE : Hid (OwE (wk17.alloc (.cells (En.cells enZ) 54)) w.heap.size ⟨ba, bn, bc⟩ bes) := HBE.out.no ((Kept.refl No _).alloc _)
           have HBL : Hid (OwL (wk17.alloc (.cells (En.cells enZ) 54)) w.heap.size ⟨la, ln, lc⟩ bls) := HBL.out.no ((Kept.refl No _).alloc _)
           have HAE : Hid (OwE (wk17.alloc (.cells (En.cells enZ) 54)) w.heap.size ⟨aa, an, ac⟩ aes) := HAE.out.no ((Kept.refl No _).alloc _)
           have HAL : Hid (OwL (wk17.alloc (.cells (En.cells enZ) 54)) w.heap.size ⟨ma, mn, mc⟩ als) := HAL.out.no ((Kept.refl No _).alloc _)
           have HNE : Hid (OwE (wk17.alloc (.cells (En.cells enZ) 54)) w.heap.size ⟨qa, qn, qc⟩ R.1.es) := HNE.out.no ((Kept.refl No _).alloc _)
           have HNL : Hid (OwL (wk17.alloc (.cells (En.cells enZ) 54)) w.heap.size ⟨ra, rn, rc⟩ R.1.ls) := HNL.out.no ((Kept.refl No _).alloc _)
           have HKs : Hid (Kept No wk17 (wk17.alloc (.cells (En.cells enZ) 54))) := HKs.out.no ((Kept.refl No _).alloc _)
           have HF : Hid (Fr No w (wk17.alloc (.cells (En.cells enZ) 54)) [(gk1, 25, Bv.cells ⟨bu, ⟨ba, bn, bc⟩, ⟨la, ln, lc⟩⟩), (gk3, 25, Bv.cells ⟨au, ⟨aa, an, ac⟩, ⟨ma, mn, mc⟩⟩), (gk5, 29, Cm.cells x), (gk11, 25, Bv.cells ⟨R.1.up, ⟨qa, qn, qc⟩, ⟨ra, rn, rc⟩⟩), (gk13, 56, Av.cells ⟨R.2.er, R.2.e, ⟨xa, xn, xc⟩⟩), (wk17.heap.size, 54, En.cells enZ)]) := HF.out.alloc _ _
           generalize wk17.alloc (.cells (En.cells enZ) 54) = wk19 at HF HBE HBL HAE HAL HNE HNL HKs ⊢
           obtain ⟨gk18, hg⟩ : ∃ g, g = wk17.heap.size := ⟨_, rfl⟩
           have HG_gk18 : Hid (wk17.heap.size ≤ gk18) := by show _ ≤ _; rw [hg]; exact HG_gk18.out
           rw [← hg] at HF ⊢
           clear hg
           refine wp_storeW 54 _ _ rfl ⟨gk18, 0, none⟩ (.agg (En.cells (findE bes nm))) (by kernel_rfl) (by kernel_rfl) (wk19.setRow gk18 (En.cells (findE bes nm))) (st54 (HF.out.box 5 _ _ _ rfl) rfl) (by kernel_rfl) ?_
           try simp only [pA, pB, p1, p2, p3]
           have HBE : Hid (OwE (wk19.setRow gk18 (En.cells (findE bes nm))) w.heap.size ⟨ba, bn, bc⟩ bes) := HBE_s.out.no (HKs.out.newRow HG_gk18.out _)
           have HBL : Hid (OwL (wk19.setRow gk18 (En.cells (findE bes nm))) w.heap.size ⟨la, ln, lc⟩ bls) := HBL_s.out.no (HKs.out.newRow HG_gk18.out _)
           have HAE : Hid (OwE (wk19.setRow gk18 (En.cells (findE bes nm))) w.heap.size ⟨aa, an, ac⟩ aes) := HAE_s.out.no (HKs.out.newRow HG_gk18.out _)
           have HAL : Hid (OwL (wk19.setRow gk18 (En.cells (findE bes nm))) w.heap.size ⟨ma, mn, mc⟩ als) := HAL_s.out.no (HKs.out.newRow HG_gk18.out _)
           have HNE : Hid (OwE (wk19.setRow gk18 (En.cells (findE bes nm))) w.heap.size ⟨qa, qn, qc⟩ R.1.es) := HNE_s.out.no (HKs.out.newRow HG_gk18.out _)
           have HNL : Hid (OwL (wk19.setRow gk18 (En.cells (findE bes nm))) w.heap.size ⟨ra, rn, rc⟩ R.1.ls) := HNL_s.out.no (HKs.out.newRow HG_gk18.out _)
           have HKs : Hid (Kept No wk17 (wk19.setRow gk18 (En.cells (findE bes nm)))) := HKs.out.newRow HG_gk18.out _
           have HF : Hid (Fr No w (wk19.setRow gk18 (En.cells (findE bes nm))) [(gk1, 25, Bv.cells ⟨bu, ⟨ba, bn, bc⟩, ⟨la, ln, lc⟩⟩), (gk3, 25, Bv.cells ⟨au, ⟨aa, an, ac⟩, ⟨ma, mn, mc⟩⟩), (gk5, 29, Cm.cells x), (gk11, 25, Bv.cells ⟨R.1.up, ⟨qa, qn, qc⟩, ⟨ra, rn, rc⟩⟩), (gk13, 56, Av.cells ⟨R.2.er, R.2.e, ⟨xa, xn, xc⟩⟩), (gk18, 54, En.cells (findE bes nm))]) := HF.out.set 5 rfl _
           generalize wk19.setRow gk18 (En.cells (findE bes nm)) = wk20 at HF HBE HBL HAE HAL HNE HNL HKs ⊢
           refine wp_takeW (.bool (eIs bes nm)) (by kernel_rfl) (by kernel_rfl) ?_
           try simp only [pA, pB, p1, p2, p3]
           refine WL.nil ?_
           try simp only [pA, pB, p1, p2, p3]
           clear HKs HBE_s HBL_s HAE_s HAL_s HNE_s HNL_s HG_gk18
           go_upto_region 13 with fail
           refine WL.start ?_
           refine wp_takeW (.agg (Bv.cells ⟨R.1.up, ⟨qa, qn, qc⟩, ⟨ra, rn, rc⟩⟩)) (exec_load 25 _ rfl ⟨gk11, 0, none⟩ (by kernel_rfl) (.agg (Bv.cells ⟨R.1.up, ⟨qa, qn, qc⟩, ⟨ra, rn, rc⟩⟩)) (ld25 (HF.out.box 3 _ _ _ rfl))) (by kernel_rfl) ?_
           try simp only [pA, pB, p1, p2, p3]
           refine wp_takeW (.string nm) (by kernel_rfl) (by kernel_rfl) ?_
           try simp only [pA, pB, p1, p2, p3]
           refine wp_callW 24 #[.agg (Bv.cells ⟨R.1.up, ⟨qa, qn, qc⟩, ⟨ra, rn, rc⟩⟩), .string nm] (by kernel_rfl) _ (find_any R.1.up qa qn qc ⟨ra, rn, rc⟩ R.1.es nm _ HNE.out.len (by omega) HNE.out.rd.row) (by kernel_rfl) ?_
           rintro e wk21 ⟨rfl, hk⟩
           have HBE : Hid (OwE (wk21) w.heap.size ⟨ba, bn, bc⟩ bes) := HBE.out.no hk
           have HBL : Hid (OwL (wk21) w.heap.size ⟨la, ln, lc⟩ bls) := HBL.out.no hk
           have HAE : Hid (OwE (wk21) w.heap.size ⟨aa, an, ac⟩ aes) := HAE.out.no hk
           have HAL : Hid (OwL (wk21) w.heap.size ⟨ma, mn, mc⟩ als) := HAL.out.no hk
           have HNE : Hid (OwE (wk21) w.heap.size ⟨qa, qn, qc⟩ R.1.es) := HNE.out.no hk
           have HNL : Hid (OwL (wk21) w.heap.size ⟨ra, rn, rc⟩ R.1.ls) := HNL.out.no hk
           have HF : Hid (Fr No w (wk21) [(gk1, 25, Bv.cells ⟨bu, ⟨ba, bn, bc⟩, ⟨la, ln, lc⟩⟩), (gk3, 25, Bv.cells ⟨au, ⟨aa, an, ac⟩, ⟨ma, mn, mc⟩⟩), (gk5, 29, Cm.cells x), (gk11, 25, Bv.cells ⟨R.1.up, ⟨qa, qn, qc⟩, ⟨ra, rn, rc⟩⟩), (gk13, 56, Av.cells ⟨R.2.er, R.2.e, ⟨xa, xn, xc⟩⟩), (gk18, 54, En.cells (findE bes nm))]) := HF.out.no hk
           clear hk
           refine ⟨.tuple #[.agg (En.cells (findE bes nm)), .bool (eIs bes nm)], by rw [(HES.out q3).1, (HES.out q3).2], ?_⟩
           try simp only [pA, pB, p1, p2, p3]
           refine wp_takeW (.tuple #[.agg (En.cells (findE bes nm)), .bool (eIs bes nm)]) (by kernel_rfl) (by kernel_rfl) ?_
           try simp only [pA, pB, p1, p2, p3]
           refine wp_takeW (.agg (En.cells (findE bes nm))) (by kernel_rfl) (by kernel_rfl) ?_
           try simp only [pA, pB, p1, p2, p3]
           refine wp_takeW (.bool (eIs bes nm)) (by kernel_rfl) (by kernel_rfl) ?_
           try simp only [pA, pB, p1, p2, p3]
           refine wp_runW (.pointer (some ⟨wk21.heap.size, 0, none⟩)) (wk21.alloc (.cells (En.cells enZ) 54)) (exec_alloc 54 rfl (En.cells enZ) zero54) (by kernel_rfl) ?_
           try simp only [pA, pB, p1, p2, p3]
           have HBE_s : Hid (OwE wk21 w.heap.size ⟨ba, bn, bc⟩ bes) := HBE
           have HBL_s : Hid (OwL wk21 w.heap.size ⟨la, ln, lc⟩ bls) := HBL
           have HAE_s : Hid (OwE wk21 w.heap.size ⟨aa, an, ac⟩ aes) := HAE
           have HAL_s : Hid (OwL wk21 w.heap.size ⟨ma, mn, mc⟩ als) := HAL
           have HNE_s : Hid (OwE wk21 w.heap.size ⟨qa, qn, qc⟩ R.1.es) := HNE
           have HNL_s : Hid (OwL wk21 w.heap.size ⟨ra, rn, rc⟩ R.1.ls) := HNL
           have HKs : Hid (Kept No wk21 wk21) := Kept.refl _ _
           have HG_gk22 : Hid (wk21.heap.size ≤ wk21.heap.size) := Nat.le_refl _
           have HBE : Hid (OwE (wk21.alloc (.cells (En.cells enZ) 54)) w.heap.size ⟨ba, bn, bc⟩ bes) := HBE.out.no ((Kept.refl No _).alloc _)
           have HBL : Hid (OwL (wk21.alloc (.cells (En.cells enZ) 54)) w.heap.size ⟨la, ln, lc⟩ bls) := HBL.out.no ((Kept.refl No _).alloc _)
           have HAE : Hid (OwE (wk21.alloc (.cells (En.cells enZ) 54)) w.heap.size ⟨aa, an, ac⟩ aes) := HAE.out.no ((Kept.refl No _).alloc _)
           have HAL : Hid (OwL (wk21.alloc (.cells (En.cells enZ) 54)) w.heap.size ⟨ma, mn, mc⟩ als) := HAL.out.no ((Kept.refl No _).alloc _)
           have HNE : Hid (OwE (wk21.alloc (.cells (En.cells enZ) 54)) w.heap.size ⟨qa, qn, qc⟩ R.1.es) := HNE.out.no ((Kept.refl No _).alloc _)
           have HNL : Hid (OwL (wk21.alloc (.cells (En.cells enZ) 54)) w.heap.size ⟨ra, rn, rc⟩ R.1.ls) := HNL.out.no ((Kept.refl No _).alloc _)
           have HKs : Hid (Kept No wk21 (wk21.alloc (.cells (En.cells enZ) 54))) := HKs.out.no ((Kept.refl No _).alloc _)
           have HF : Hid (Fr No w (wk21.alloc (.cells (En.cells enZ) 54)) [(gk1, 25, Bv.cells ⟨bu, ⟨ba, bn, bc⟩, ⟨la, ln, lc⟩⟩), (gk3, 25, Bv.cells ⟨au, ⟨aa, an, ac⟩, ⟨ma, mn, mc⟩⟩), (gk5, 29, Cm.cells x), (gk11, 25, Bv.cells ⟨R.1.up, ⟨qa, qn, qc⟩, ⟨ra, rn, rc⟩⟩), (gk13, 56, Av.cells ⟨R.2.er, R.2.e, ⟨xa, xn, xc⟩⟩), (gk18, 54, En.cells (findE bes nm)), (wk21.heap.size, 54, En.cells enZ)]) := HF.out.alloc _ _
           generalize wk21.alloc (.cells (En.cells enZ) 54) = wk23 at HF HBE HBL HAE HAL HNE HNL HKs ⊢
           obtain ⟨gk22, hg⟩ : ∃ g, g = wk21.heap.size := ⟨_, rfl⟩
           have HG_gk22 : Hid (wk21.heap.size ≤ gk22) := by show _ ≤ _; rw [hg]; exact HG_gk22.out
           rw [← hg] at HF ⊢
           clear hg
           refine wp_storeW 54 _ _ rfl ⟨gk22, 0, none⟩ (.agg (En.cells (findE bes nm))) (by kernel_rfl) (by kernel_rfl) (wk23.setRow gk22 (En.cells (findE bes nm))) (st54 (HF.out.box 6 _ _ _ rfl) rfl) (by kernel_rfl) ?_
           try simp only [pA, pB, p1, p2, p3]
           have HBE : Hid (OwE (wk23.setRow gk22 (En.cells (findE bes nm))) w.heap.size ⟨ba, bn, bc⟩ bes) := HBE_s.out.no (HKs.out.newRow HG_gk22.out _)
           have HBL : Hid (OwL (wk23.setRow gk22 (En.cells (findE bes nm))) w.heap.size ⟨la, ln, lc⟩ bls) := HBL_s.out.no (HKs.out.newRow HG_gk22.out _)
           have HAE : Hid (OwE (wk23.setRow gk22 (En.cells (findE bes nm))) w.heap.size ⟨aa, an, ac⟩ aes) := HAE_s.out.no (HKs.out.newRow HG_gk22.out _)
           have HAL : Hid (OwL (wk23.setRow gk22 (En.cells (findE bes nm))) w.heap.size ⟨ma, mn, mc⟩ als) := HAL_s.out.no (HKs.out.newRow HG_gk22.out _)
           have HNE : Hid (OwE (wk23.setRow gk22 (En.cells (findE bes nm))) w.heap.size ⟨qa, qn, qc⟩ R.1.es) := HNE_s.out.no (HKs.out.newRow HG_gk22.out _)
           have HNL : Hid (OwL (wk23.setRow gk22 (En.cells (findE bes nm))) w.heap.size ⟨ra, rn, rc⟩ R.1.ls) := HNL_s.out.no (HKs.out.newRow HG_gk22.out _)
           have HKs : Hid (Kept No wk21 (wk23.setRow gk22 (En.cells (findE bes nm)))) := HKs.out.newRow HG_gk22.out _
           have HF : Hid (Fr No w (wk23.setRow gk22 (En.cells (findE bes nm))) [(gk1, 25, Bv.cells ⟨bu, ⟨ba, bn, bc⟩, ⟨la, ln, lc⟩⟩), (gk3, 25, Bv.cells ⟨au, ⟨aa, an, ac⟩, ⟨ma, mn, mc⟩⟩), (gk5, 29, Cm.cells x), (gk11, 25, Bv.cells ⟨R.1.up, ⟨qa, qn, qc⟩, ⟨ra, rn, rc⟩⟩), (gk13, 56, Av.cells ⟨R.2.er, R.2.e, ⟨xa, xn, xc⟩⟩), (gk18, 54, En.cells (findE bes nm)), (gk22, 54, En.cells (findE bes nm))]) := HF.out.set 6 rfl _
           generalize wk23.setRow gk22 (En.cells (findE bes nm)) = wk24 at HF HBE HBL HAE HAL HNE HNL HKs ⊢
           refine wp_takeW (.bool (eIs bes nm)) (by kernel_rfl) (by kernel_rfl) ?_
           try simp only [pA, pB, p1, p2, p3]
           refine WL.nil ?_
           try simp only [pA, pB, p1, p2, p3]
           clear HKs HBE_s HBL_s HAE_s HAL_s HNE_s HNL_s HG_gk22
           go_upto_region 14 with fail
           refine WL.start ?_
           refine wp_takeW (.pointer (some ⟨gk5, 3, none⟩)) (by kernel_rfl) (by kernel_rfl) ?_
           try simp only [pA, pB, p1, p2, p3]
           refine wp_takeW (.string x.nm) (exec_load 9 _ rfl ⟨gk5, 3, none⟩ (by kernel_rfl) (.string x.nm) (ld9 ((HF.out.box 2 _ _ _ rfl).cell 3))) (by kernel_rfl) ?_
           try simp only [pA, pB, p1, p2, p3]
           refine wp_takeW (.string nm) (by kernel_rfl) (by kernel_rfl) ?_
           try simp only [pA, pB, p1, p2, p3]
           refine wp_takeW (.bool true) (exec_bin .neq 9 _ _ _ rfl (.string x.nm) (.string nm) (.bool true) (by kernel_rfl) (by kernel_rfl) (by kernel_rfl) (by rw [eqN_neq, q3]; try rfl)) (by kernel_rfl) ?_
           try simp only [pA, pB, p1, p2, p3]
           refine wp_takeW (.bool true) (by kernel_rfl) (by kernel_rfl) ?_
           try simp only [pA, pB, p1, p2, p3]
           refine wp_takeW (.bool (eIs bes nm)) (by kernel_rfl) (by kernel_rfl) ?_
           try simp only [pA, pB, p1, p2, p3]
           refine wp_takeW (.bool (eIs bes nm)) (by kernel_rfl) (by kernel_rfl) ?_
           try simp only [pA, pB, p1, p2, p3]
           refine wp_takeW (.bool false) (exec_bin .neq 4 _ _ _ rfl (.bool (eIs bes nm)) (.bool (eIs bes nm)) (.bool false) (by kernel_rfl) (by kernel_rfl) (by kernel_rfl) (b_neqB _ _)) (by kernel_rfl) ?_
           try simp only [pA, pB, p1, p2, p3]
           refine wp_takeW (.bool false) (by kernel_rfl) (by kernel_rfl) ?_
           try simp only [pA, pB, p1, p2, p3]
           refine wp_takeW (.agg (En.cells (findE bes nm))) (exec_load 54 _ rfl ⟨gk18, 0, none⟩ (by kernel_rfl) (.agg (En.cells (findE bes nm))) (ld54 (HF.out.box 5 _ _ _ rfl))) (by kernel_rfl) ?_
           try simp only [pA, pB, p1, p2, p3]
           refine wp_takeW (.agg (En.cells (findE bes nm))) (exec_load 54 _ rfl ⟨gk22, 0, none⟩ (by kernel_rfl) (.agg (En.cells (findE bes nm))) (ld54 (HF.out.box 6 _ _ _ rfl))) (by kernel_rfl) ?_
           try simp only [pA, pB, p1, p2, p3]
           refine wp_takeW (.bool false) (exec_bin .neq 54 _ _ _ rfl (.agg (En.cells (findE bes nm))) (.agg (En.cells (findE bes nm))) (.bool false) (by kernel_rfl) (by kernel_rfl) (by kernel_rfl) (by rw [eqE_neq, eqE_iff.2 rfl]; rfl)) (by kernel_rfl) ?_
           try simp only [pA, pB, p1, p2, p3]
           refine wp_takeW (.bool false) (by kernel_rfl) (by kernel_rfl) ?_
           try simp only [pA, pB, p1, p2, p3]
           refine wp_takeW (.bool false) (by kernel_rfl) (by kernel_rfl) ?_
           try simp only [pA, pB, p1, p2, p3]
           refine WL.nil ?_
           try simp only [pA, pB, p1, p2, p3]
           go_upto_region 16 with fail
           refine WL.start ?_
           refine wp_takeW (.int .i64 1) (by kernel_rfl) (by kernel_rfl) ?_
           try simp only [pA, pB, p1, p2, p3]
           refine WL.nil ?_
           try simp only [pA, pB, p1, p2, p3]
           go_wp2
           go_loopw [19] (fun v19 wr => ∃ (j : Nat), v19 = .int .i64 ((j : Nat) : Int) ∧ 1 ≤ j ∧ j ≤ 7 ∧ Hid (Fr No w wr [(gk1, 25, Bv.cells ⟨bu, ⟨ba, bn, bc⟩, ⟨la, ln, lc⟩⟩), (gk3, 25, Bv.cells ⟨au, ⟨aa, an, ac⟩, ⟨ma, mn, mc⟩⟩), (gk5, 29, Cm.cells x), (gk11, 25, Bv.cells ⟨R.1.up, ⟨qa, qn, qc⟩, ⟨ra, rn, rc⟩⟩), (gk13, 56, Av.cells ⟨R.2.er, R.2.e, ⟨xa, xn, xc⟩⟩), (gk18, 54, En.cells (findE bes nm)), (gk22, 54, En.cells (findE bes nm))]) ∧ Hid (OwE wr w.heap.size ⟨ba, bn, bc⟩ bes) ∧ Hid (OwL wr w.heap.size ⟨la, ln, lc⟩ bls) ∧ Hid (OwE wr w.heap.size ⟨aa, an, ac⟩ aes) ∧ Hid (OwL wr w.heap.size ⟨ma, mn, mc⟩ als) ∧ Hid (OwE wr w.heap.size ⟨qa, qn, qc⟩ R.1.es) ∧ Hid (OwL wr w.heap.size ⟨ra, rn, rc⟩ R.1.ls)) (fun i _ => 7 - (intOf i).toNat)
           case atStart => exact ⟨1, by go_num, by omega, by omega, HF, HBE, HBL, HAE, HAL, HNE, HNL⟩
           case round =>
             obtain ⟨j, rfl, hj1, hj2, HF, HBE, HBL, HAE, HAL, HNE, HNL⟩ := hrel
             by_cases hj6 : j ≤ 6
             · skip
               go_upto_region 17 with fail
               refine WL.start ?_
               refine wp_takeW (.int .i64 ((j : Nat) : Int)) (by kernel_rfl) (by kernel_rfl) ?_
               try simp only [pA, pB, p1, p2, p3]
               refine wp_takeW (.bool true) (exec_bin .leq 3 _ _ _ rfl (.int .i64 ((j : Nat) : Int)) (.int .i64 6) (.bool true) (by kernel_rfl) (by kernel_rfl) (by kernel_rfl) (by rw [b_leq, decide_eq_true (by omega)])) (by kernel_rfl) ?_
               try simp only [pA, pB, p1, p2, p3]
               refine WL.nil ?_
               try simp only [pA, pB, p1, p2, p3]
               go_upto_region 19 with fail
               refine WL.start ?_
               refine wp_takeW (.agg (Bv.cells ⟨bu, ⟨ba, bn, bc⟩, ⟨la, ln, lc⟩⟩)) (exec_load 25 _ rfl ⟨gk1, 0, none⟩ (by kernel_rfl) (.agg (Bv.cells ⟨bu, ⟨ba, bn, bc⟩, ⟨la, ln, lc⟩⟩)) (ld25 (HF.out.box 0 _ _ _ rfl))) (by kernel_rfl) ?_
               try simp only [pA, pB, p1, p2, p3]
               refine wp_takeW (.int .i64 ((j : Nat) : Int)) (by kernel_rfl) (by kernel_rfl) ?_
               try simp only [pA, pB, p1, p2, p3]
               refine wp_callW 25 #[.agg (Bv.cells ⟨bu, ⟨ba, bn, bc⟩, ⟨la, ln, lc⟩⟩), .int .i64 ((j : Nat) : Int)] (by kernel_rfl) _ (last_any bu la ln lc ⟨ba, bn, bc⟩ bls ((j : Nat) : Int) _ HBL.out.len (by omega) HBL.out.rd.row) (by kernel_rfl) ?_
               rintro e wk25 ⟨rfl, hk⟩
               have HBE : Hid (OwE (wk25) w.heap.size ⟨ba, bn, bc⟩ bes) := HBE.out.no hk
               have HBL : Hid (OwL (wk25) w.heap.size ⟨la, ln, lc⟩ bls) := HBL.out.no hk
               have HAE : Hid (OwE (wk25) w.heap.size ⟨aa, an, ac⟩ aes) := HAE.out.no hk
               have HAL : Hid (OwL (wk25) w.heap.size ⟨ma, mn, mc⟩ als) := HAL.out.no hk
               have HNE : Hid (OwE (wk25) w.heap.size ⟨qa, qn, qc⟩ R.1.es) := HNE.out.no hk
               have HNL : Hid (OwL (wk25) w.heap.size ⟨ra, rn, rc⟩ R.1.ls) := HNL.out.no hk
               have HF : Hid (Fr No w (wk25) [(gk1, 25, Bv.cells ⟨bu, ⟨ba, bn, bc⟩, ⟨la, ln, lc⟩⟩), (gk3, 25, Bv.cells ⟨au, ⟨aa, an, ac⟩, ⟨ma, mn, mc⟩⟩), (gk5, 29, Cm.cells x), (gk11, 25, Bv.cells ⟨R.1.up, ⟨qa, qn, qc⟩, ⟨ra, rn, rc⟩⟩), (gk13, 56, Av.cells ⟨R.2.er, R.2.e, ⟨xa, xn, xc⟩⟩), (gk18, 54, En.cells (findE bes nm)), (gk22, 54, En.cells (findE bes nm))]) := HF.out.no hk
               clear hk
               refine ⟨.tuple #[.agg (La.cells (findL bls ((j : Nat) : Int))), .bool (lIs bls ((j : Nat) : Int))], rfl, ?_⟩
               try simp only [pA, pB, p1, p2, p3]
               refine wp_takeW (.tuple #[.agg (La.cells (findL bls ((j : Nat) : Int))), .bool (lIs bls ((j : Nat) : Int))]) (by kernel_rfl) (by kernel_rfl) ?_
               try simp only [pA, pB, p1, p2, p3]
               refine wp_takeW (.agg (La.cells (findL bls ((j : Nat) : Int)))) (by kernel_rfl) (by kernel_rfl) ?_
               try simp only [pA, pB, p1, p2, p3]
               refine wp_takeW (.bool (lIs bls ((j : Nat) : Int))) (by kernel_rfl) (by kernel_rfl) ?_
               try simp only [pA, pB, p1, p2, p3]
               refine wp_runW (.pointer (some ⟨wk25.heap.size, 0, none⟩)) (wk25.alloc (.cells (La.cells laZ) 64)) (exec_alloc 64 rfl (La.cells laZ) zero64) (by kernel_rfl) ?_
               try simp only [pA, pB, p1, p2, p3]
               have HBE_s : Hid (OwE wk25 w.heap.size ⟨ba, bn, bc⟩ bes) := HBE
               have HBL_s : Hid (OwL wk25 w.heap.size ⟨la, ln, lc⟩ bls) := HBL
               have HAE_s : Hid (OwE wk25 w.heap.size ⟨aa, an, ac⟩ aes) := HAE
               have HAL_s : Hid (OwL wk25 w.heap.size ⟨ma, mn, mc⟩ als) := HAL
               have HNE_s : Hid (OwE wk25 w.heap.size ⟨qa, qn, qc⟩ R.1.es) := HNE
               have HNL_s : Hid (OwL wk25 w.heap.size ⟨ra, rn, rc⟩ R.1.ls) := HNL
               have HKs : Hid (Kept No wk25 wk25) := Kept.refl _ _
               have HG_gk26 : Hid (wk25.heap.size ≤ wk25.heap.size) := Nat.le_refl _
               have HBE : Hid (OwE (wk25.alloc (.cells (La.cells laZ) 64)) w.heap.size ⟨ba, bn, bc⟩ bes) := HBE.out.no ((Kept.refl No _).alloc _)
               have HBL : Hid (OwL (wk25.alloc (.cells (La.cells laZ) 64)) w.heap.size ⟨la, ln, lc⟩ bls) := HBL.out.no ((Kept.refl No _).alloc _)
               have HAE : Hid (OwE (wk25.alloc (.cells (La.cells laZ) 64)) w.heap.size ⟨aa, an, ac⟩ aes) := HAE.out.no ((Kept.refl No _).alloc _)
               have HAL : Hid (OwL (wk25.alloc (.cells (La.cells laZ) 64)) w.heap.size ⟨ma, mn, mc⟩ als) := HAL.out.no ((Kept.refl No _).alloc _)
               have HNE : Hid (OwE (wk25.alloc (.cells (La.cells laZ) 64)) w.heap.size ⟨qa, qn, qc⟩ R.1.es) := HNE.out.no ((Kept.refl No _).alloc _)
               have HNL : Hid (OwL (wk25.alloc (.cells (La.cells laZ) 64)) w.heap.size ⟨ra, rn, rc⟩ R.1.ls) := HNL.out.no ((Kept.refl No _).alloc _)
               have HKs : Hid (Kept No wk25 (wk25.alloc (.cells (La.cells laZ) 64))) := HKs.out.no ((Kept.refl No _).alloc _)
               have HF : Hid (Fr No w (wk25.alloc (.cells (La.cells laZ) 64)) [(gk1, 25, Bv.cells ⟨bu, ⟨ba, bn, bc⟩, ⟨la, ln, lc⟩⟩), (gk3, 25, Bv.cells ⟨au, ⟨aa, an, ac⟩, ⟨ma, mn, mc⟩⟩), (gk5, 29, Cm.cells x), (gk11, 25, Bv.cells ⟨R.1.up, ⟨qa, qn, qc⟩, ⟨ra, rn, rc⟩⟩), (gk13, 56, Av.cells ⟨R.2.er, R.2.e, ⟨xa, xn, xc⟩⟩), (gk18, 54, En.cells (findE bes nm)), (gk22, 54, En.cells (findE bes nm)), (wk25.heap.size, 64, La.cells laZ)]) := HF.out.alloc _ _
               generalize wk25.alloc (.cells (La.cells laZ) 64) = wk27 at HF HBE HBL HAE HAL HNE HNL HKs ⊢
               obtain ⟨gk26, hg⟩ : ∃ g, g = wk25.heap.size := ⟨_, rfl⟩
               have HG_gk26 : Hid (wk25.heap.size ≤ gk26) := by show _ ≤ _; rw [hg]; exact HG_gk26.out
               rw [← hg] at HF ⊢
               clear hg
               refine wp_storeW 64 _ _ rfl ⟨gk26, 0, none⟩ (.agg (La.cells (findL bls ((j : Nat) : Int)))) (by kernel_rfl) (by kernel_rfl) (wk27.setRow gk26 (La.cells (findL bls ((j : Nat) : Int)))) (st64 (HF.out.box 7 _ _ _ rfl) rfl) (by kernel_rfl) ?_
               try simp only [pA, pB, p1, p2, p3]
               have HBE : Hid (OwE (wk27.setRow gk26 (La.cells (findL bls ((j : Nat) : Int)))) w.heap.size ⟨ba, bn, bc⟩ bes) := HBE_s.out.no (HKs.out.newRow HG_gk26.out _)
               have HBL : Hid (OwL (wk27.setRow gk26 (La.cells (findL bls ((j : Nat) : Int)))) w.heap.size ⟨la, ln, lc⟩ bls) := HBL_s.out.no (HKs.out.newRow HG_gk26.out _)
               have HAE : Hid (OwE (wk27.setRow gk26 (La.cells (findL bls ((j : Nat) : Int)))) w.heap.size ⟨aa, an, ac⟩ aes) := HAE_s.out.no (HKs.out.newRow HG_gk26.out _)
               have HAL : Hid (OwL (wk27.setRow gk26 (La.cells (findL bls ((j : Nat) : Int)))) w.heap.size ⟨ma, mn, mc⟩ als) := HAL_s.out.no (HKs.out.newRow HG_gk26.out _)
               have HNE : Hid (OwE (wk27.setRow gk26 (La.cells (findL bls ((j : Nat) : Int)))) w.heap.size ⟨qa, qn, qc⟩ R.1.es) := HNE_s.out.no (HKs.out.newRow HG_gk26.out _)
               have HNL : Hid (OwL (wk27.setRow gk26 (La.cells (findL bls ((j : Nat) : Int)))) w.heap.size ⟨ra, rn, rc⟩ R.1.ls) := HNL_s.out.no (HKs.out.newRow HG_gk26.out _)
               have HKs : Hid (Kept No wk25 (wk27.setRow gk26 (La.cells (findL bls ((j : Nat) : Int))))) := HKs.out.newRow HG_gk26.out _
               have HF : Hid (Fr No w (wk27.setRow gk26 (La.cells (findL bls ((j : Nat) : Int)))) [(gk1, 25, Bv.cells ⟨bu, ⟨ba, bn, bc⟩, ⟨la, ln, lc⟩⟩), (gk3, 25, Bv.cells ⟨au, ⟨aa, an, ac⟩, ⟨ma, mn, mc⟩⟩), (gk5, 29, Cm.cells x), (gk11, 25, Bv.cells ⟨R.1.up, ⟨qa, qn, qc⟩, ⟨ra, rn, rc⟩⟩), (gk13, 56, Av.cells ⟨R.2.er, R.2.e, ⟨xa, xn, xc⟩⟩), (gk18, 54, En.cells (findE bes nm)), (gk22, 54, En.cells (findE bes nm)), (gk26, 64, La.cells (findL bls ((j : Nat) : Int)))]) := HF.out.set 7 rfl _
               generalize wk27.setRow gk26 (La.cells (findL bls ((j : Nat) : Int))) = wk28 at HF HBE HBL HAE HAL HNE HNL HKs ⊢
               refine wp_takeW (.bool (lIs bls ((j : Nat) : Int))) (by kernel_rfl) (by kernel_rfl) ?_
               try simp only [pA, pB, p1, p2, p3]
               refine WL.nil ?_
               try simp only [pA, pB, p1, p2, p3]
               clear HKs HBE_s HBL_s HAE_s HAL_s HNE_s HNL_s HG_gk26
               go_upto_region 20 with fail
               refine WL.start ?_
               refine wp_takeW (.agg (Bv.cells ⟨R.1.up, ⟨qa, qn, qc⟩, ⟨ra, rn, rc⟩⟩)) (exec_load 25 _ rfl ⟨gk11, 0, none⟩ (by kernel_rfl) (.agg (Bv.cells ⟨R.1.up, ⟨qa, qn, qc⟩, ⟨ra, rn, rc⟩⟩)) (ld25 (HF.out.box 3 _ _ _ rfl))) (by kernel_rfl) ?_
               try simp only [pA, pB, p1, p2, p3]
               refine wp_takeW (.int .i64 ((j : Nat) : Int)) (by kernel_rfl) (by kernel_rfl) ?_
               try simp only [pA, pB, p1, p2, p3]
               refine wp_callW 25 #[.agg (Bv.cells ⟨R.1.up, ⟨qa, qn, qc⟩, ⟨ra, rn, rc⟩⟩), .int .i64 ((j : Nat) : Int)] (by kernel_rfl) _ (last_any R.1.up ra rn rc ⟨qa, qn, qc⟩ R.1.ls ((j : Nat) : Int) _ HNL.out.len (by omega) HNL.out.rd.row) (by kernel_rfl) ?_
               rintro e wk29 ⟨rfl, hk⟩
               have HBE : Hid (OwE (wk29) w.heap.size ⟨ba, bn, bc⟩ bes) := HBE.out.no hk
               have HBL : Hid (OwL (wk29) w.heap.size ⟨la, ln, lc⟩ bls) := HBL.out.no hk
               have HAE : Hid (OwE (wk29) w.heap.size ⟨aa, an, ac⟩ aes) := HAE.out.no hk
               have HAL : Hid (OwL (wk29) w.heap.size ⟨ma, mn, mc⟩ als) := HAL.out.no hk
               have HNE : Hid (OwE (wk29) w.heap.size ⟨qa, qn, qc⟩ R.1.es) := HNE.out.no hk
               have HNL : Hid (OwL (wk29) w.heap.size ⟨ra, rn, rc⟩ R.1.ls) := HNL.out.no hk
               have HF : Hid (Fr No w (wk29) [(gk1, 25, Bv.cells ⟨bu, ⟨ba, bn, bc⟩, ⟨la, ln, lc⟩⟩), (gk3, 25, Bv.cells ⟨au, ⟨aa, an, ac⟩, ⟨ma, mn, mc⟩⟩), (gk5, 29, Cm.cells x), (gk11, 25, Bv.cells ⟨R.1.up, ⟨qa, qn, qc⟩, ⟨ra, rn, rc⟩⟩), (gk13, 56, Av.cells ⟨R.2.er, R.2.e, ⟨xa, xn, xc⟩⟩), (gk18, 54, En.cells (findE bes nm)), (gk22, 54, En.cells (findE bes nm)), (gk26, 64, La.cells (findL bls ((j : Nat) : Int)))]) := HF.out.no hk
               clear hk
               refine ⟨.tuple #[.agg (La.cells (findL R.1.ls ((j : Nat) : Int))), .bool (lIs R.1.ls ((j : Nat) : Int))], rfl, ?_⟩
               try simp only [pA, pB, p1, p2, p3]
               refine wp_takeW (.tuple #[.agg (La.cells (findL R.1.ls ((j : Nat) : Int))), .bool (lIs R.1.ls ((j : Nat) : Int))]) (by kernel_rfl) (by kernel_rfl) ?_
               try simp only [pA, pB, p1, p2, p3]
               refine wp_takeW (.agg (La.cells (findL R.1.ls ((j : Nat) : Int)))) (by kernel_rfl) (by kernel_rfl) ?_
               try simp only [pA, pB, p1, p2, p3]
               refine wp_takeW (.bool (lIs R.1.ls ((j : Nat) : Int))) (by kernel_rfl) (by kernel_rfl) ?_
               try simp only [pA, pB, p1, p2, p3]
               refine wp_runW (.pointer (some ⟨wk29.heap.size, 0, none⟩)) (wk29.alloc (.cells (La.cells laZ) 64)) (exec_alloc 64 rfl (La.cells laZ) zero64) (by kernel_rfl) ?_
               try simp only [pA, pB, p1, p2, p3]
               have HBE_s : Hid (OwE wk29 w.heap.size ⟨ba, bn, bc⟩ bes) := HBE
               have HBL_s : Hid (OwL wk29 w.heap.size ⟨la, ln, lc⟩ bls) := HBL
               have HAE_s : Hid (OwE wk29 w.heap.size ⟨aa, an, ac⟩ aes) := HAE
               have HAL_s : Hid (OwL wk29 w.heap.size ⟨ma, mn, mc⟩ als) := HAL
               have HNE_s : Hid (OwE wk29 w.heap.size ⟨qa, qn, qc⟩ R.1.es) := HNE
               have HNL_s : Hid (OwL wk29 w.heap.size ⟨ra, rn, rc⟩ R.1.ls) := HNL
               have HKs : Hid (Kept No wk29 wk29) := Kept.refl _ _
               have HG_gk30 : Hid (wk29.heap.size ≤ wk29.heap.size) := Nat.le_refl _
               have HBE : Hid (OwE (wk29.alloc (.cells (La.cells laZ) 64)) w.heap.size ⟨ba, bn, bc⟩ bes) := HBE.out.no ((Kept.refl No _).alloc _)
               have HBL : Hid (OwL (wk29.alloc (.cells (La.cells laZ) 64)) w.heap.size ⟨la, ln, lc⟩ bls) := HBL.out.no ((Kept.refl No _).alloc _)
               have HAE : Hid (OwE (wk29.alloc (.cells (La.cells laZ) 64)) w.heap.size ⟨aa, an, ac⟩ aes) := HAE.out.no ((Kept.refl No _).alloc _)
               have HAL : Hid (OwL (wk29.alloc (.cells (La.cells laZ) 64)) w.heap.size ⟨ma, mn, mc⟩ als) := HAL.out.no ((Kept.refl No _).alloc _)
               have HNE : Hid (OwE (wk29.alloc (.cells (La.cells laZ) 64)) w.heap.size ⟨qa, qn, qc⟩ R.1.es) := HNE.out.no ((Kept.refl No _).alloc _)
               have HNL : Hid (OwL (wk29.alloc (.cells (La.cells laZ) 64)) w.heap.size ⟨ra, rn, rc⟩ R.1.ls) := HNL.out.no ((Kept.refl No _).alloc _)
               have HKs : Hid (Kept No wk29 (wk29.alloc (.cells (La.cells laZ) 64))) := HKs.out.no ((Kept.refl No _).alloc _)
               have HF : Hid (Fr No w (wk29.alloc (.cells (La.cells laZ) 64)) [(gk1, 25, Bv.cells ⟨bu, ⟨ba, bn, bc⟩, ⟨la, ln, lc⟩⟩), (gk3, 25, Bv.cells ⟨au, ⟨aa, an, ac⟩, ⟨ma, mn, mc⟩⟩), (gk5, 29, Cm.cells x), (gk11, 25, Bv.cells ⟨R.1.up, ⟨qa, qn, qc⟩, ⟨ra, rn, rc⟩⟩), (gk13, 56, Av.cells ⟨R.2.er, R.2.e, ⟨xa, xn, xc⟩⟩), (gk18, 54, En.cells (findE bes nm)), (gk22, 54, En.cells (findE bes nm)), (gk26, 64, La.cells (findL bls ((j : Nat) : Int))), (wk29.heap.size, 64, La.cells laZ)]) := HF.out.alloc _ _
               generalize wk29.alloc (.cells (La.cells laZ) 64) = wk31 at HF HBE HBL HAE HAL HNE HNL HKs ⊢
               obtain ⟨gk30, hg⟩ : ∃ g, g = wk29.heap.size := ⟨_, rfl⟩
               have HG_gk30 : Hid (wk29.heap.size ≤ gk30) := by show _ ≤ _; rw [hg]; exact HG_gk30.out
               rw [← hg] at HF ⊢
               clear hg
               refine wp_storeW 64 _ _ rfl ⟨gk30, 0, none⟩ (.agg (La.cells (findL R.1.ls ((j : Nat) : Int)))) (by kernel_rfl) (by kernel_rfl) (wk31.setRow gk30 (La.cells (findL R.1.ls ((j : Nat) : Int)))) (st64 (HF.out.box 8 _ _ _ rfl) rfl) (by kernel_rfl) ?_
               try simp only [pA, pB, p1, p2, p3]
               have HBE : Hid (OwE (wk31.setRow gk30 (La.cells (findL R.1.ls ((j : Nat) : Int)))) w.heap.size ⟨ba, bn, bc⟩ bes) := HBE_s.out.no (HKs.out.newRow HG_gk30.out _)
               have HBL : Hid (OwL (wk31.setRow gk30 (La.cells (findL R.1.ls ((j : Nat) : Int)))) w.heap.size ⟨la, ln, lc⟩ bls) := HBL_s.out.no (HKs.out.newRow HG_gk30.out _)
               have HAE : Hid (OwE (wk31.setRow gk30 (La.cells (findL R.1.ls ((j : Nat) : Int)))) w.heap.size ⟨aa, an, ac⟩ aes) := HAE_s.out.no (HKs.out.newRow HG_gk30.out _)
               have HAL : Hid (OwL (wk31.setRow gk30 (La.cells (findL R.1.ls ((j : Nat) : Int)))) w.heap.size ⟨ma, mn, mc⟩ als) := HAL_s.out.no (HKs.out.newRow HG_gk30.out _)
               have HNE : Hid (OwE (wk31.setRow gk30 (La.cells (findL R.1.ls ((j : Nat) : Int)))) w.heap.size ⟨qa, qn, qc⟩ R.1.es) := HNE_s.out.no (HKs.out.newRow HG_gk30.out _)
               have HNL : Hid (OwL (wk31.setRow gk30 (La.cells (findL R.1.ls ((j : Nat) : Int)))) w.heap.size ⟨ra, rn, rc⟩ R.1.ls) := HNL_s.out.no (HKs.out.newRow HG_gk30.out _)
               have HKs : Hid (Kept No wk29 (wk31.setRow gk30 (La.cells (findL R.1.ls ((j : Nat) : Int))))) := HKs.out.newRow HG_gk30.out _
               have HF : Hid (Fr No w (wk31.setRow gk30 (La.cells (findL R.1.ls ((j : Nat) : Int)))) [(gk1, 25, Bv.cells ⟨bu, ⟨ba, bn, bc⟩, ⟨la, ln, lc⟩⟩), (gk3, 25, Bv.cells ⟨au, ⟨aa, an, ac⟩, ⟨ma, mn, mc⟩⟩), (gk5, 29, Cm.cells x), (gk11, 25, Bv.cells ⟨R.1.up, ⟨qa, qn, qc⟩, ⟨ra, rn, rc⟩⟩), (gk13, 56, Av.cells ⟨R.2.er, R.2.e, ⟨xa, xn, xc⟩⟩), (gk18, 54, En.cells (findE bes nm)), (gk22, 54, En.cells (findE bes nm)), (gk26, 64, La.cells (findL bls ((j : Nat) : Int))), (gk30, 64, La.cells (findL R.1.ls ((j : Nat) : Int)))]) := HF.out.set 8 rfl _
               generalize wk31.setRow gk30 (La.cells (findL R.1.ls ((j : Nat) : Int))) = wk32 at HF HBE HBL HAE HAL HNE HNL HKs ⊢
               refine wp_takeW (.bool (lIs R.1.ls ((j : Nat) : Int))) (by kernel_rfl) (by kernel_rfl) ?_
               try simp only [pA, pB, p1, p2, p3]
               refine WL.nil ?_
               try simp only [pA, pB, p1, p2, p3]
               clear HKs HBE_s HBL_s HAE_s HAL_s HNE_s HNL_s HG_gk30
               go_upto_region 21 with fail
               refine WL.start ?_
               refine wp_takeW (.int .i64 ((j : Nat) : Int)) (by kernel_rfl) (by kernel_rfl) ?_
               try simp only [pA, pB, p1, p2, p3]
               refine wp_takeW (.pointer (some ⟨gk5, 1, none⟩)) (by kernel_rfl) (by kernel_rfl) ?_
               try simp only [pA, pB, p1, p2, p3]
               refine wp_takeW (.int .i64 x.cl) (exec_load 3 _ rfl ⟨gk5, 1, none⟩ (by kernel_rfl) (.int .i64 x.cl) (ld3 ((HF.out.box 2 _ _ _ rfl).cell 1))) (by kernel_rfl) ?_
               try simp only [pA, pB, p1, p2, p3]
               cases q4 : (((j : Nat) : Int) == x.cl)
               ·skip
                refine wp_takeW (.bool true) (exec_bin .neq 3 _ _ _ rfl (.int .i64 ((j : Nat) : Int)) (.int .i64 x.cl) (.bool true) (by kernel_rfl) (by kernel_rfl) (by kernel_rfl) (by rw [b_neq, q4]; try rfl)) (by kernel_rfl) ?_
                try simp only [pA, pB, p1, p2, p3]
                refine wp_takeW (.bool true) (by kernel_rfl) (by kernel_rfl) ?_
                try simp only [pA, pB, p1, p2, p3]
                refine wp_skip (by kernel_rfl) ?_
                try simp only [pA, pB, p1, p2, p3]
                refine wp_skip (by kernel_rfl) ?_
                try simp only [pA, pB, p1, p2, p3]
                refine wp_skip (by kernel_rfl) ?_
                try simp only [pA, pB, p1, p2, p3]
                refine wp_takeW (.bool true) (by kernel_rfl) (by kernel_rfl) ?_
                try simp only [pA, pB, p1, p2, p3]
                refine wp_takeW (.bool true) (by kernel_rfl) (by kernel_rfl) ?_
                try simp only [pA, pB, p1, p2, p3]
                refine wp_skip (by kernel_rfl) ?_
                try simp only [pA, pB, p1, p2, p3]
                refine wp_skip (by kernel_rfl) ?_
                try simp only [pA, pB, p1, p2, p3]
                refine wp_skip (by kernel_rfl) ?_
                try simp only [pA, pB, p1, p2, p3]
                refine wp_takeW (.bool true) (by kernel_rfl) (by kernel_rfl) ?_
                try simp only [pA, pB, p1, p2, p3]
                refine wp_takeW (.bool true) (by kernel_rfl) (by kernel_rfl) ?_
                try simp only [pA, pB, p1, p2, p3]
                refine wp_takeW (.bool (lIs bls ((j : Nat) : Int))) (by kernel_rfl) (by kernel_rfl) ?_
                try simp only [pA, pB, p1, p2, p3]
                refine wp_takeW (.bool (lIs R.1.ls ((j : Nat) : Int))) (by kernel_rfl) (by kernel_rfl) ?_
                try simp only [pA, pB, p1, p2, p3]
                refine wp_takeW (.bool false) (exec_bin .neq 4 _ _ _ rfl (.bool (lIs bls ((j : Nat) : Int))) (.bool (lIs R.1.ls ((j : Nat) : Int))) (.bool false) (by kernel_rfl) (by kernel_rfl) (by kernel_rfl) (by rw [(HLS.out _ (.inl (by have h := q4; simpa using h))).1]; exact b_neqB _ _)) (by kernel_rfl) ?_
                try simp only [pA, pB, p1, p2, p3]
                refine wp_takeW (.bool false) (by kernel_rfl) (by kernel_rfl) ?_
                try simp only [pA, pB, p1, p2, p3]
                refine wp_takeW (.agg (La.cells (findL bls ((j : Nat) : Int)))) (exec_load 64 _ rfl ⟨gk26, 0, none⟩ (by kernel_rfl) (.agg (La.cells (findL bls ((j : Nat) : Int)))) (ld64 (HF.out.box 7 _ _ _ rfl))) (by kernel_rfl) ?_
                try simp only [pA, pB, p1, p2, p3]
                refine wp_takeW (.agg (La.cells (findL R.1.ls ((j : Nat) : Int)))) (exec_load 64 _ rfl ⟨gk30, 0, none⟩ (by kernel_rfl) (.agg (La.cells (findL R.1.ls ((j : Nat) : Int)))) (ld64 (HF.out.box 8 _ _ _ rfl))) (by kernel_rfl) ?_
                try simp only [pA, pB, p1, p2, p3]
                refine wp_takeW (.bool false) (exec_bin .neq 64 _ _ _ rfl (.agg (La.cells (findL bls ((j : Nat) : Int)))) (.agg (La.cells (findL R.1.ls ((j : Nat) : Int)))) (.bool false) (by kernel_rfl) (by kernel_rfl) (by kernel_rfl) (by rw [(HLS.out _ (.inl (by have h := q4; simpa using h))).2, eqL_neq, eqL_iff.2 rfl]; rfl)) (by kernel_rfl) ?_
                try simp only [pA, pB, p1, p2, p3]
                refine wp_takeW (.bool false) (by kernel_rfl) (by kernel_rfl) ?_
                try simp only [pA, pB, p1, p2, p3]
                refine wp_takeW (.bool false) (by kernel_rfl) (by kernel_rfl) ?_
                try simp only [pA, pB, p1, p2, p3]
                refine WL.nil ?_
                try simp only [pA, pB, p1, p2, p3]
                have HF : Hid (Fr No w wk32 [(gk1, 25, Bv.cells ⟨bu, ⟨ba, bn, bc⟩, ⟨la, ln, lc⟩⟩), (gk3, 25, Bv.cells ⟨au, ⟨aa, an, ac⟩, ⟨ma, mn, mc⟩⟩), (gk5, 29, Cm.cells x), (gk11, 25, Bv.cells ⟨R.1.up, ⟨qa, qn, qc⟩, ⟨ra, rn, rc⟩⟩), (gk13, 56, Av.cells ⟨R.2.er, R.2.e, ⟨xa, xn, xc⟩⟩), (gk18, 54, En.cells (findE bes nm)), (gk22, 54, En.cells (findE bes nm))]) := (show Fr No w wk32 ([(gk1, 25, Bv.cells ⟨bu, ⟨ba, bn, bc⟩, ⟨la, ln, lc⟩⟩), (gk3, 25, Bv.cells ⟨au, ⟨aa, an, ac⟩, ⟨ma, mn, mc⟩⟩), (gk5, 29, Cm.cells x), (gk11, 25, Bv.cells ⟨R.1.up, ⟨qa, qn, qc⟩, ⟨ra, rn, rc⟩⟩), (gk13, 56, Av.cells ⟨R.2.er, R.2.e, ⟨xa, xn, xc⟩⟩), (gk18, 54, En.cells (findE bes nm)), (gk22, 54, En.cells (findE bes nm))] ++ [(gk26, 64, La.cells (findL bls ((j : Nat) : Int))), (gk30, 64, La.cells (findL R.1.ls ((j : Nat) : Int)))]) from HF.out).front
                go_wp2
                go_roundw
                case rel => exact ⟨j + 1, by go_num, by omega, by omega, HF, HBE, HBL, HAE, HAL, HNE, HNL⟩
                case measure => simp [intOf]; omega
               ·skip
                refine wp_takeW (.bool false) (exec_bin .neq 3 _ _ _ rfl (.int .i64 ((j : Nat) : Int)) (.int .i64 x.cl) (.bool false) (by kernel_rfl) (by kernel_rfl) (by kernel_rfl) (by rw [b_neq, q4]; try rfl)) (by kernel_rfl) ?_
                try simp only [pA, pB, p1, p2, p3]
                refine wp_takeW (.bool false) (by kernel_rfl) (by kernel_rfl) ?_
                try simp only [pA, pB, p1, p2, p3]
                refine wp_takeW (.pointer (some ⟨gk5, 0, none⟩)) (by kernel_rfl) (by kernel_rfl) ?_
                try simp only [pA, pB, p1, p2, p3]
                refine wp_takeW (.int .i64 x.k) (exec_load 3 _ rfl ⟨gk5, 0, none⟩ (by kernel_rfl) (.int .i64 x.k) (ld3 ((HF.out.box 2 _ _ _ rfl).cell 0))) (by kernel_rfl) ?_
                try simp only [pA, pB, p1, p2, p3]
                cases q5 : (x.k == 3)
                ·skip
                 refine wp_takeW (.bool false) (exec_bin .eql 3 _ _ _ rfl (.int .i64 x.k) (.int .i64 3) (.bool false) (by kernel_rfl) (by kernel_rfl) (by kernel_rfl) (by rw [b_eql, q5]; try rfl)) (by kernel_rfl) ?_
                 try simp only [pA, pB, p1, p2, p3]
                 refine wp_takeW (.bool false) (by kernel_rfl) (by kernel_rfl) ?_
                 try simp only [pA, pB, p1, p2, p3]
                 refine wp_takeW (.bool false) (by kernel_rfl) (by kernel_rfl) ?_
                 try simp only [pA, pB, p1, p2, p3]
                 refine wp_takeW (.pointer (some ⟨gk5, 0, none⟩)) (by kernel_rfl) (by kernel_rfl) ?_
                 try simp only [pA, pB, p1, p2, p3]
                 refine wp_takeW (.int .i64 x.k) (exec_load 3 _ rfl ⟨gk5, 0, none⟩ (by kernel_rfl) (.int .i64 x.k) (ld3 ((HF.out.box 2 _ _ _ rfl).cell 0))) (by kernel_rfl) ?_
                 try simp only [pA, pB, p1, p2, p3]
                 cases q6 : (x.k == 4)
                 ·skip
                  refine wp_takeW (.bool false) (exec_bin .eql 3 _ _ _ rfl (.int .i64 x.k) (.int .i64 4) (.bool false) (by kernel_rfl) (by kernel_rfl) (by kernel_rfl) (by rw [b_eql, q6]; try rfl)) (by kernel_rfl) ?_
                  try simp only [pA, pB, p1, p2, p3]
                  refine wp_takeW (.bool false) (by kernel_rfl) (by kernel_rfl) ?_
                  try simp only [pA, pB, p1, p2, p3]
                  refine wp_takeW (.bool false) (by kernel_rfl) (by kernel_rfl) ?_
                  try simp only [pA, pB, p1, p2, p3]
                  refine wp_skip (by kernel_rfl) ?_
                  try simp only [pA, pB, p1, p2, p3]
                  refine wp_skip (by kernel_rfl) ?_
                  try simp only [pA, pB, p1, p2, p3]
                  refine wp_skip (by kernel_rfl) ?_
                  try simp only [pA, pB, p1, p2, p3]
                  refine wp_skip (by kernel_rfl) ?_
                  try simp only [pA, pB, p1, p2, p3]
                  refine wp_skip (by kernel_rfl) ?_
                  try simp only [pA, pB, p1, p2, p3]
                  refine wp_skip (by kernel_rfl) ?_
                  try simp only [pA, pB, p1, p2, p3]
                  refine wp_skip (by kernel_rfl) ?_
                  try simp only [pA, pB, p1, p2, p3]
                  refine wp_skip (by kernel_rfl) ?_
                  try simp only [pA, pB, p1, p2, p3]
                  refine wp_takeW (.bool false) (by kernel_rfl) (by kernel_rfl) ?_
                  try simp only [pA, pB, p1, p2, p3]
                  refine WL.nil ?_
                  try simp only [pA, pB, p1, p2, p3]
                  have HF : Hid (Fr No w wk32 [(gk1, 25, Bv.cells ⟨bu, ⟨ba, bn, bc⟩, ⟨la, ln, lc⟩⟩), (gk3, 25, Bv.cells ⟨au, ⟨aa, an, ac⟩, ⟨ma, mn, mc⟩⟩), (gk5, 29, Cm.cells x), (gk11, 25, Bv.cells ⟨R.1.up, ⟨qa, qn, qc⟩, ⟨ra, rn, rc⟩⟩), (gk13, 56, Av.cells ⟨R.2.er, R.2.e, ⟨xa, xn, xc⟩⟩), (gk18, 54, En.cells (findE bes nm)), (gk22, 54, En.cells (findE bes nm))]) := (show Fr No w wk32 ([(gk1, 25, Bv.cells ⟨bu, ⟨ba, bn, bc⟩, ⟨la, ln, lc⟩⟩), (gk3, 25, Bv.cells ⟨au, ⟨aa, an, ac⟩, ⟨ma, mn, mc⟩⟩), (gk5, 29, Cm.cells x), (gk11, 25, Bv.cells ⟨R.1.up, ⟨qa, qn, qc⟩, ⟨ra, rn, rc⟩⟩), (gk13, 56, Av.cells ⟨R.2.er, R.2.e, ⟨xa, xn, xc⟩⟩), (gk18, 54, En.cells (findE bes nm)), (gk22, 54, En.cells (findE bes nm))] ++ [(gk26, 64, La.cells (findL bls ((j : Nat) : Int))), (gk30, 64, La.cells (findL R.1.ls ((j : Nat) : Int)))]) from HF.out).front
                  go_wp2
                  go_roundw
                  case rel => exact ⟨j + 1, by go_num, by omega, by omega, HF, HBE, HBL, HAE, HAL, HNE, HNL⟩
                  case measure => simp [intOf]; omega
                 ·skip
                  refine wp_takeW (.bool true) (exec_bin .eql 3 _ _ _ rfl (.int .i64 x.k) (.int .i64 4) (.bool true) (by kernel_rfl) (by kernel_rfl) (by kernel_rfl) (by rw [b_eql, q6]; try rfl)) (by kernel_rfl) ?_
                  try simp only [pA, pB, p1, p2, p3]
                  refine wp_takeW (.bool true) (by kernel_rfl) (by kernel_rfl) ?_
                  try simp only [pA, pB, p1, p2, p3]
                  refine wp_takeW (.bool true) (by kernel_rfl) (by kernel_rfl) ?_
                  try simp only [pA, pB, p1, p2, p3]
                  refine wp_takeW (.bool (lIs bls ((j : Nat) : Int))) (by kernel_rfl) (by kernel_rfl) ?_
                  try simp only [pA, pB, p1, p2, p3]
                  refine wp_takeW (.bool (lIs R.1.ls ((j : Nat) : Int))) (by kernel_rfl) (by kernel_rfl) ?_
                  try simp only [pA, pB, p1, p2, p3]
                  refine wp_takeW (.bool false) (exec_bin .neq 4 _ _ _ rfl (.bool (lIs bls ((j : Nat) : Int))) (.bool (lIs R.1.ls ((j : Nat) : Int))) (.bool false) (by kernel_rfl) (by kernel_rfl) (by kernel_rfl) (by rw [(HLS.out _ (.inr (by unfold quest; rw [q6]; exact Bool.or_true _))).1]; exact b_neqB _ _)) (by kernel_rfl) ?_
                  try simp only [pA, pB, p1, p2, p3]
                  refine wp_takeW (.bool false) (by kernel_rfl) (by kernel_rfl) ?_
                  try simp only [pA, pB, p1, p2, p3]
                  refine wp_takeW (.agg (La.cells (findL bls ((j : Nat) : Int)))) (exec_load 64 _ rfl ⟨gk26, 0, none⟩ (by kernel_rfl) (.agg (La.cells (findL bls ((j : Nat) : Int)))) (ld64 (HF.out.box 7 _ _ _ rfl))) (by kernel_rfl) ?_
                  try simp only [pA, pB, p1, p2, p3]
                  refine wp_takeW (.agg (La.cells (findL R.1.ls ((j : Nat) : Int)))) (exec_load 64 _ rfl ⟨gk30, 0, none⟩ (by kernel_rfl) (.agg (La.cells (findL R.1.ls ((j : Nat) : Int)))) (ld64 (HF.out.box 8 _ _ _ rfl))) (by kernel_rfl) ?_
                  try simp only [pA, pB, p1, p2, p3]
                  refine wp_takeW (.bool false) (exec_bin .neq 64 _ _ _ rfl (.agg (La.cells (findL bls ((j : Nat) : Int)))) (.agg (La.cells (findL R.1.ls ((j : Nat) : Int)))) (.bool false) (by kernel_rfl) (by kernel_rfl) (by kernel_rfl) (by rw [(HLS.out _ (.inr (by unfold quest; rw [q6]; exact Bool.or_true _))).2, eqL_neq, eqL_iff.2 rfl]; rfl)) (by kernel_rfl) ?_
                  try simp only [pA, pB, p1, p2, p3]
                  refine wp_takeW (.bool false) (by kernel_rfl) (by kernel_rfl) ?_
                  try simp only [pA, pB, p1, p2, p3]
                  refine wp_takeW (.bool false) (by kernel_rfl) (by kernel_rfl) ?_
                  try simp only [pA, pB, p1, p2, p3]
                  refine WL.nil ?_
                  try simp only [pA, pB, p1, p2, p3]
                  have HF : Hid (Fr No w wk32 [(gk1, 25, Bv.cells ⟨bu, ⟨ba, bn, bc⟩, ⟨la, ln, lc⟩⟩), (gk3, 25, Bv.cells ⟨au, ⟨aa, an, ac⟩, ⟨ma, mn, mc⟩⟩), (gk5, 29, Cm.cells x), (gk11, 25, Bv.cells ⟨R.1.up, ⟨qa, qn, qc⟩, ⟨ra, rn, rc⟩⟩), (gk13, 56, Av.cells ⟨R.2.er, R.2.e, ⟨xa, xn, xc⟩⟩), (gk18, 54, En.cells (findE bes nm)), (gk22, 54, En.cells (findE bes nm))]) := (show Fr No w wk32 ([(gk1, 25, Bv.cells ⟨bu, ⟨ba, bn, bc⟩, ⟨la, ln, lc⟩⟩), (gk3, 25, Bv.cells ⟨au, ⟨aa, an, ac⟩, ⟨ma, mn, mc⟩⟩), (gk5, 29, Cm.cells x), (gk11, 25, Bv.cells ⟨R.1.up, ⟨qa, qn, qc⟩, ⟨ra, rn, rc⟩⟩), (gk13, 56, Av.cells ⟨R.2.er, R.2.e, ⟨xa, xn, xc⟩⟩), (gk18, 54, En.cells (findE bes nm)), (gk22, 54, En.cells (findE bes nm))] ++ [(gk26, 64, La.cells (findL bls ((j : Nat) : Int))), (gk30, 64, La.cells (findL R.1.ls ((j : Nat) : Int)))]) from HF.out).front
                  go_wp2
                  go_roundw
                  case rel => exact ⟨j + 1, by go_num, by omega, by omega, HF, HBE, HBL, HAE, HAL, HNE, HNL⟩
                  case measure => simp [intOf]; omega
                ·skip
                 refine wp_takeW (.bool true) (exec_bin .eql 3 _ _ _ rfl (.int .i64 x.k) (.int .i64 3) (.bool true) (by kernel_rfl) (by kernel_rfl) (by kernel_rfl) (by rw [b_eql, q5]; try rfl)) (by kernel_rfl) ?_
                 try simp only [pA, pB, p1, p2, p3]
                 refine wp_takeW (.bool true) (by kernel_rfl) (by kernel_rfl) ?_
                 try simp only [pA, pB, p1, p2, p3]
                 refine wp_takeW (.bool true) (by kernel_rfl) (by kernel_rfl) ?_
                 try simp only [pA, pB, p1, p2, p3]
                 refine wp_skip (by kernel_rfl) ?_
                 try simp only [pA, pB, p1, p2, p3]
                 refine wp_skip (by kernel_rfl) ?_
                 try simp only [pA, pB, p1, p2, p3]
                 refine wp_skip (by kernel_rfl) ?_
                 try simp only [pA, pB, p1, p2, p3]
                 refine wp_takeW (.bool true) (by kernel_rfl) (by kernel_rfl) ?_
                 try simp only [pA, pB, p1, p2, p3]
                 refine wp_takeW (.bool true) (by kernel_rfl) (by kernel_rfl) ?_
                 try simp only [pA, pB, p1, p2, p3]
                 refine wp_takeW (.bool (lIs bls ((j : Nat) : Int))) (by kernel_rfl) (by kernel_rfl) ?_
                 try simp only [pA, pB, p1, p2, p3]
                 refine wp_takeW (.bool (lIs R.1.ls ((j : Nat) : Int))) (by kernel_rfl) (by kernel_rfl) ?_
                 try simp only [pA, pB, p1, p2, p3]
                 refine wp_takeW (.bool false) (exec_bin .neq 4 _ _ _ rfl (.bool (lIs bls ((j : Nat) : Int))) (.bool (lIs R.1.ls ((j : Nat) : Int))) (.bool false) (by kernel_rfl) (by kernel_rfl) (by kernel_rfl) (by rw [(HLS.out _ (.inr (by unfold quest; rw [q5]; rfl))).1]; exact b_neqB _ _)) (by kernel_rfl) ?_
                 try simp only [pA, pB, p1, p2, p3]
                 refine wp_takeW (.bool false) (by kernel_rfl) (by kernel_rfl) ?_
                 try simp only [pA, pB, p1, p2, p3]
                 refine wp_takeW (.agg (La.cells (findL bls ((j : Nat) : Int)))) (exec_load 64 _ rfl ⟨gk26, 0, none⟩ (by kernel_rfl) (.agg (La.cells (findL bls ((j : Nat) : Int)))) (ld64 (HF.out.box 7 _ _ _ rfl))) (by kernel_rfl) ?_
                 try simp only [pA, pB, p1, p2, p3]
                 refine wp_takeW (.agg (La.cells (findL R.1.ls ((j : Nat) : Int)))) (exec_load 64 _ rfl ⟨gk30, 0, none⟩ (by kernel_rfl) (.agg (La.cells (findL R.1.ls ((j : Nat) : Int)))) (ld64 (HF.out.box 8 _ _ _ rfl))) (by kernel_rfl) ?_
                 try simp only [pA, pB, p1, p2, p3]
                 refine wp_takeW (.bool false) (exec_bin .neq 64 _ _ _ rfl (.agg (La.cells (findL bls ((j : Nat) : Int)))) (.agg (La.cells (findL R.1.ls ((j : Nat) : Int)))) (.bool false) (by kernel_rfl) (by kernel_rfl) (by kernel_rfl) (by rw [(HLS.out _ (.inr (by unfold quest; rw [q5]; rfl))).2, eqL_neq, eqL_iff.2 rfl]; rfl)) (by kernel_rfl) ?_
                 try simp only [pA, pB, p1, p2, p3]
                 refine wp_takeW (.bool false) (by kernel_rfl) (by kernel_rfl) ?_
                 try simp only [pA, pB, p1, p2, p3]
                 refine wp_takeW (.bool false) (by kernel_rfl) (by kernel_rfl) ?_
                 try simp only [pA, pB, p1, p2, p3]
                 refine WL.nil ?_
                 try simp only [pA, pB, p1, p2, p3]
                 have HF : Hid (Fr No w wk32 [(gk1, 25, Bv.cells ⟨bu, ⟨ba, bn, bc⟩, ⟨la, ln, lc⟩⟩), (gk3, 25, Bv.cells ⟨au, ⟨aa, an, ac⟩, ⟨ma, mn, mc⟩⟩), (gk5, 29, Cm.cells x), (gk11, 25, Bv.cells ⟨R.1.up, ⟨qa, qn, qc⟩, ⟨ra, rn, rc⟩⟩), (gk13, 56, Av.cells ⟨R.2.er, R.2.e, ⟨xa, xn, xc⟩⟩), (gk18, 54, En.cells (findE bes nm)), (gk22, 54, En.cells (findE bes nm))]) := (show Fr No w wk32 ([(gk1, 25, Bv.cells ⟨bu, ⟨ba, bn, bc⟩, ⟨la, ln, lc⟩⟩), (gk3, 25, Bv.cells ⟨au, ⟨aa, an, ac⟩, ⟨ma, mn, mc⟩⟩), (gk5, 29, Cm.cells x), (gk11, 25, Bv.cells ⟨R.1.up, ⟨qa, qn, qc⟩, ⟨ra, rn, rc⟩⟩), (gk13, 56, Av.cells ⟨R.2.er, R.2.e, ⟨xa, xn, xc⟩⟩), (gk18, 54, En.cells (findE bes nm)), (gk22, 54, En.cells (findE bes nm))] ++ [(gk26, 64, La.cells (findL bls ((j : Nat) : Int))), (gk30, 64, La.cells (findL R.1.ls ((j : Nat) : Int)))]) from HF.out).front
                 go_wp2
                 go_roundw
                 case rel => exact ⟨j + 1, by go_num, by omega, by omega, HF, HBE, HBL, HAE, HAL, HNE, HNL⟩
                 case measure => simp [intOf]; omega
             · skip
               go_upto_region 17 with fail
               refine WL.start ?_
               refine wp_takeW (.int .i64 ((j : Nat) : Int)) (by kernel_rfl) (by kernel_rfl) ?_
               try simp only [pA, pB, p1, p2, p3]
               refine wp_takeW (.bool false) (exec_bin .leq 3 _ _ _ rfl (.int .i64 ((j : Nat) : Int)) (.int .i64 6) (.bool false) (by kernel_rfl) (by kernel_rfl) (by kernel_rfl) (by rw [b_leq, decide_eq_false (by omega)])) (by kernel_rfl) ?_
               try simp only [pA, pB, p1, p2, p3]
               refine WL.nil ?_
               try simp only [pA, pB, p1, p2, p3]
               go_upto_region 23 with fail
               refine WL.start ?_
               refine wp_takeW (.pointer (some ⟨gk5, 3, none⟩)) (by kernel_rfl) (by kernel_rfl) ?_
               try simp only [pA, pB, p1, p2, p3]
               refine wp_takeW (.string x.nm) (exec_load 9 _ rfl ⟨gk5, 3, none⟩ (by kernel_rfl) (.string x.nm) (ld9 ((HF.out.box 2 _ _ _ rfl).cell 3))) (by kernel_rfl) ?_
               try simp only [pA, pB, p1, p2, p3]
               refine wp_takeW (.string nm) (by kernel_rfl) (by kernel_rfl) ?_
               try simp only [pA, pB, p1, p2, p3]
               refine wp_takeW (.bool false) (exec_bin .eql 9 _ _ _ rfl (.string x.nm) (.string nm) (.bool false) (by kernel_rfl) (by kernel_rfl) (by kernel_rfl) (by rw [eqN_eql, q3]; try rfl)) (by kernel_rfl) ?_
               try simp only [pA, pB, p1, p2, p3]
               refine WL.nil ?_
               try simp only [pA, pB, p1, p2, p3]
               go_upto_region 28 with fail
               refine WL.start ?_
               refine wp_takeW (.agg (Bv.cells ⟨R.1.up, ⟨qa, qn, qc⟩, ⟨ra, rn, rc⟩⟩)) (exec_load 25 _ rfl ⟨gk11, 0, none⟩ (by kernel_rfl) (.agg (Bv.cells ⟨R.1.up, ⟨qa, qn, qc⟩, ⟨ra, rn, rc⟩⟩)) (ld25 (HF.out.box 3 _ _ _ rfl))) (by kernel_rfl) ?_
               try simp only [pA, pB, p1, p2, p3]
               refine wp_storeW 25 _ _ rfl ⟨gk1, 0, none⟩ (.agg (Bv.cells ⟨R.1.up, ⟨qa, qn, qc⟩, ⟨ra, rn, rc⟩⟩)) (by kernel_rfl) (by kernel_rfl) (wr.setRow gk1 (Bv.cells ⟨R.1.up, ⟨qa, qn, qc⟩, ⟨ra, rn, rc⟩⟩)) (st25 (HF.out.box 0 _ _ _ rfl) rfl) (by kernel_rfl) ?_
               try simp only [pA, pB, p1, p2, p3]
               have HBE : Hid (OwE (wr.setRow gk1 (Bv.cells ⟨R.1.up, ⟨qa, qn, qc⟩, ⟨ra, rn, rc⟩⟩)) w.heap.size ⟨ba, bn, bc⟩ bes) := HBE.out.kept (Kept.setRow _ _ _) (fun k h e => (HBE.out.own.notBox (HF.out.box 0 _ _ _ rfl) (by decide)) ((show k = gk1 from e) ▸ h))
               have HBL : Hid (OwL (wr.setRow gk1 (Bv.cells ⟨R.1.up, ⟨qa, qn, qc⟩, ⟨ra, rn, rc⟩⟩)) w.heap.size ⟨la, ln, lc⟩ bls) := HBL.out.kept (Kept.setRow _ _ _) (fun k h e => (HBL.out.own.notBox (HF.out.box 0 _ _ _ rfl) (by decide)) ((show k = gk1 from e) ▸ h))
               have HAE : Hid (OwE (wr.setRow gk1 (Bv.cells ⟨R.1.up, ⟨qa, qn, qc⟩, ⟨ra, rn, rc⟩⟩)) w.heap.size ⟨aa, an, ac⟩ aes) := HAE.out.kept (Kept.setRow _ _ _) (fun k h e => (HAE.out.own.notBox (HF.out.box 0 _ _ _ rfl) (by decide)) ((show k = gk1 from e) ▸ h))
               have HAL : Hid (OwL (wr.setRow gk1 (Bv.cells ⟨R.1.up, ⟨qa, qn, qc⟩, ⟨ra, rn, rc⟩⟩)) w.heap.size ⟨ma, mn, mc⟩ als) := HAL.out.kept (Kept.setRow _ _ _) (fun k h e => (HAL.out.own.notBox (HF.out.box 0 _ _ _ rfl) (by decide)) ((show k = gk1 from e) ▸ h))
               have HNE : Hid (OwE (wr.setRow gk1 (Bv.cells ⟨R.1.up, ⟨qa, qn, qc⟩, ⟨ra, rn, rc⟩⟩)) w.heap.size ⟨qa, qn, qc⟩ R.1.es) := HNE.out.kept (Kept.setRow _ _ _) (fun k h e => (HNE.out.own.notBox (HF.out.box 0 _ _ _ rfl) (by decide)) ((show k = gk1 from e) ▸ h))
               have HNL : Hid (OwL (wr.setRow gk1 (Bv.cells ⟨R.1.up, ⟨qa, qn, qc⟩, ⟨ra, rn, rc⟩⟩)) w.heap.size ⟨ra, rn, rc⟩ R.1.ls) := HNL.out.kept (Kept.setRow _ _ _) (fun k h e => (HNL.out.own.notBox (HF.out.box 0 _ _ _ rfl) (by decide)) ((show k = gk1 from e) ▸ h))
               have HF : Hid (Fr No w (wr.setRow gk1 (Bv.cells ⟨R.1.up, ⟨qa, qn, qc⟩, ⟨ra, rn, rc⟩⟩)) [(gk1, 25, Bv.cells ⟨R.1.up, ⟨qa, qn, qc⟩, ⟨ra, rn, rc⟩⟩), (gk3, 25, Bv.cells ⟨au, ⟨aa, an, ac⟩, ⟨ma, mn, mc⟩⟩), (gk5, 29, Cm.cells x), (gk11, 25, Bv.cells ⟨R.1.up, ⟨qa, qn, qc⟩, ⟨ra, rn, rc⟩⟩), (gk13, 56, Av.cells ⟨R.2.er, R.2.e, ⟨xa, xn, xc⟩⟩), (gk18, 54, En.cells (findE bes nm)), (gk22, 54, En.cells (findE bes nm))]) := HF.out.set 0 rfl _
               generalize wr.setRow gk1 (Bv.cells ⟨R.1.up, ⟨qa, qn, qc⟩, ⟨ra, rn, rc⟩⟩) = wk33 at HF HBE HBL HAE HAL HNE HNL ⊢
               refine WL.nil ?_
               try simp only [pA, pB, p1, p2, p3]
               have HF : Hid (Fr No w wk33 [(gk1, 25, Bv.cells ⟨R.1.up, ⟨qa, qn, qc⟩, ⟨ra, rn, rc⟩⟩), (gk3, 25, Bv.cells ⟨au, ⟨aa, an, ac⟩, ⟨ma, mn, mc⟩⟩)]) := (show Fr No w wk33 ([(gk1, 25, Bv.cells ⟨R.1.up, ⟨qa, qn, qc⟩, ⟨ra, rn, rc⟩⟩), (gk3, 25, Bv.cells ⟨au, ⟨aa, an, ac⟩, ⟨ma, mn, mc⟩⟩)] ++ [(gk5, 29, Cm.cells x), (gk11, 25, Bv.cells ⟨R.1.up, ⟨qa, qn, qc⟩, ⟨ra, rn, rc⟩⟩), (gk13, 56, Av.cells ⟨R.2.er, R.2.e, ⟨xa, xn, xc⟩⟩), (gk18, 54, En.cells (findE bes nm)), (gk22, 54, En.cells (findE bes nm))]) from HF.out).front
               have HI2 : Hid (AInv nm (k + 1) R.1 ⟨au, aes, als⟩ (ro && !(R.2.er == 103))) := HIO.out q3
               go_wp2
               go_roundw
               case rel => exact ⟨k + 1, ((ro && !(R.2.er == 103))), R.1, ⟨au, aes, als⟩, ⟨qa, qn, qc⟩, ⟨ra, rn, rc⟩, ⟨aa, an, ac⟩, ⟨ma, mn, mc⟩, by go_num, rfl, by omega, by omega, HF, HNE, HNL, HAE, HAL, HI2⟩
               case measure => simp [intOf]; omega
          ·skip
           go_upto_region 12 with fail
           refine WL.start ?_
           refine wp_takeW (.agg (Bv.cells ⟨bu, ⟨ba, bn, bc⟩, ⟨la, ln, lc⟩⟩)) (exec_load 25 _ rfl ⟨gk1, 0, none⟩ (by kernel_rfl) (.agg (Bv.cells ⟨bu, ⟨ba, bn, bc⟩, ⟨la, ln, lc⟩⟩)) (ld25 (HF.out.box 0 _ _ _ rfl))) (by kernel_rfl) ?_
           try simp only [pA, pB, p1, p2, p3]
           refine wp_takeW (.string nm) (by kernel_rfl) (by kernel_rfl) ?_
           try simp only [pA, pB, p1, p2, p3]
           refine wp_callW 24 #[.agg (Bv.cells ⟨bu, ⟨ba, bn, bc⟩, ⟨la, ln, lc⟩⟩), .string nm] (by kernel_rfl) _ (find_any bu ba bn bc ⟨la, ln, lc⟩ bes nm _ HBE.out.len (by omega) HBE.out.rd.row) (by kernel_rfl) ?_
           rintro e wk34 ⟨rfl, hk⟩
           have HBE : Hid (OwE (wk34) w.heap.size ⟨ba, bn, bc⟩ bes) := HBE.out.no hk
           have HBL : Hid (OwL (wk34) w.heap.size ⟨la, ln, lc⟩ bls) := HBL.out.no hk
           have HAE : Hid (OwE (wk34) w.heap.size ⟨aa, an, ac⟩ aes) := HAE.out.no hk
           have HAL : Hid (OwL (wk34) w.heap.size ⟨ma, mn, mc⟩ als) := HAL.out.no hk
           have HNE : Hid (OwE (wk34) w.heap.size ⟨qa, qn, qc⟩ R.1.es) := HNE.out.no hk
           have HNL : Hid (OwL (wk34) w.heap.size ⟨ra, rn, rc⟩ R.1.ls) := HNL.out.no hk
           have HF : Hid (Fr No w (wk34) [(gk1, 25, Bv.cells ⟨bu, ⟨ba, bn, bc⟩, ⟨la, ln, lc⟩⟩), (gk3, 25, Bv.cells ⟨au, ⟨aa, an, ac⟩, ⟨ma, mn, mc⟩⟩), (gk5, 29, Cm.cells x), (gk11, 25, Bv.cells ⟨R.1.up, ⟨qa, qn, qc⟩, ⟨ra, rn, rc⟩⟩), (gk13, 56, Av.cells ⟨R.2.er, R.2.e, ⟨xa, xn, xc⟩⟩)]) := HF.out.no hk
           clear hk
           refine ⟨.tuple #[.agg (En.cells (findE bes nm)), .bool (eIs bes nm)], rfl, ?_⟩
           try simp only [pA, pB, p1, p2, p3]
           refine wp_takeW (.tuple #[.agg (En.cells (findE bes nm)), .bool (eIs bes nm)]) (by kernel_rfl) (by kernel_rfl) ?_
           try simp only [pA, pB, p1, p2, p3]
           refine wp_takeW (.agg (En.cells (findE bes nm))) (by kernel_rfl) (by kernel_rfl) ?_
           try simp only [pA, pB, p1, p2, p3]
           refine wp_takeW (.bool (eIs bes nm)) (by kernel_rfl) (by kernel_rfl) ?_
           try simp only [pA, pB, p1, p2, p3]
           refine wp_runW (.pointer (some ⟨wk34.heap.size, 0, none⟩)) (wk34.alloc (.cells (En.cells enZ) 54)) (exec_alloc 54 rfl (En.cells enZ) zero54) (by kernel_rfl) ?_
           try simp only [pA, pB, p1, p2, p3]
           have HBE_s : Hid (OwE wk34 w.heap.size ⟨ba, bn, bc⟩ bes) := HBE
           have HBL_s : Hid (OwL wk34 w.heap.size ⟨la, ln, lc⟩ bls) := HBL
           have HAE_s : Hid (OwE wk34 w.heap.size ⟨aa, an, ac⟩ aes) := HAE
           have HAL_s : Hid (OwL wk34 w.heap.size ⟨ma, mn, mc⟩ als) := HAL
           have HNE_s : Hid (OwE wk34 w.heap.size ⟨qa, qn, qc⟩ R.1.es) := HNE
           have HNL_s : Hid (OwL wk34 w.heap.size ⟨ra, rn, rc⟩ R.1.ls) := HNL
           have HKs : Hid (Kept No wk34 wk34) := Kept.refl _ _
           have HG_gk35 : Hid (wk34.heap.size ≤ wk34.heap.size) := Nat.le_refl _
           have HBE : Hid (OwE (wk34.alloc (.cells (En.cells enZ) 54)) w.heap.size ⟨ba, bn, bc⟩ bes) := HBE.out.no ((Kept.refl No _).alloc _)
           have HBL : Hid (OwL (wk34.alloc (.cells (En.cells enZ) 54)) w.heap.size ⟨la, ln, lc⟩ bls) := HBL.out.no ((Kept.refl No _).alloc _)
           have HAE : Hid (OwE (wk34.alloc (.cells (En.cells enZ) 54)) w.heap.size ⟨aa, an, ac⟩ aes) := HAE.out.no ((Kept.refl No _).alloc _)
           have HAL : Hid (OwL (wk34.alloc (.cells (En.cells enZ) 54)) w.heap.size ⟨ma, mn, mc⟩ als) := HAL.out.no ((Kept.refl No _).alloc _)
           have HNE : Hid (OwE (wk34.alloc (.cells (En.cells enZ) 54)) w.heap.size ⟨qa, qn, qc⟩ R.1.es) := HNE.out.no ((Kept.refl No _).alloc _)
           have HNL : Hid (OwL (wk34.alloc (.cells (En.cells enZ) 54)) w.heap.size ⟨ra, rn, rc⟩ R.1.ls) := HNL.out.no ((Kept.refl No _).alloc _)
           have HKs : Hid (Kept No wk34 (wk34.alloc (.cells (En.cells enZ) 54))) := HKs.out.no ((Kept.refl No _).alloc _)
           have HF : Hid (Fr No w (wk34.alloc (.cells (En.cells enZ) 54)) [(gk1, 25, Bv.cells ⟨bu, ⟨ba, bn, bc⟩, ⟨la, ln, lc⟩⟩), (gk3, 25, Bv.cells ⟨au, ⟨aa, an, ac⟩, ⟨ma, mn, mc⟩⟩), (gk5, 29, Cm.cells x), (gk11, 25, Bv.cells ⟨R.1.up, ⟨qa, qn, qc⟩, ⟨ra, rn, rc⟩⟩), (gk13, 56, Av.cells ⟨R.2.er, R.2.e, ⟨xa, xn, xc⟩⟩), (wk34.heap.size, 54, En.cells enZ)]) := HF.out.alloc _ _
           generalize wk34.alloc (.cells (En.cells enZ) 54) = wk36 at HF HBE HBL HAE HAL HNE HNL HKs ⊢
           obtain ⟨gk35, hg⟩ : ∃ g, g = wk34.heap.size := ⟨_, rfl⟩
           have HG_gk35 : Hid (wk34.heap.size ≤ gk35) := by show _ ≤ _; rw [hg]; exact HG_gk35.out
           rw [← hg] at HF ⊢
           clear hg
           refine wp_storeW 54 _ _ rfl ⟨gk35, 0, none⟩ (.agg (En.cells (findE bes nm))) (by kernel_rfl) (by kernel_rfl) (wk36.setRow gk35 (En.cells (findE bes nm))) (st54 (HF.out.box 5 _ _ _ rfl) rfl) (by kernel_rfl) ?_
           try simp only [pA, pB, p1, p2, p3]
           have HBE : Hid (OwE (wk36.setRow gk35 (En.cells (findE bes nm))) w.heap.size ⟨ba, bn, bc⟩ bes) := HBE_s.out.no (HKs.out.newRow HG_gk35.out _)
           have HBL : Hid (OwL (wk36.setRow gk35 (En.cells (findE bes nm))) w.heap.size ⟨la, ln, lc⟩ bls) := HBL_s.out.no (HKs.out.newRow HG_gk35.out _)
           have HAE : Hid (OwE (wk36.setRow gk35 (En.cells (findE bes nm))) w.heap.size ⟨aa, an, ac⟩ aes) := HAE_s.out.no (HKs.out.newRow HG_gk35.out _)
           have HAL : Hid (OwL (wk36.setRow gk35 (En.cells (findE bes nm))) w.heap.size ⟨ma, mn, mc⟩ als) := HAL_s.out.no (HKs.out.newRow HG_gk35.out _)
           have HNE : Hid (OwE (wk36.setRow gk35 (En.cells (findE bes nm))) w.heap.size ⟨qa, qn, qc⟩ R.1.es) := HNE_s.out.no (HKs.out.newRow HG_gk35.out _)
           have HNL : Hid (OwL (wk36.setRow gk35 (En.cells (findE bes nm))) w.heap.size ⟨ra, rn, rc⟩ R.1.ls) := HNL_s.out.no (HKs.out.newRow HG_gk35.out _)
           have HKs : Hid (Kept No wk34 (wk36.setRow gk35 (En.cells (findE bes nm)))) := HKs.out.newRow HG_gk35.out _
           have HF : Hid (Fr No w (wk36.setRow gk35 (En.cells (findE bes nm))) [(gk1, 25, Bv.cells ⟨bu, ⟨ba, bn, bc⟩, ⟨la, ln, lc⟩⟩), (gk3, 25, Bv.cells ⟨au, ⟨aa, an, ac⟩, ⟨ma, mn, mc⟩⟩), (gk5, 29, Cm.cells x), (gk11, 25, Bv.cells ⟨R.1.up, ⟨qa, qn, qc⟩, ⟨ra, rn, rc⟩⟩), (gk13, 56, Av.cells ⟨R.2.er, R.2.e, ⟨xa, xn, xc⟩⟩), (gk35, 54, En.cells (findE bes nm))]) := HF.out.set 5 rfl _
           generalize wk36.setRow gk35 (En.cells (findE bes nm)) = wk37 at HF HBE HBL HAE HAL HNE HNL HKs ⊢
           refine wp_takeW (.bool (eIs bes nm)) (by kernel_rfl) (by kernel_rfl) ?_
           try simp only [pA, pB, p1, p2, p3]
           refine WL.nil ?_
           try simp only [pA, pB, p1, p2, p3]
           clear HKs HBE_s HBL_s HAE_s HAL_s HNE_s HNL_s HG_gk35
           go_upto_region 13 with fail
           refine WL.start ?_
           refine wp_takeW (.agg (Bv.cells ⟨R.1.up, ⟨qa, qn, qc⟩, ⟨ra, rn, rc⟩⟩)) (exec_load 25 _ rfl ⟨gk11, 0, none⟩ (by kernel_rfl) (.agg (Bv.cells ⟨R.1.up, ⟨qa, qn, qc⟩, ⟨ra, rn, rc⟩⟩)) (ld25 (HF.out.box 3 _ _ _ rfl))) (by kernel_rfl) ?_
           try simp only [pA, pB, p1, p2, p3]
           refine wp_takeW (.string nm) (by kernel_rfl) (by kernel_rfl) ?_
           try simp only [pA, pB, p1, p2, p3]
           refine wp_callW 24 #[.agg (Bv.cells ⟨R.1.up, ⟨qa, qn, qc⟩, ⟨ra, rn, rc⟩⟩), .string nm] (by kernel_rfl) _ (find_any R.1.up qa qn qc ⟨ra, rn, rc⟩ R.1.es nm _ HNE.out.len (by omega) HNE.out.rd.row) (by kernel_rfl) ?_
           rintro e wk38 ⟨rfl, hk⟩
           have HBE : Hid (OwE (wk38) w.heap.size ⟨ba, bn, bc⟩ bes) := HBE.out.no hk
           have HBL : Hid (OwL (wk38) w.heap.size ⟨la, ln, lc⟩ bls) := HBL.out.no hk
           have HAE : Hid (OwE (wk38) w.heap.size ⟨aa, an, ac⟩ aes) := HAE.out.no hk
           have HAL : Hid (OwL (wk38) w.heap.size ⟨ma, mn, mc⟩ als) := HAL.out.no hk
           have HNE : Hid (OwE (wk38) w.heap.size ⟨qa, qn, qc⟩ R.1.es) := HNE.out.no hk
           have HNL : Hid (OwL (wk38) w.heap.size ⟨ra, rn, rc⟩ R.1.ls) := HNL.out.no hk
           have HF : Hid (Fr No w (wk38) [(gk1, 25, Bv.cells ⟨bu, ⟨ba, bn, bc⟩, ⟨la, ln, lc⟩⟩), (gk3, 25, Bv.cells ⟨au, ⟨aa, an, ac⟩, ⟨ma, mn, mc⟩⟩), (gk5, 29, Cm.cells x), (gk11, 25, Bv.cells ⟨R.1.up, ⟨qa, qn, qc⟩, ⟨ra, rn, rc⟩⟩), (gk13, 56, Av.cells ⟨R.2.er, R.2.e, ⟨xa, xn, xc⟩⟩), (gk35, 54, En.cells (findE bes nm))]) := HF.out.no hk
           clear hk
           refine ⟨.tuple #[.agg (En.cells (findE R.1.es nm)), .bool (eIs R.1.es nm)], rfl, ?_⟩
           try simp only [pA, pB, p1, p2, p3]
           refine wp_takeW (.tuple #[.agg (En.cells (findE R.1.es nm)), .bool (eIs R.1.es nm)]) (by kernel_rfl) (by kernel_rfl) ?_
           try simp only [pA, pB, p1, p2, p3]
           refine wp_takeW (.agg (En.cells (findE R.1.es nm))) (by kernel_rfl) (by kernel_rfl) ?_
           try simp only [pA, pB, p1, p2, p3]
           refine wp_takeW (.bool (eIs R.1.es nm)) (by kernel_rfl) (by kernel_rfl) ?_
           try simp only [pA, pB, p1, p2, p3]
           refine wp_runW (.pointer (some ⟨wk38.heap.size, 0, none⟩)) (wk38.alloc (.cells (En.cells enZ) 54)) (exec_alloc 54 rfl (En.cells enZ) zero54) (by kernel_rfl) ?_
           try simp only [pA, pB, p1, p2, p3]
           have HBE_s : Hid (OwE wk38 w.heap.size ⟨ba, bn, bc⟩ bes) := HBE
           have HBL_s : Hid (OwL wk38 w.heap.size ⟨la, ln, lc⟩ bls) := HBL
           have HAE_s : Hid (OwE wk38 w.heap.size ⟨aa, an, ac⟩ aes) := HAE
           have HAL_s : Hid (OwL wk38 w.heap.size ⟨ma, mn, mc⟩ als) := HAL
           have HNE_s : Hid (OwE wk38 w.heap.size ⟨qa, qn, qc⟩ R.1.es) := HNE
           have HNL_s : Hid (OwL wk38 w.heap.size ⟨ra, rn, rc⟩ R.1.ls) := HNL
           have HKs : Hid (Kept No wk38 wk38) := Kept.refl _ _
           have HG_gk39 : Hid (wk38.heap.size ≤ wk38.heap.size) := Nat.le_refl _
           have HBE : Hid (OwE (wk38.alloc (.cells (En.cells enZ) 54)) w.heap.size ⟨ba, bn, bc⟩ bes) := HBE.out.no ((Kept.refl No _).alloc _)
           have HBL : Hid (OwL (wk38.alloc (.cells (En.cells enZ) 54)) w.heap.size ⟨la, ln, lc⟩ bls) := HBL.out.no ((Kept.refl No _).alloc _)
           have HAE : Hid (OwE (wk38.alloc (.cells (En.cells enZ) 54)) w.heap.size ⟨aa, an, ac⟩ aes) := HAE.out.no ((Kept.refl No _).alloc _)
           have HAL : Hid (OwL (wk38.alloc (.cells (En.cells enZ) 54)) w.heap.size ⟨ma, mn, mc⟩ als) := HAL.out.no ((Kept.refl No _).alloc _)
           have HNE : Hid (OwE (wk38.alloc (.cells (En.cells enZ) 54)) w.heap.size ⟨qa, qn, qc⟩ R.1.es) := HNE.out.no ((Kept.refl No _).alloc _)
           have HNL : Hid (OwL (wk38.alloc (.cells (En.cells enZ) 54)) w.heap.size ⟨ra, rn, rc⟩ R.1.ls) := HNL.out.no ((Kept.refl No _).alloc _)
           have HKs : Hid (Kept No wk38 (wk38.alloc (.cells (En.cells enZ) 54))) := HKs.out.no ((Kept.refl No _).alloc _)
           have HF : Hid (Fr No w (wk38.alloc (.cells (En.cells enZ) 54)) [(gk1, 25, Bv.cells ⟨bu, ⟨ba, bn, bc⟩, ⟨la, ln, lc⟩⟩), (gk3, 25, Bv.cells ⟨au, ⟨aa, an, ac⟩, ⟨ma, mn, mc⟩⟩), (gk5, 29, Cm.cells x), (gk11, 25, Bv.cells ⟨R.1.up, ⟨qa, qn, qc⟩, ⟨ra, rn, rc⟩⟩), (gk13, 56, Av.cells ⟨R.2.er, R.2.e, ⟨xa, xn, xc⟩⟩), (gk35, 54, En.cells (findE bes nm)), (wk38.heap.size, 54, En.cells enZ)]) := HF.out.alloc _ _
           generalize wk38.alloc (.cells (En.cells enZ) 54) = wk40 at HF HBE HBL HAE HAL HNE HNL HKs ⊢
           obtain ⟨gk39, hg⟩ : ∃ g, g = wk38.heap.size := ⟨_, rfl⟩
           have HG_gk39 : Hid (wk38.heap.size ≤ gk39) := by show _ ≤ _; rw [hg]; exact HG_gk39.out
           rw [← hg] at HF ⊢
           clear hg
           refine wp_storeW 54 _ _ rfl ⟨gk39, 0, none⟩ (.agg (En.cells (findE R.1.es nm))) (by kernel_rfl) (by kernel_rfl) (wk40.setRow gk39 (En.cells (findE R.1.es nm))) (st54 (HF.out.box 6 _ _ _ rfl) rfl) (by kernel_rfl) ?_
           try simp only [pA, pB, p1, p2, p3]
           have HBE : Hid (OwE (wk40.setRow gk39 (En.cells (findE R.1.es nm))) w.heap.size ⟨ba, bn, bc⟩ bes) := HBE_s.out.no (HKs.out.newRow HG_gk39.out _)
           have HBL : Hid (OwL (wk40.setRow gk39 (En.cells (findE R.1.es nm))) w.heap.size ⟨la, ln, lc⟩ bls) := HBL_s.out.no (HKs.out.newRow HG_gk39.out _)
           have HAE : Hid (OwE (wk40.setRow gk39 (En.cells (findE R.1.es nm))) w.heap.size ⟨aa, an, ac⟩ aes) := HAE_s.out.no (HKs.out.newRow HG_gk39.out _)
           have HAL : Hid (OwL (wk40.setRow gk39 (En.cells (findE R.1.es nm))) w.heap.size ⟨ma, mn, mc⟩ als) := HAL_s.out.no (HKs.out.newRow HG_gk39.out _)
           have HNE : Hid (OwE (wk40.setRow gk39 (En.cells (findE R.1.es nm))) w.heap.size ⟨qa, qn, qc⟩ R.1.es) := HNE_s.out.no (HKs.out.newRow HG_gk39.out _)
           have HNL : Hid (OwL (wk40.setRow gk39 (En.cells (findE R.1.es nm))) w.heap.size ⟨ra, rn, rc⟩ R.1.ls) := HNL_s.out.no (HKs.out.newRow HG_gk39.out _)
           have HKs : Hid (Kept No wk38 (wk40.setRow gk39 (En.cells (findE R.1.es nm)))) := HKs.out.newRow HG_gk39.out _
           have HF : Hid (Fr No w (wk40.setRow gk39 (En.cells (findE R.1.es nm))) [(gk1, 25, Bv.cells ⟨bu, ⟨ba, bn, bc⟩, ⟨la, ln, lc⟩⟩), (gk3, 25, Bv.cells ⟨au, ⟨aa, an, ac⟩, ⟨ma, mn, mc⟩⟩), (gk5, 29, Cm.cells x), (gk11, 25, Bv.cells ⟨R.1.up, ⟨qa, qn, qc⟩, ⟨ra, rn, rc⟩⟩), (gk13, 56, Av.cells ⟨R.2.er, R.2.e, ⟨xa, xn, xc⟩⟩), (gk35, 54, En.cells (findE bes nm)), (gk39, 54, En.cells (findE R.1.es nm))]) := HF.out.set 6 rfl _
           generalize wk40.setRow gk39 (En.cells (findE R.1.es nm)) = wk41 at HF HBE HBL HAE HAL HNE HNL HKs ⊢
           refine wp_takeW (.bool (eIs R.1.es nm)) (by kernel_rfl) (by kernel_rfl) ?_
           try simp only [pA, pB, p1, p2, p3]
           refine WL.nil ?_
           try simp only [pA, pB, p1, p2, p3]
           clear HKs HBE_s HBL_s HAE_s HAL_s HNE_s HNL_s HG_gk39
           go_upto_region 14 with fail
           refine WL.start ?_
           refine wp_takeW (.pointer (some ⟨gk5, 3, none⟩)) (by kernel_rfl) (by kernel_rfl) ?_
           try simp only [pA, pB, p1, p2, p3]
           refine wp_takeW (.string x.nm) (exec_load 9 _ rfl ⟨gk5, 3, none⟩ (by kernel_rfl) (.string x.nm) (ld9 ((HF.out.box 2 _ _ _ rfl).cell 3))) (by kernel_rfl) ?_
           try simp only [pA, pB, p1, p2, p3]
           refine wp_takeW (.string nm) (by kernel_rfl) (by kernel_rfl) ?_
           try simp only [pA, pB, p1, p2, p3]
           refine wp_takeW (.bool false) (exec_bin .neq 9 _ _ _ rfl (.string x.nm) (.string nm) (.bool false) (by kernel_rfl) (by kernel_rfl) (by kernel_rfl) (by rw [eqN_neq, q3]; try rfl)) (by kernel_rfl) ?_
           try simp only [pA, pB, p1, p2, p3]
           refine wp_takeW (.bool false) (by kernel_rfl) (by kernel_rfl) ?_
           try simp only [pA, pB, p1, p2, p3]
           refine wp_skip (by kernel_rfl) ?_
           try simp only [pA, pB, p1, p2, p3]
           refine wp_skip (by kernel_rfl) ?_
           try simp only [pA, pB, p1, p2, p3]
           refine wp_skip (by kernel_rfl) ?_
           try simp only [pA, pB, p1, p2, p3]
           refine wp_skip (by kernel_rfl) ?_
           try simp only [pA, pB, p1, p2, p3]
           refine wp_skip (by kernel_rfl) ?_
           try simp only [pA, pB, p1, p2, p3]
           refine wp_skip (by kernel_rfl) ?_
           try simp only [pA, pB, p1, p2, p3]
           refine wp_skip (by kernel_rfl) ?_
           try simp only [pA, pB, p1, p2, p3]
           refine wp_skip (by kernel_rfl) ?_
           try simp only [pA, pB, p1, p2, p3]
           refine wp_takeW (.bool false) (by kernel_rfl) (by kernel_rfl) ?_
           try simp only [pA, pB, p1, p2, p3]
           refine WL.nil ?_
           try simp only [pA, pB, p1, p2, p3]
           go_upto_region 16 with fail
           refine WL.start ?_
           refine wp_takeW (.int .i64 1) (by kernel_rfl) (by kernel_rfl) ?_
           try simp only [pA, pB, p1, p2, p3]
           refine WL.nil ?_
           try simp only [pA, pB, p1, p2, p3]
           go_wp2
           go_loopw [19] (fun v19 wr => ∃ (j : Nat), v19 = .int .i64 ((j : Nat) : Int) ∧ 1 ≤ j ∧ j ≤ 7 ∧ Hid (Fr No w wr [(gk1, 25, Bv.cells ⟨bu, ⟨ba, bn, bc⟩, ⟨la, ln, lc⟩⟩), (gk3, 25, Bv.cells ⟨au, ⟨aa, an, ac⟩, ⟨ma, mn, mc⟩⟩), (gk5, 29, Cm.cells x), (gk11, 25, Bv.cells ⟨R.1.up, ⟨qa, qn, qc⟩, ⟨ra, rn, rc⟩⟩), (gk13, 56, Av.cells ⟨R.2.er, R.2.e, ⟨xa, xn, xc⟩⟩), (gk35, 54, En.cells (findE bes nm)), (gk39, 54, En.cells (findE R.1.es nm))]) ∧ Hid (OwE wr w.heap.size ⟨ba, bn, bc⟩ bes) ∧ Hid (OwL wr w.heap.size ⟨la, ln, lc⟩ bls) ∧ Hid (OwE wr w.heap.size ⟨aa, an, ac⟩ aes) ∧ Hid (OwL wr w.heap.size ⟨ma, mn, mc⟩ als) ∧ Hid (OwE wr w.heap.size ⟨qa, qn, qc⟩ R.1.es) ∧ Hid (OwL wr w.heap.size ⟨ra, rn, rc⟩ R.1.ls)) (fun i _ => 7 - (intOf i).toNat)
           case atStart => exact ⟨1, by go_num, by omega, by omega, HF, HBE, HBL, HAE, HAL, HNE, HNL⟩
           case round =>
             obtain ⟨j, rfl, hj1, hj2, HF, HBE, HBL, HAE, HAL, HNE, HNL⟩ := hrel
             by_cases hj6 : j ≤ 6
             · skip
               go_upto_region 17 with fail
               refine WL.start ?_
               refine wp_takeW (.int .i64 ((j : Nat) : Int)) (by kernel_rfl) (by kernel_rfl) ?_
               try simp only [pA, pB, p1, p2, p3]
               refine wp_takeW (.bool true) (exec_bin .leq 3 _ _ _ rfl (.int .i64 ((j : Nat) : Int)) (.int .i64 6) (.bool true) (by kernel_rfl) (by kernel_rfl) (by kernel_rfl) (by rw [b_leq, decide_eq_true (by omega)])) (by kernel_rfl) ?_
               try simp only [pA, pB, p1, p2, p3]
               refine WL.nil ?_
               try simp only [pA, pB, p1, p2, p3]
               go_upto_region 19 with fail
               refine WL.start ?_
               refine wp_takeW (.agg (Bv.cells ⟨bu, ⟨ba, bn, bc⟩, ⟨la, ln, lc⟩⟩)) (exec_load 25 _ rfl ⟨gk1, 0, none⟩ (by kernel_rfl) (.agg (Bv.cells ⟨bu, ⟨ba, bn, bc⟩, ⟨la, ln, lc⟩⟩)) (ld25 (HF.out.box 0 _ _ _ rfl))) (by kernel_rfl) ?_
               try simp only [pA, pB, p1, p2, p3]
               refine wp_takeW (.int .i64 ((j : Nat) : Int)) (by kernel_rfl) (by kernel_rfl) ?_
               try simp only [pA, pB, p1, p2, p3]
               refine wp_callW 25 #[.agg (Bv.cells ⟨bu, ⟨ba, bn, bc⟩, ⟨la, ln, lc⟩⟩), .int .i64 ((j : Nat) : Int)] (by kernel_rfl) _ (last_any bu la ln lc ⟨ba, bn, bc⟩ bls ((j : Nat) : Int) _ HBL.out.len (by omega) HBL.out.rd.row) (by kernel_rfl) ?_
               rintro e wk42 ⟨rfl, hk⟩
               have HBE : Hid (OwE (wk42) w.heap.size ⟨ba, bn, bc⟩ bes) := HBE.out.no hk
               have HBL : Hid (OwL (wk42) w.heap.size ⟨la, ln, lc⟩ bls) := HBL.out.no hk
               have HAE : Hid (OwE (wk42) w.heap.size ⟨aa, an, ac⟩ aes) := HAE.out.no hk
               have HAL : Hid (OwL (wk42) w.heap.size ⟨ma, mn, mc⟩ als) := HAL.out.no hk
               have HNE : Hid (OwE (wk42) w.heap.size ⟨qa, qn, qc⟩ R.1.es) := HNE.out.no hk
               have HNL : Hid (OwL (wk42) w.heap.size ⟨ra, rn, rc⟩ R.1.ls) := HNL.out.no hk
               have HF : Hid (Fr No w (wk42) [(gk1, 25, Bv.cells ⟨bu, ⟨ba, bn, bc⟩, ⟨la, ln, lc⟩⟩), (gk3, 25, Bv.cells ⟨au, ⟨aa, an, ac⟩, ⟨ma, mn, mc⟩⟩), (gk5, 29, Cm.cells x), (gk11, 25, Bv.cells ⟨R.1.up, ⟨qa, qn, qc⟩, ⟨ra, rn, rc⟩⟩), (gk13, 56, Av.cells ⟨R.2.er, R.2.e, ⟨xa, xn, xc⟩⟩), (gk35, 54, En.cells (findE bes nm)), (gk39, 54, En.cells (findE R.1.es nm))]) := HF.out.no hk
               clear hk
               refine ⟨.tuple #[.agg (La.cells (findL bls ((j : Nat) : Int))), .bool (lIs bls ((j : Nat) : Int))], rfl, ?_⟩
               try simp only [pA, pB, p1, p2, p3]
               refine wp_takeW (.tuple #[.agg (La.cells (findL bls ((j : Nat) : Int))), .bool (lIs bls ((j : Nat) : Int))]) (by kernel_rfl) (by kernel_rfl) ?_
               try simp only [pA, pB, p1, p2, p3]
               refine wp_takeW (.agg (La.cells (findL bls ((j : Nat) : Int)))) (by kernel_rfl) (by kernel_rfl) ?_
               try simp only [pA, pB, p1, p2, p3]
               refine wp_takeW (.bool (lIs bls ((j : Nat) : Int))) (by kernel_rfl) (by kernel_rfl) ?_
               try simp only [pA, pB, p1, p2, p3]
               refine wp_runW (.pointer (some ⟨wk42.heap.size, 0, none⟩)) (wk42.alloc (.cells (La.cells laZ) 64)) (exec_alloc 64 rfl (La.cells laZ) zero64) (by kernel_rfl) ?_
               try simp only [pA, pB, p1, p2, p3]
               have HBE_s : Hid (OwE wk42 w.heap.size ⟨ba, bn, bc⟩ bes) := HBE
               have HBL_s : Hid (OwL wk42 w.heap.size ⟨la, ln, lc⟩ bls) := HBL
               have HAE_s : Hid (OwE wk42 w.heap.size ⟨aa, an, ac⟩ aes) := HAE
               have HAL_s : Hid (OwL wk42 w.heap.size ⟨ma, mn, mc⟩ als) := HAL
               have HNE_s : Hid (OwE wk42 w.heap.size ⟨qa, qn, qc⟩ R.1.es) := HNE
               have HNL_s : Hid (OwL wk42 w.heap.size ⟨ra, rn, rc⟩ R.1.ls) := HNL
               have HKs : Hid (Kept No wk42 wk42) := Kept.refl _ _
               have HG_gk43 : Hid (wk42.heap.size ≤ wk42.heap.size) := Nat.le_refl _
               have HBE : Hid (OwE (wk42.alloc (.cells (La.cells laZ) 64)) w.heap.size ⟨ba, bn, bc⟩ bes) := HBE.out.no ((Kept.refl No _).alloc _)
               have HBL : Hid (OwL (wk42.alloc (.cells (La.cells laZ) 64)) w.heap.size ⟨la, ln, lc⟩ bls) := HBL.out.no ((Kept.refl No _).alloc _)
               have HAE : Hid (OwE (wk42.alloc (.cells (La.cells laZ) 64)) w.heap.size ⟨aa, an, ac⟩ aes) := HAE.out.no ((Kept.refl No _).alloc _)
               have HAL : Hid (OwL (wk42.alloc (.cells (La.cells laZ) 64)) w.heap.size ⟨ma, mn, mc⟩ als) := HAL.out.no ((Kept.refl No _).alloc _)
               have HNE : Hid (OwE (wk42.alloc (.cells (La.cells laZ) 64)) w.heap.size ⟨qa, qn, qc⟩ R.1.es) := HNE.out.no ((Kept.refl No _).alloc _)
               have HNL : Hid (OwL (wk42.alloc (.cells (La.cells laZ) 64)) w.heap.size ⟨ra, rn, rc⟩ R.1.ls) := HNL.out.no ((Kept.refl No _).alloc _)
               have HKs : Hid (Kept No wk42 (wk42.alloc (.cells (La.cells laZ) 64))) := HKs.out.no ((Kept.refl No _).alloc _)
               have HF : Hid (Fr No w (wk42.alloc (.cells (La.cells laZ) 64)) [(gk1, 25, Bv.cells ⟨bu, ⟨ba, bn, bc⟩, ⟨la, ln, lc⟩⟩), (gk3, 25, Bv.cells ⟨au, ⟨aa, an, ac⟩, ⟨ma, mn, mc⟩⟩), (gk5, 29, Cm.cells x), (gk11, 25, Bv.cells ⟨R.1.up, ⟨qa, qn, qc⟩, ⟨ra, rn, rc⟩⟩), (gk13, 56, Av.cells ⟨R.2.er, R.2.e, ⟨xa, xn, xc⟩⟩), (gk35, 54, En.cells (findE bes nm)), (gk39, 54, En.cells (findE R.1.es nm)), (wk42.heap.size, 64, La.cells laZ)]) := HF.out.alloc _ _
               generalize wk42.alloc (.cells (La.cells laZ) 64) = wk44 at HF HBE HBL HAE HAL HNE HNL HKs ⊢
               obtain ⟨gk43, hg⟩ : ∃ g, g = wk42.heap.size := ⟨_, rfl⟩
               have HG_gk43 : Hid (wk42.heap.size ≤ gk43) := by show _ ≤ _; rw [hg]; exact HG_gk43.out
               rw [← hg] at HF ⊢
               clear hg
               refine wp_storeW 64 _ _ rfl ⟨gk43, 0, none⟩ (.agg (La.cells (findL bls ((j : Nat) : Int)))) (by kernel_rfl) (by kernel_rfl) (wk44.setRow gk43 (La.cells (findL bls ((j : Nat) : Int)))) (st64 (HF.out.box 7 _ _ _ rfl) rfl) (by kernel_rfl) ?_
               try simp only [pA, pB, p1, p2, p3]
               have HBE : Hid (OwE (wk44.setRow gk43 (La.cells (findL bls ((j : Nat) : Int)))) w.heap.size ⟨ba, bn, bc⟩ bes) := HBE_s.out.no (HKs.out.newRow HG_gk43.out _)
               have HBL : Hid (OwL (wk44.setRow gk43 (La.cells (findL bls ((j : Nat) : Int)))) w.heap.size ⟨la, ln, lc⟩ bls) := HBL_s.out.no (HKs.out.newRow HG_gk43.out _)
               have HAE : Hid (OwE (wk44.setRow gk43 (La.cells (findL bls ((j : Nat) : Int)))) w.heap.size ⟨aa, an, ac⟩ aes) := HAE_s.out.no (HKs.out.newRow HG_gk43.out _)
               have HAL : Hid (OwL (wk44.setRow gk43 (La.cells (findL bls ((j : Nat) : Int)))) w.heap.size ⟨ma, mn, mc⟩ als) := HAL_s.out.no (HKs.out.newRow HG_gk43.out _)
               have HNE : Hid (OwE (wk44.setRow gk43 (La.cells (findL bls ((j : Nat) : Int)))) w.heap.size ⟨qa, qn, qc⟩ R.1.es) := HNE_s.out.no (HKs.out.newRow HG_gk43.out _)
               have HNL : Hid (OwL (wk44.setRow gk43 (La.cells (findL bls ((j : Nat) : Int)))) w.heap.size ⟨ra, rn, rc⟩ R.1.ls) := HNL_s.out.no (HKs.out.newRow HG_gk43.out _)
               have HKs : Hid (Kept No wk42 (wk44.setRow gk43 (La.cells (findL bls ((j : Nat) : Int))))) := HKs.out.newRow HG_gk43.out _
               have HF : Hid (Fr No w (wk44.setRow gk43 (La.cells (findL bls ((j : Nat) : Int)))) [(gk1, 25, Bv.cells ⟨bu, ⟨ba, bn, bc⟩, ⟨la, ln, lc⟩⟩), (gk3, 25, Bv.cells ⟨au, ⟨aa, an, ac⟩, ⟨ma, mn, mc⟩⟩), (gk5, 29, Cm.cells x), (gk11, 25, Bv.cells ⟨R.1.up, ⟨qa, qn, qc⟩, ⟨ra, rn, rc⟩⟩), (gk13, 56, Av.cells ⟨R.2.er, R.2.e, ⟨xa, xn, xc⟩⟩), (gk35, 54, En.cells (findE bes nm)), (gk39, 54, En.cells (findE R.1.es nm)), (gk43, 64, La.cells (findL bls ((j : Nat) : Int)))]) := HF.out.set 7 rfl _
               generalize wk44.setRow gk43 (La.cells (findL bls ((j : Nat) : Int))) = wk45 at HF HBE HBL HAE HAL HNE HNL HKs ⊢
               refine wp_takeW (.bool (lIs bls ((j : Nat) : Int))) (by kernel_rfl) (by kernel_rfl) ?_
               try simp only [pA, pB, p1, p2, p3]
               refine WL.nil ?_
               try simp only [pA, pB, p1, p2, p3]
               clear HKs HBE_s HBL_s HAE_s HAL_s HNE_s HNL_s HG_gk43
               go_upto_region 20 with fail
               refine WL.start ?_
               refine wp_takeW (.agg (Bv.cells ⟨R.1.up, ⟨qa, qn, qc⟩, ⟨ra, rn, rc⟩⟩)) (exec_load 25 _ rfl ⟨gk11, 0, none⟩ (by kernel_rfl) (.agg (Bv.cells ⟨R.1.up, ⟨qa, qn, qc⟩, ⟨ra, rn, rc⟩⟩)) (ld25 (HF.out.box 3 _ _ _ rfl))) (by kernel_rfl) ?_
               try simp only [pA, pB, p1, p2, p3]
               refine wp_takeW (.int .i64 ((j : Nat) : Int)) (by kernel_rfl) (by kernel_rfl) ?_
               try simp only [pA, pB, p1, p2, p3]
               refine wp_callW 25 #[.agg (Bv.cells ⟨R.1.up, ⟨qa, qn, qc⟩, ⟨ra, rn, rc⟩⟩), .int .i64 ((j : Nat) : Int)] (by kernel_rfl) _ (last_any R.1.up ra rn rc ⟨qa, qn, qc⟩ R.1.ls ((j : Nat) : Int) _ HNL.out.len (by omega) HNL.out.rd.row) (by kernel_rfl) ?_
               rintro e wk46 ⟨rfl, hk⟩
               have HBE : Hid (OwE (wk46) w.heap.size ⟨ba, bn, bc⟩ bes) := HBE.out.no hk
               have HBL : Hid (OwL (wk46) w.heap.size ⟨la, ln, lc⟩ bls) := HBL.out.no hk
               have HAE : Hid (OwE (wk46) w.heap.size ⟨aa, an, ac⟩ aes) := HAE.out.no hk
               have HAL : Hid (OwL (wk46) w.heap.size ⟨ma, mn, mc⟩ als) := HAL.out.no hk
               have HNE : Hid (OwE (wk46) w.heap.size ⟨qa, qn, qc⟩ R.1.es) := HNE.out.no hk
               have HNL : Hid (OwL (wk46) w.heap.size ⟨ra, rn, rc⟩ R.1.ls) := HNL.out.no hk
               have HF : Hid (Fr No w (wk46) [(gk1, 25, Bv.cells ⟨bu, ⟨ba, bn, bc⟩, ⟨la, ln, lc⟩⟩), (gk3, 25, Bv.cells ⟨au, ⟨aa, an, ac⟩, ⟨ma, mn, mc⟩⟩), (gk5, 29, Cm.cells x), (gk11, 25, Bv.cells ⟨R.1.up, ⟨qa, qn, qc⟩, ⟨ra, rn, rc⟩⟩), (gk13, 56, Av.cells ⟨R.2.er, R.2.e, ⟨xa, xn, xc⟩⟩), (gk35, 54, En.cells (findE bes nm)), (gk39, 54, En.cells (findE R.1.es nm)), (gk43, 64, La.cells (findL bls ((j : Nat) : Int)))]) := HF.out.no hk
               clear hk
               refine ⟨.tuple #[.agg (La.cells (findL R.1.ls ((j : Nat) : Int))), .bool (lIs R.1.ls ((j : Nat) : Int))], rfl, ?_⟩
               try simp only [pA, pB, p1, p2, p3]
               refine wp_takeW (.tuple #[.agg (La.cells (findL R.1.ls ((j : Nat) : Int))), .bool (lIs R.1.ls ((j : Nat) : Int))]) (by kernel_rfl) (by kernel_rfl) ?_
               try simp only [pA, pB, p1, p2, p3]
               refine wp_takeW (.agg (La.cells (findL R.1.ls ((j : Nat) : Int)))) (by kernel_rfl) (by kernel_rfl) ?_
               try simp only [pA, pB, p1, p2, p3]
               refine wp_takeW (.bool (lIs R.1.ls ((j : Nat) : Int))) (by kernel_rfl) (by kernel_rfl) ?_
               try simp only [pA, pB, p1, p2, p3]
               refine wp_runW (.pointer (some ⟨wk46.heap.size, 0, none⟩)) (wk46.alloc (.cells (La.cells laZ) 64)) (exec_alloc 64 rfl (La.cells laZ) zero64) (by kernel_rfl) ?_
               try simp only [pA, pB, p1, p2, p3]
               have HBE_s : Hid (OwE wk46 w.heap.size ⟨ba, bn, bc⟩ bes) := HBE
               have HBL_s : Hid (OwL wk46 w.heap.size ⟨la, ln, lc⟩ bls) := HBL
               have HAE_s : Hid (OwE wk46 w.heap.size ⟨aa, an, ac⟩ aes) := HAE
               have HAL_s : Hid (OwL wk46 w.heap.size ⟨ma, mn, mc⟩ als) := HAL
               have HNE_s : Hid (OwE wk46 w.heap.size ⟨qa, qn, qc⟩ R.1.es) := HNE
               have HNL_s : Hid (OwL wk46 w.heap.size ⟨ra, rn, rc⟩ R.1.ls) := HNL
               have HKs : Hid (Kept No wk46 wk46) := Kept.refl _ _
               have HG_gk47 : Hid (wk46.heap.size ≤ wk46.heap.size) := Nat.le_refl _
               have HBE : Hid (OwE (wk46.alloc (.cells (La.cells laZ) 64)) w.heap.size ⟨ba, bn, bc⟩ bes) := HBE.out.no ((Kept.refl No _).alloc _)
               have HBL : Hid (OwL (wk46.alloc (.cells (La.cells laZ) 64)) w.heap.size ⟨la, ln, lc⟩ bls) := HBL.out.no ((Kept.refl No _).alloc _)
               have HAE : Hid (OwE (wk46.alloc (.cells (La.cells laZ) 64)) w.heap.size ⟨aa, an, ac⟩ aes) := HAE.out.no ((Kept.refl No _).alloc _)
               have HAL : Hid (OwL (wk46.alloc (.cells (La.cells laZ) 64)) w.heap.size ⟨ma, mn, mc⟩ als) := HAL.out.no ((Kept.refl No _).alloc _)
               have HNE : Hid (OwE (wk46.alloc (.cells (La.cells laZ) 64)) w.heap.size ⟨qa, qn, qc⟩ R.1.es) := HNE.out.no ((Kept.refl No _).alloc _)
               have HNL : Hid (OwL (wk46.alloc (.cells (La.cells laZ) 64)) w.heap.size ⟨ra, rn, rc⟩ R.1.ls) := HNL.out.no ((Kept.refl No _).alloc _)
               have HKs : Hid (Kept No wk46 (wk46.alloc (.cells (La.cells laZ) 64))) := HKs.out.no ((Kept.refl No _).alloc _)
               have HF : Hid (Fr No w (wk46.alloc (.cells (La.cells laZ) 64)) [(gk1, 25, Bv.cells ⟨bu, ⟨ba, bn, bc⟩, ⟨la, ln, lc⟩⟩), (gk3, 25, Bv.cells ⟨au, ⟨aa, an, ac⟩, ⟨ma, mn, mc⟩⟩), (gk5, 29, Cm.cells x), (gk11, 25, Bv.cells ⟨R.1.up, ⟨qa, qn, qc⟩, ⟨ra, rn, rc⟩⟩), (gk13, 56, Av.cells ⟨R.2.er, R.2.e, ⟨xa, xn, xc⟩⟩), (gk35, 54, En.cells (findE bes nm)), (gk39, 54, En.cells (findE R.1.es nm)), (gk43, 64, La.cells (findL bls ((j : Nat) : Int))), (wk46.heap.size, 64, La.cells laZ)]) := HF.out.alloc _ _
               generalize wk46.alloc (.cells (La.cells laZ) 64) = wk48 at HF HBE HBL HAE HAL HNE HNL HKs ⊢
               obtain ⟨gk47, hg⟩ : ∃ g, g = wk46.heap.size := ⟨_, rfl⟩
               have HG_gk47 : Hid (wk46.heap.size ≤ gk47) := by show _ ≤ _; rw [hg]; exact HG_gk47.out
               rw [← hg] at HF ⊢
               clear hg
               refine wp_storeW 64 _ _ rfl ⟨gk47, 0, none⟩ (.agg (La.cells (findL R.1.ls ((j : Nat) : Int)))) (by kernel_rfl) (by kernel_rfl) (wk48.setRow gk47 (La.cells (findL R.1.ls ((j : Nat) : Int)))) (st64 (HF.out.box 8 _ _ _ rfl) rfl) (by kernel_rfl) ?_
               try simp only [pA, pB, p1, p2, p3]
               have HBE : Hid (OwE (wk48.setRow gk47 (La.cells (findL R.1.ls ((j : Nat) : Int)))) w.heap.size ⟨ba, bn, bc⟩ bes) := HBE_s.out.no (HKs.out.newRow HG_gk47.out _)
               have HBL : Hid (OwL (wk48.setRow gk47 (La.cells (findL R.1.ls ((j : Nat) : Int)))) w.heap.size ⟨la, ln, lc⟩ bls) := HBL_s.out.no (HKs.out.newRow HG_gk47.out _)
               have HAE : Hid (OwE (wk48.setRow gk47 (La.cells (findL R.1.ls ((j : Nat) : Int)))) w.heap.size ⟨aa, an, ac⟩ aes) := HAE_s.out.no (HKs.out.newRow HG_gk47.out _)
               have HAL : Hid (OwL (wk48.setRow gk47 (La.cells (findL R.1.ls ((j : Nat) : Int)))) w.heap.size ⟨ma, mn, mc⟩ als) := HAL_s.out.no (HKs.out.newRow HG_gk47.out _)
               have HNE : Hid (OwE (wk48.setRow gk47 (La.cells (findL R.1.ls ((j : Nat) : Int)))) w.heap.size ⟨qa, qn, qc⟩ R.1.es) := HNE_s.out.no (HKs.out.newRow HG_gk47.out _)
               have HNL : Hid (OwL (wk48.setRow gk47 (La.cells (findL R.1.ls ((j : Nat) : Int)))) w.heap.size ⟨ra, rn, rc⟩ R.1.ls) := HNL_s.out.no (HKs.out.newRow HG_gk47.out _)
               have HKs : Hid (Kept No wk46 (wk48.setRow gk47 (La.cells (findL R.1.ls ((j : Nat) : Int))))) := HKs.out.newRow HG_gk47.out _
               have HF : Hid (Fr No w (wk48.setRow gk47 (La.cells (findL R.1.ls ((j : Nat) : Int)))) [(gk1, 25, Bv.cells ⟨bu, ⟨ba, bn, bc⟩, ⟨la, ln, lc⟩⟩), (gk3, 25, Bv.cells ⟨au, ⟨aa, an, ac⟩, ⟨ma, mn, mc⟩⟩), (gk5, 29, Cm.cells x), (gk11, 25, Bv.cells ⟨R.1.up, ⟨qa, qn, qc⟩, ⟨ra, rn, rc⟩⟩), (gk13, 56, Av.cells ⟨R.2.er, R.2.e, ⟨xa, xn, xc⟩⟩), (gk35, 54, En.cells (findE bes nm)), (gk39, 54, En.cells (findE R.1.es nm)), (gk43, 64, La.cells (findL bls ((j : Nat) : Int))), (gk47, 64, La.cells (findL R.1.ls ((j : Nat) : Int)))]) := HF.out.set 8 rfl _
               generalize wk48.setRow gk47 (La.cells (findL R.1.ls ((j : Nat) : Int))) = wk49 at HF HBE HBL HAE HAL HNE HNL HKs ⊢
               refine wp_takeW (.bool (lIs R.1.ls ((j : Nat) : Int))) (by kernel_rfl) (by kernel_rfl) ?_
               try simp only [pA, pB, p1, p2, p3]
               refine WL.nil ?_
               try simp only [pA, pB, p1, p2, p3]
               clear HKs HBE_s HBL_s HAE_s HAL_s HNE_s HNL_s HG_gk47
               go_upto_region 21 with fail
               refine WL.start ?_
               refine wp_takeW (.int .i64 ((j : Nat) : Int)) (by kernel_rfl) (by kernel_rfl) ?_
               try simp only [pA, pB, p1, p2, p3]
               refine wp_takeW (.pointer (some ⟨gk5, 1, none⟩)) (by kernel_rfl) (by kernel_rfl) ?_
               try simp only [pA, pB, p1, p2, p3]
               refine wp_takeW (.int .i64 x.cl) (exec_load 3 _ rfl ⟨gk5, 1, none⟩ (by kernel_rfl) (.int .i64 x.cl) (ld3 ((HF.out.box 2 _ _ _ rfl).cell 1))) (by kernel_rfl) ?_
               try simp only [pA, pB, p1, p2, p3]
               cases q7 : (((j : Nat) : Int) == x.cl)
               ·skip
                refine wp_takeW (.bool true) (exec_bin .neq 3 _ _ _ rfl (.int .i64 ((j : Nat) : Int)) (.int .i64 x.cl) (.bool true) (by kernel_rfl) (by kernel_rfl) (by kernel_rfl) (by rw [b_neq, q7]; try rfl)) (by kernel_rfl) ?_
                try simp only [pA, pB, p1, p2, p3]
                refine wp_takeW (.bool true) (by kernel_rfl) (by kernel_rfl) ?_
                try simp only [pA, pB, p1, p2, p3]
                refine wp_skip (by kernel_rfl) ?_
                try simp only [pA, pB, p1, p2, p3]
                refine wp_skip (by kernel_rfl) ?_
                try simp only [pA, pB, p1, p2, p3]
                refine wp_skip (by kernel_rfl) ?_
                try simp only [pA, pB, p1, p2, p3]
                refine wp_takeW (.bool true) (by kernel_rfl) (by kernel_rfl) ?_
                try simp only [pA, pB, p1, p2, p3]
                refine wp_takeW (.bool true) (by kernel_rfl) (by kernel_rfl) ?_
                try simp only [pA, pB, p1, p2, p3]
                refine wp_skip (by kernel_rfl) ?_
                try simp only [pA, pB, p1, p2, p3]
                refine wp_skip (by kernel_rfl) ?_
                try simp only [pA, pB, p1, p2, p3]
                refine wp_skip (by kernel_rfl) ?_
                try simp only [pA, pB, p1, p2, p3]
                refine wp_takeW (.bool true) (by kernel_rfl) (by kernel_rfl) ?_
                try simp only [pA, pB, p1, p2, p3]
                refine wp_takeW (.bool true) (by kernel_rfl) (by kernel_rfl) ?_
                try simp only [pA, pB, p1, p2, p3]
                refine wp_takeW (.bool (lIs bls ((j : Nat) : Int))) (by kernel_rfl) (by kernel_rfl) ?_
                try simp only [pA, pB, p1, p2, p3]
                refine wp_takeW (.bool (lIs R.1.ls ((j : Nat) : Int))) (by kernel_rfl) (by kernel_rfl) ?_
                try simp only [pA, pB, p1, p2, p3]
                refine wp_takeW (.bool false) (exec_bin .neq 4 _ _ _ rfl (.bool (lIs bls ((j : Nat) : Int))) (.bool (lIs R.1.ls ((j : Nat) : Int))) (.bool false) (by kernel_rfl) (by kernel_rfl) (by kernel_rfl) (by rw [(HLS.out _ (.inl (by have h := q7; simpa using h))).1]; exact b_neqB _ _)) (by kernel_rfl) ?_
                try simp only [pA, pB, p1, p2, p3]
                refine wp_takeW (.bool false) (by kernel_rfl) (by kernel_rfl) ?_
                try simp only [pA, pB, p1, p2, p3]
                refine wp_takeW (.agg (La.cells (findL bls ((j : Nat) : Int)))) (exec_load 64 _ rfl ⟨gk43, 0, none⟩ (by kernel_rfl) (.agg (La.cells (findL bls ((j : Nat) : Int)))) (ld64 (HF.out.box 7 _ _ _ rfl))) (by kernel_rfl) ?_
                try simp only [pA, pB, p1, p2, p3]
                refine wp_takeW (.agg (La.cells (findL R.1.ls ((j : Nat) : Int)))) (exec_load 64 _ rfl ⟨gk47, 0, none⟩ (by kernel_rfl) (.agg (La.cells (findL R.1.ls ((j : Nat) : Int)))) (ld64 (HF.out.box 8 _ _ _ rfl))) (by kernel_rfl) ?_
                try simp only [pA, pB, p1, p2, p3]
                refine wp_takeW (.bool false) (exec_bin .neq 64 _ _ _ rfl (.agg (La.cells (findL bls ((j : Nat) : Int)))) (.agg (La.cells (findL R.1.ls ((j : Nat) : Int)))) (.bool false) (by kernel_rfl) (by kernel_rfl) (by kernel_rfl) (by rw [(HLS.out _ (.inl (by have h := q7; simpa using h))).2, eqL_neq, eqL_iff.2 rfl]; rfl)) (by kernel_rfl) ?_
                try simp only [pA, pB, p1, p2, p3]
                refine wp_takeW (.bool false) (by kernel_rfl) (by kernel_rfl) ?_
                try simp only [pA, pB, p1, p2, p3]
                refine wp_takeW (.bool false) (by kernel_rfl) (by kernel_rfl) ?_
                try simp only [pA, pB, p1, p2, p3]
                refine WL.nil ?_
                try simp only [pA, pB, p1, p2, p3]
                have HF : Hid (Fr No w wk49 [(gk1, 25, Bv.cells ⟨bu, ⟨ba, bn, bc⟩, ⟨la, ln, lc⟩⟩), (gk3, 25, Bv.cells ⟨au, ⟨aa, an, ac⟩, ⟨ma, mn, mc⟩⟩), (gk5, 29, Cm.cells x), (gk11, 25, Bv.cells ⟨R.1.up, ⟨qa, qn, qc⟩, ⟨ra, rn, rc⟩⟩), (gk13, 56, Av.cells ⟨R.2.er, R.2.e, ⟨xa, xn, xc⟩⟩), (gk35, 54, En.cells (findE bes nm)), (gk39, 54, En.cells (findE R.1.es nm))]) := (show Fr No w wk49 ([(gk1, 25, Bv.cells ⟨bu, ⟨ba, bn, bc⟩, ⟨la, ln, lc⟩⟩), (gk3, 25, Bv.cells ⟨au, ⟨aa, an, ac⟩, ⟨ma, mn, mc⟩⟩), (gk5, 29, Cm.cells x), (gk11, 25, Bv.cells ⟨R.1.up, ⟨qa, qn, qc⟩, ⟨ra, rn, rc⟩⟩), (gk13, 56, Av.cells ⟨R.2.er, R.2.e, ⟨xa, xn, xc⟩⟩), (gk35, 54, En.cells (findE bes nm)), (gk39, 54, En.cells (findE R.1.es nm))] ++ [(gk43, 64, La.cells (findL bls ((j : Nat) : Int))), (gk47, 64, La.cells (findL R.1.ls ((j : Nat) : Int)))]) from HF.out).front
                go_wp2
                go_roundw
                case rel => exact ⟨j + 1, by go_num, by omega, by omega, HF, HBE, HBL, HAE, HAL, HNE, HNL⟩
                case measure => simp [intOf]; omega
               ·skip
                refine wp_takeW (.bool false) (exec_bin .neq 3 _ _ _ rfl (.int .i64 ((j : Nat) : Int)) (.int .i64 x.cl) (.bool false) (by kernel_rfl) (by kernel_rfl) (by kernel_rfl) (by rw [b_neq, q7]; try rfl)) (by kernel_rfl) ?_
                try simp only [pA, pB, p1, p2, p3]
                refine wp_takeW (.bool false) (by kernel_rfl) (by kernel_rfl) ?_
                try simp only [pA, pB, p1, p2, p3]
                refine wp_takeW (.pointer (some ⟨gk5, 0, none⟩)) (by kernel_rfl) (by kernel_rfl) ?_
                try simp only [pA, pB, p1, p2, p3]
                refine wp_takeW (.int .i64 x.k) (exec_load 3 _ rfl ⟨gk5, 0, none⟩ (by kernel_rfl) (.int .i64 x.k) (ld3 ((HF.out.box 2 _ _ _ rfl).cell 0))) (by kernel_rfl) ?_
                try simp only [pA, pB, p1, p2, p3]
                cases q8 : (x.k == 3)
                ·skip
                 refine wp_takeW (.bool false) (exec_bin .eql 3 _ _ _ rfl (.int .i64 x.k) (.int .i64 3) (.bool false) (by kernel_rfl) (by kernel_rfl) (by kernel_rfl) (by rw [b_eql, q8]; try rfl)) (by kernel_rfl) ?_
                 try simp only [pA, pB, p1, p2, p3]
                 refine wp_takeW (.bool false) (by kernel_rfl) (by kernel_rfl) ?_
                 try simp only [pA, pB, p1, p2, p3]
                 refine wp_takeW (.bool false) (by kernel_rfl) (by kernel_rfl) ?_
                 try simp only [pA, pB, p1, p2, p3]
                 refine wp_takeW (.pointer (some ⟨gk5, 0, none⟩)) (by kernel_rfl) (by kernel_rfl) ?_
                 try simp only [pA, pB, p1, p2, p3]
                 refine wp_takeW (.int .i64 x.k) (exec_load 3 _ rfl ⟨gk5, 0, none⟩ (by kernel_rfl) (.int .i64 x.k) (ld3 ((HF.out.box 2 _ _ _ rfl).cell 0))) (by kernel_rfl) ?_
                 try simp only [pA, pB, p1, p2, p3]
                 cases q9 : (x.k == 4)
                 ·skip
                  refine wp_takeW (.bool false) (exec_bin .eql 3 _ _ _ rfl (.int .i64 x.k) (.int .i64 4) (.bool false) (by kernel_rfl) (by kernel_rfl) (by kernel_rfl) (by rw [b_eql, q9]; try rfl)) (by kernel_rfl) ?_
                  try simp only [pA, pB, p1, p2, p3]
                  refine wp_takeW (.bool false) (by kernel_rfl) (by kernel_rfl) ?_
                  try simp only [pA, pB, p1, p2, p3]
                  refine wp_takeW (.bool false) (by kernel_rfl) (by kernel_rfl) ?_
                  try simp only [pA, pB, p1, p2, p3]
                  refine wp_skip (by kernel_rfl) ?_
                  try simp only [pA, pB, p1, p2, p3]
                  refine wp_skip (by kernel_rfl) ?_
                  try simp only [pA, pB, p1, p2, p3]
                  refine wp_skip (by kernel_rfl) ?_
                  try simp only [pA, pB, p1, p2, p3]
                  refine wp_skip (by kernel_rfl) ?_
                  try simp only [pA, pB, p1, p2, p3]
                  refine wp_skip (by kernel_rfl) ?_
                  try simp only [pA, pB, p1, p2, p3]
                  refine wp_skip (by kernel_rfl) ?_
                  try simp only [pA, pB, p1, p2, p3]
                  refine wp_skip (by kernel_rfl) ?_
                  try simp only [pA, pB, p1, p2, p3]
                  refine wp_skip (by kernel_rfl) ?_
                  try simp only [pA, pB, p1, p2, p3]
                  refine wp_takeW (.bool false) (by kernel_rfl) (by kernel_rfl) ?_
                  try simp only [pA, pB, p1, p2, p3]
                  refine WL.nil ?_
                  try simp only [pA, pB, p1, p2, p3]
                  have HF : Hid (Fr No w wk49 [(gk1, 25, Bv.cells ⟨bu, ⟨ba, bn, bc⟩, ⟨la, ln, lc⟩⟩), (gk3, 25, Bv.cells ⟨au, ⟨aa, an, ac⟩, ⟨ma, mn, mc⟩⟩), (gk5, 29, Cm.cells x), (gk11, 25, Bv.cells ⟨R.1.up, ⟨qa, qn, qc⟩, ⟨ra, rn, rc⟩⟩), (gk13, 56, Av.cells ⟨R.2.er, R.2.e, ⟨xa, xn, xc⟩⟩), (gk35, 54, En.cells (findE bes nm)), (gk39, 54, En.cells (findE R.1.es nm))]) := (show Fr No w wk49 ([(gk1, 25, Bv.cells ⟨bu, ⟨ba, bn, bc⟩, ⟨la, ln, lc⟩⟩), (gk3, 25, Bv.cells ⟨au, ⟨aa, an, ac⟩, ⟨ma, mn, mc⟩⟩), (gk5, 29, Cm.cells x), (gk11, 25, Bv.cells ⟨R.1.up, ⟨qa, qn, qc⟩, ⟨ra, rn, rc⟩⟩), (gk13, 56, Av.cells ⟨R.2.er, R.2.e, ⟨xa, xn, xc⟩⟩), (gk35, 54, En.cells (findE bes nm)), (gk39, 54, En.cells (findE R.1.es nm))] ++ [(gk43, 64, La.cells (findL bls ((j : Nat) : Int))), (gk47, 64, La.cells (findL R.1.ls ((j : Nat) : Int)))]) from HF.out).front
                  go_wp2
                  go_roundw
                  case rel => exact ⟨j + 1, by go_num, by omega, by omega, HF, HBE, HBL, HAE, HAL, HNE, HNL⟩
                  case measure => simp [intOf]; omega
                 ·skip
                  refine wp_takeW (.bool true) (exec_bin .eql 3 _ _ _ rfl (.int .i64 x.k) (.int .i64 4) (.bool true) (by kernel_rfl) (by kernel_rfl) (by kernel_rfl) (by rw [b_eql, q9]; try rfl)) (by kernel_rfl) ?_
                  try simp only [pA, pB, p1, p2, p3]
                  refine wp_takeW (.bool true) (by kernel_rfl) (by kernel_rfl) ?_
                  try simp only [pA, pB, p1, p2, p3]
                  refine wp_takeW (.bool true) (by kernel_rfl) (by kernel_rfl) ?_
                  try simp only [pA, pB, p1, p2, p3]
                  refine wp_takeW (.bool (lIs bls ((j : Nat) : Int))) (by kernel_rfl) (by kernel_rfl) ?_
                  try simp only [pA, pB, p1, p2, p3]
                  refine wp_takeW (.bool (lIs R.1.ls ((j : Nat) : Int))) (by kernel_rfl) (by kernel_rfl) ?_
                  try simp only [pA, pB, p1, p2, p3]
                  refine wp_takeW (.bool false) (exec_bin .neq 4 _ _ _ rfl (.bool (lIs bls ((j : Nat) : Int))) (.bool (lIs R.1.ls ((j : Nat) : Int))) (.bool false) (by kernel_rfl) (by kernel_rfl) (by kernel_rfl) (by rw [(HLS.out _ (.inr (by unfold quest; rw [q9]; exact Bool.or_true _))).1]; exact b_neqB _ _)) (by kernel_rfl) ?_
                  try simp only [pA, pB, p1, p2, p3]
                  refine wp_takeW (.bool false) (by kernel_rfl) (by kernel_rfl) ?_
                  try simp only [pA, pB, p1, p2, p3]
                  refine wp_takeW (.agg (La.cells (findL bls ((j : Nat) : Int)))) (exec_load 64 _ rfl ⟨gk43, 0, none⟩ (by kernel_rfl) (.agg (La.cells (findL bls ((j : Nat) : Int)))) (ld64 (HF.out.box 7 _ _ _ rfl))) (by kernel_rfl) ?_
                  try simp only [pA, pB, p1, p2, p3]
                  refine wp_takeW (.agg (La.cells (findL R.1.ls ((j : Nat) : Int)))) (exec_load 64 _ rfl ⟨gk47, 0, none⟩ (by kernel_rfl) (.agg (La.cells (findL R.1.ls ((j : Nat) : Int)))) (ld64 (HF.out.box 8 _ _ _ rfl))) (by kernel_rfl) ?_
                  try simp only [pA, pB, p1, p2, p3]
                  refine wp_takeW (.bool false) (exec_bin .neq 64 _ _ _ rfl (.agg (La.cells (findL bls ((j : Nat) : Int)))) (.agg (La.cells (findL R.1.ls ((j : Nat) : Int)))) (.bool false) (by kernel_rfl) (by kernel_rfl) (by kernel_rfl) (by rw [(HLS.out _ (.inr (by unfold quest; rw [q9]; exact Bool.or_true _))).2, eqL_neq, eqL_iff.2 rfl]; rfl)) (by kernel_rfl) ?_
                  try simp only [pA, pB, p1, p2, p3]
                  refine wp_takeW (.bool false) (by kernel_rfl) (by kernel_rfl) ?_
                  try simp only [pA, pB, p1, p2, p3]
                  refine wp_takeW (.bool false) (by kernel_rfl) (by kernel_rfl) ?_
                  try simp only [pA, pB, p1, p2, p3]
                  refine WL.nil ?_
                  try simp only [pA, pB, p1, p2, p3]
                  have HF : Hid (Fr No w wk49 [(gk1, 25, Bv.cells ⟨bu, ⟨ba, bn, bc⟩, ⟨la, ln, lc⟩⟩), (gk3, 25, Bv.cells ⟨au, ⟨aa, an, ac⟩, ⟨ma, mn, mc⟩⟩), (gk5, 29, Cm.cells x), (gk11, 25, Bv.cells ⟨R.1.up, ⟨qa, qn, qc⟩, ⟨ra, rn, rc⟩⟩), (gk13, 56, Av.cells ⟨R.2.er, R.2.e, ⟨xa, xn, xc⟩⟩), (gk35, 54, En.cells (findE bes nm)), (gk39, 54, En.cells (findE R.1.es nm))]) := (show Fr No w wk49 ([(gk1, 25, Bv.cells ⟨bu, ⟨ba, bn, bc⟩, ⟨la, ln, lc⟩⟩), (gk3, 25, Bv.cells ⟨au, ⟨aa, an, ac⟩, ⟨ma, mn, mc⟩⟩), (gk5, 29, Cm.cells x), (gk11, 25, Bv.cells ⟨R.1.up, ⟨qa, qn, qc⟩, ⟨ra, rn, rc⟩⟩), (gk13, 56, Av.cells ⟨R.2.er, R.2.e, ⟨xa, xn, xc⟩⟩), (gk35, 54, En.cells (findE bes nm)), (gk39, 54, En.cells (findE R.1.es nm))] ++ [(gk43, 64, La.cells (findL bls ((j : Nat) : Int))), (gk47, 64, La.cells (findL R.1.ls ((j : Nat) : Int)))]) from HF.out).front
                  go_wp2
                  go_roundw
                  case rel => exact ⟨j + 1, by go_num, by omega, by omega, HF, HBE, HBL, HAE, HAL, HNE, HNL⟩
                  case measure => simp [intOf]; omega
                ·skip
                 refine wp_takeW (.bool true) (exec_bin .eql 3 _ _ _ rfl (.int .i64 x.k) (.int .i64 3) (.bool true) (by kernel_rfl) (by kernel_rfl) (by kernel_rfl) (by rw [b_eql, q8]; try rfl)) (by kernel_rfl) ?_
                 try simp only [pA, pB, p1, p2, p3]
                 refine wp_takeW (.bool true) (by kernel_rfl) (by kernel_rfl) ?_
                 try simp only [pA, pB, p1, p2, p3]
                 refine wp_takeW (.bool true) (by kernel_rfl) (by kernel_rfl) ?_
                 try simp only [pA, pB, p1, p2, p3]
                 refine wp_skip (by kernel_rfl) ?_
                 try simp only [pA, pB, p1, p2, p3]
                 refine wp_skip (by kernel_rfl) ?_
                 try simp only [pA, pB, p1, p2, p3]
                 refine wp_skip (by kernel_rfl) ?_
                 try simp only [pA, pB, p1, p2, p3]
                 refine wp_takeW (.bool true) (by kernel_rfl) (by kernel_rfl) ?_
                 try simp only [pA, pB, p1, p2, p3]
                 refine wp_takeW (.bool true) (by kernel_rfl) (by kernel_rfl) ?_
                 try simp only [pA, pB, p1, p2, p3]
                 refine wp_takeW (.bool (lIs bls ((j : Nat) : Int))) (by kernel_rfl) (by kernel_rfl) ?_
                 try simp only [pA, pB, p1, p2, p3]
                 refine wp_takeW (.bool (lIs R.1.ls ((j : Nat) : Int))) (by kernel_rfl) (by kernel_rfl) ?_
                 try simp only [pA, pB, p1, p2, p3]
                 refine wp_takeW (.bool false) (exec_bin .neq 4 _ _ _ rfl (.bool (lIs bls ((j : Nat) : Int))) (.bool (lIs R.1.ls ((j : Nat) : Int))) (.bool false) (by kernel_rfl) (by kernel_rfl) (by kernel_rfl) (by rw [(HLS.out _ (.inr (by unfold quest; rw [q8]; rfl))).1]; exact b_neqB _ _)) (by kernel_rfl) ?_
                 try simp only [pA, pB, p1, p2, p3]
                 refine wp_takeW (.bool false) (by kernel_rfl) (by kernel_rfl) ?_
                 try simp only [pA, pB, p1, p2, p3]
                 refine wp_takeW (.agg (La.cells (findL bls ((j : Nat) : Int)))) (exec_load 64 _ rfl ⟨gk43, 0, none⟩ (by kernel_rfl) (.agg (La.cells (findL bls ((j : Nat) : Int)))) (ld64 (HF.out.box 7 _ _ _ rfl))) (by kernel_rfl) ?_
                 try simp only [pA, pB, p1, p2, p3]
                 refine wp_takeW (.agg (La.cells (findL R.1.ls ((j : Nat) : Int)))) (exec_load 64 _ rfl ⟨gk47, 0, none⟩ (by kernel_rfl) (.agg (La.cells (findL R.1.ls ((j : Nat) : Int)))) (ld64 (HF.out.box 8 _ _ _ rfl))) (by kernel_rfl) ?_
                 try simp only [pA, pB, p1, p2, p3]
                 refine wp_takeW (.bool false) (exec_bin .neq 64 _ _ _ rfl (.agg (La.cells (findL bls ((j : Nat) : Int)))) (.agg (La.cells (findL R.1.ls ((j : Nat) : Int)))) (.bool false) (by kernel_rfl) (by kernel_rfl) (by kernel_rfl) (by rw [(HLS.out _ (.inr (by unfold quest; rw [q8]; rfl))).2, eqL_neq, eqL_iff.2 rfl]; rfl)) (by kernel_rfl) ?_
                 try simp only [pA, pB, p1, p2, p3]
                 refine wp_takeW (.bool false) (by kernel_rfl) (by kernel_rfl) ?_
                 try simp only [pA, pB, p1, p2, p3]
                 refine wp_takeW (.bool false) (by kernel_rfl) (by kernel_rfl) ?_
                 try simp only [pA, pB, p1, p2, p3]
                 refine WL.nil ?_
                 try simp only [pA, pB, p1, p2, p3]
                 have HF : Hid (Fr No w wk49 [(gk1, 25, Bv.cells ⟨bu, ⟨ba, bn, bc⟩, ⟨la, ln, lc⟩⟩), (gk3, 25, Bv.cells ⟨au, ⟨aa, an, ac⟩, ⟨ma, mn, mc⟩⟩), (gk5, 29, Cm.cells x), (gk11, 25, Bv.cells ⟨R.1.up, ⟨qa, qn, qc⟩, ⟨ra, rn, rc⟩⟩), (gk13, 56, Av.cells ⟨R.2.er, R.2.e, ⟨xa, xn, xc⟩⟩), (gk35, 54, En.cells (findE bes nm)), (gk39, 54, En.cells (findE R.1.es nm))]) := (show Fr No w wk49 ([(gk1, 25, Bv.cells ⟨bu, ⟨ba, bn, bc⟩, ⟨la, ln, lc⟩⟩), (gk3, 25, Bv.cells ⟨au, ⟨aa, an, ac⟩, ⟨ma, mn, mc⟩⟩), (gk5, 29, Cm.cells x), (gk11, 25, Bv.cells ⟨R.1.up, ⟨qa, qn, qc⟩, ⟨ra, rn, rc⟩⟩), (gk13, 56, Av.cells ⟨R.2.er, R.2.e, ⟨xa, xn, xc⟩⟩), (gk35, 54, En.cells (findE bes nm)), (gk39, 54, En.cells (findE R.1.es nm))] ++ [(gk43, 64, La.cells (findL bls ((j : Nat) : Int))), (gk47, 64, La.cells (findL R.1.ls ((j : Nat) : Int)))]) from HF.out).front
                 go_wp2
                 go_roundw
                 case rel => exact ⟨j + 1, by go_num, by omega, by omega, HF, HBE, HBL, HAE, HAL, HNE, HNL⟩
                 case measure => simp [intOf]; omega
             · skip
               go_upto_region 17 with fail
               refine WL.start ?_
               refine wp_takeW (.int .i64 ((j : Nat) : Int)) (by kernel_rfl) (by kernel_rfl) ?_
               try simp only [pA, pB, p1, p2, p3]
               refine wp_takeW (.bool false) (exec_bin .leq 3 _ _ _ rfl (.int .i64 ((j : Nat) : Int)) (.int .i64 6) (.bool false) (by kernel_rfl) (by kernel_rfl) (by kernel_rfl) (by rw [b_leq, decide_eq_false (by omega)])) (by kernel_rfl) ?_
               try simp only [pA, pB, p1, p2, p3]
               refine WL.nil ?_
               try simp only [pA, pB, p1, p2, p3]
               go_upto_region 23 with fail
               refine WL.start ?_
               refine wp_takeW (.pointer (some ⟨gk5, 3, none⟩)) (by kernel_rfl) (by kernel_rfl) ?_
               try simp only [pA, pB, p1, p2, p3]
               refine wp_takeW (.string x.nm) (exec_load 9 _ rfl ⟨gk5, 3, none⟩ (by kernel_rfl) (.string x.nm) (ld9 ((HF.out.box 2 _ _ _ rfl).cell 3))) (by kernel_rfl) ?_
               try simp only [pA, pB, p1, p2, p3]
               refine wp_takeW (.string nm) (by kernel_rfl) (by kernel_rfl) ?_
               try simp only [pA, pB, p1, p2, p3]
               refine wp_takeW (.bool true) (exec_bin .eql 9 _ _ _ rfl (.string x.nm) (.string nm) (.bool true) (by kernel_rfl) (by kernel_rfl) (by kernel_rfl) (by rw [eqN_eql, q3]; try rfl)) (by kernel_rfl) ?_
               try simp only [pA, pB, p1, p2, p3]
               refine WL.nil ?_
               try simp only [pA, pB, p1, p2, p3]
               go_upto_region 24 with fail
               refine WL.start ?_
               refine wp_takeW (.int .i64 0) (by kernel_rfl) (by kernel_rfl) ?_
               try simp only [pA, pB, p1, p2, p3]
               refine WL.nil ?_
               try simp only [pA, pB, p1, p2, p3]
               go_upto_region 25 with fail
               refine WL.start ?_
               refine wp_takeW (.agg (Bv.cells ⟨au, ⟨aa, an, ac⟩, ⟨ma, mn, mc⟩⟩)) (exec_load 25 _ rfl ⟨gk3, 0, none⟩ (by kernel_rfl) (.agg (Bv.cells ⟨au, ⟨aa, an, ac⟩, ⟨ma, mn, mc⟩⟩)) (ld25 (HF.out.box 1 _ _ _ rfl))) (by kernel_rfl) ?_
               try simp only [pA, pB, p1, p2, p3]
               refine wp_takeW (.agg (Cm.cells x)) (exec_load 29 _ rfl ⟨gk5, 0, none⟩ (by kernel_rfl) (.agg (Cm.cells x)) (ld29 (HF.out.box 2 _ _ _ rfl))) (by kernel_rfl) ?_
               try simp only [pA, pB, p1, p2, p3]
               refine wp_takeW (.int .i64 room) (by kernel_rfl) (by kernel_rfl) ?_
               try simp only [pA, pB, p1, p2, p3]
               refine wp_callW 22 #[.agg (Bv.cells ⟨au, ⟨aa, an, ac⟩, ⟨ma, mn, mc⟩⟩), .agg (Cm.cells x), .int .i64 room] (by kernel_rfl) _ (HAP2.out _ HAE.out.rd HAL.out.rd) (by kernel_rfl) ?_
               rintro e wk50 ⟨⟨ua, un, uc⟩, ⟨va, vn, vc⟩, ⟨ya, yn, yc⟩, rfl, hQ, hR, hX, hD, hk⟩
               have HUE : Hid (OwE wk50 w.heap.size ⟨ua, un, uc⟩ R2.1.es) := hQ.lower HF.out.kept.size
               have HUL : Hid (OwL wk50 w.heap.size ⟨va, vn, vc⟩ R2.1.ls) := hR.lower HF.out.kept.size
               have HBE : Hid (OwE (wk50) w.heap.size ⟨ba, bn, bc⟩ bes) := HBE.out.no hk
               have HBL : Hid (OwL (wk50) w.heap.size ⟨la, ln, lc⟩ bls) := HBL.out.no hk
               have HAE : Hid (OwE (wk50) w.heap.size ⟨aa, an, ac⟩ aes) := HAE.out.no hk
               have HAL : Hid (OwL (wk50) w.heap.size ⟨ma, mn, mc⟩ als) := HAL.out.no hk
               have HNE : Hid (OwE (wk50) w.heap.size ⟨qa, qn, qc⟩ R.1.es) := HNE.out.no hk
               have HNL : Hid (OwL (wk50) w.heap.size ⟨ra, rn, rc⟩ R.1.ls) := HNL.out.no hk
               have HF : Hid (Fr No w (wk50) [(gk1, 25, Bv.cells ⟨bu, ⟨ba, bn, bc⟩, ⟨la, ln, lc⟩⟩), (gk3, 25, Bv.cells ⟨au, ⟨aa, an, ac⟩, ⟨ma, mn, mc⟩⟩), (gk5, 29, Cm.cells x), (gk11, 25, Bv.cells ⟨R.1.up, ⟨qa, qn, qc⟩, ⟨ra, rn, rc⟩⟩), (gk13, 56, Av.cells ⟨R.2.er, R.2.e, ⟨xa, xn, xc⟩⟩), (gk35, 54, En.cells (findE bes nm)), (gk39, 54, En.cells (findE R.1.es nm))]) := HF.out.no hk
               clear hQ hR hX hD hk
               refine ⟨.tuple #[.agg (Bv.cells ⟨R2.1.up, ⟨ua, un, uc⟩, ⟨va, vn, vc⟩⟩), .agg (Av.cells ⟨R2.2.er, R2.2.e, ⟨ya, yn, yc⟩⟩), .int .i64 0], rfl, ?_⟩
               try simp only [pA, pB, p1, p2, p3]
               refine wp_takeW (.tuple #[.agg (Bv.cells ⟨R2.1.up, ⟨ua, un, uc⟩, ⟨va, vn, vc⟩⟩), .agg (Av.cells ⟨R2.2.er, R2.2.e, ⟨ya, yn, yc⟩⟩), .int .i64 0]) (by kernel_rfl) (by kernel_rfl) ?_
               try simp only [pA, pB, p1, p2, p3]
               refine wp_takeW (.agg (Bv.cells ⟨R2.1.up, ⟨ua, un, uc⟩, ⟨va, vn, vc⟩⟩)) (by kernel_rfl) (by kernel_rfl) ?_
               try simp only [pA, pB, p1, p2, p3]
               refine wp_takeW (.agg (Av.cells ⟨R2.2.er, R2.2.e, ⟨ya, yn, yc⟩⟩)) (by kernel_rfl) (by kernel_rfl) ?_
               try simp only [pA, pB, p1, p2, p3]
               refine wp_takeW (.int .i64 0) (by kernel_rfl) (by kernel_rfl) ?_
               try simp only [pA, pB, p1, p2, p3]
               refine wp_storeW 25 _ _ rfl ⟨gk3, 0, none⟩ (.agg (Bv.cells ⟨R2.1.up, ⟨ua, un, uc⟩, ⟨va, vn, vc⟩⟩)) (by kernel_rfl) (by kernel_rfl) (wk50.setRow gk3 (Bv.cells ⟨R2.1.up, ⟨ua, un, uc⟩, ⟨va, vn, vc⟩⟩)) (st25 (HF.out.box 1 _ _ _ rfl) rfl) (by kernel_rfl) ?_
               try simp only [pA, pB, p1, p2, p3]
               have HBE : Hid (OwE (wk50.setRow gk3 (Bv.cells ⟨R2.1.up, ⟨ua, un, uc⟩, ⟨va, vn, vc⟩⟩)) w.heap.size ⟨ba, bn, bc⟩ bes) := HBE.out.kept (Kept.setRow _ _ _) (fun k h e => (HBE.out.own.notBox (HF.out.box 1 _ _ _ rfl) (by decide)) ((show k = gk3 from e) ▸ h))
               have HBL : Hid (OwL (wk50.setRow gk3 (Bv.cells ⟨R2.1.up, ⟨ua, un, uc⟩, ⟨va, vn, vc⟩⟩)) w.heap.size ⟨la, ln, lc⟩ bls) := HBL.out.kept (Kept.setRow _ _ _) (fun k h e => (HBL.out.own.notBox (HF.out.box 1 _ _ _ rfl) (by decide)) ((show k = gk3 from e) ▸ h))
               have HAE : Hid (OwE (wk50.setRow gk3 (Bv.cells ⟨R2.1.up, ⟨ua, un, uc⟩, ⟨va, vn, vc⟩⟩)) w.heap.size ⟨aa, an, ac⟩ aes) := HAE.out.kept (Kept.setRow _ _ _) (fun k h e => (HAE.out.own.notBox (HF.out.box 1 _ _ _ rfl) (by decide)) ((show k = gk3 from e) ▸ h))
               have HAL : Hid (OwL (wk50.setRow gk3 (Bv.cells ⟨R2.1.up, ⟨ua, un, uc⟩, ⟨va, vn, vc⟩⟩)) w.heap.size ⟨ma, mn, mc⟩ als) := HAL.out.kept (Kept.setRow _ _ _) (fun k h e => (HAL.out.own.notBox (HF.out.box 1 _ _ _ rfl) (by decide)) ((show k = gk3 from e) ▸ h))
               have HNE : Hid (OwE (wk50.setRow gk3 (Bv.cells ⟨R2.1.up, ⟨ua, un, uc⟩, ⟨va, vn, vc⟩⟩)) w.heap.size ⟨qa, qn, qc⟩ R.1.es) := HNE.out.kept (Kept.setRow _ _ _) (fun k h e => (HNE.out.own.notBox (HF.out.box 1 _ _ _ rfl) (by decide)) ((show k = gk3 from e) ▸ h))
               have HNL : Hid (OwL (wk50.setRow gk3 (Bv.cells ⟨R2.1.up, ⟨ua, un, uc⟩, ⟨va, vn, vc⟩⟩)) w.heap.size ⟨ra, rn, rc⟩ R.1.ls) := HNL.out.kept (Kept.setRow _ _ _) (fun k h e => (HNL.out.own.notBox (HF.out.box 1 _ _ _ rfl) (by decide)) ((show k = gk3 from e) ▸ h))
               have HUE : Hid (OwE (wk50.setRow gk3 (Bv.cells ⟨R2.1.up, ⟨ua, un, uc⟩, ⟨va, vn, vc⟩⟩)) w.heap.size ⟨ua, un, uc⟩ R2.1.es) := HUE.out.kept (Kept.setRow _ _ _) (fun k h e => (HUE.out.own.notBox (HF.out.box 1 _ _ _ rfl) (by decide)) ((show k = gk3 from e) ▸ h))
               have HUL : Hid (OwL (wk50.setRow gk3 (Bv.cells ⟨R2.1.up, ⟨ua, un, uc⟩, ⟨va, vn, vc⟩⟩)) w.heap.size ⟨va, vn, vc⟩ R2.1.ls) := HUL.out.kept (Kept.setRow _ _ _) (fun k h e => (HUL.out.own.notBox (HF.out.box 1 _ _ _ rfl) (by decide)) ((show k = gk3 from e) ▸ h))
               have HF : Hid (Fr No w (wk50.setRow gk3 (Bv.cells ⟨R2.1.up, ⟨ua, un, uc⟩, ⟨va, vn, vc⟩⟩)) [(gk1, 25, Bv.cells ⟨bu, ⟨ba, bn, bc⟩, ⟨la, ln, lc⟩⟩), (gk3, 25, Bv.cells ⟨R2.1.up, ⟨ua, un, uc⟩, ⟨va, vn, vc⟩⟩), (gk5, 29, Cm.cells x), (gk11, 25, Bv.cells ⟨R.1.up, ⟨qa, qn, qc⟩, ⟨ra, rn, rc⟩⟩), (gk13, 56, Av.cells ⟨R.2.er, R.2.e, ⟨xa, xn, xc⟩⟩), (gk35, 54, En.cells (findE bes nm)), (gk39, 54, En.cells (findE R.1.es nm))]) := HF.out.set 1 rfl _
               generalize wk50.setRow gk3 (Bv.cells ⟨R2.1.up, ⟨ua, un, uc⟩, ⟨va, vn, vc⟩⟩) = wk51 at HF HBE HBL HAE HAL HNE HNL HUE HUL ⊢
               refine wp_takeW (.int .i64 0) (by kernel_rfl) (by kernel_rfl) ?_
               try simp only [pA, pB, p1, p2, p3]
               refine WL.nil ?_
               try simp only [pA, pB, p1, p2, p3]
               go_upto_region 26 with fail
               refine WL.start ?_
               refine wp_takeW (.int .i64 0) (by kernel_rfl) (by kernel_rfl) ?_
               try simp only [pA, pB, p1, p2, p3]
               refine wp_takeW (.bool false) (exec_bin .neq 46 _ _ _ rfl (.int .i64 0) (.int .i64 0) (.bool false) (by kernel_rfl) (by kernel_rfl) (by kernel_rfl) (by kernel_rfl)) (by kernel_rfl) ?_
               try simp only [pA, pB, p1, p2, p3]
               refine WL.nil ?_
               try simp only [pA, pB, p1, p2, p3]
               go_upto_region 28 with fail
               refine WL.start ?_
               refine wp_takeW (.agg (Bv.cells ⟨R.1.up, ⟨qa, qn, qc⟩, ⟨ra, rn, rc⟩⟩)) (exec_load 25 _ rfl ⟨gk11, 0, none⟩ (by kernel_rfl) (.agg (Bv.cells ⟨R.1.up, ⟨qa, qn, qc⟩, ⟨ra, rn, rc⟩⟩)) (ld25 (HF.out.box 3 _ _ _ rfl))) (by kernel_rfl) ?_
               try simp only [pA, pB, p1, p2, p3]
               refine wp_storeW 25 _ _ rfl ⟨gk1, 0, none⟩ (.agg (Bv.cells ⟨R.1.up, ⟨qa, qn, qc⟩, ⟨ra, rn, rc⟩⟩)) (by kernel_rfl) (by kernel_rfl) (wk51.setRow gk1 (Bv.cells ⟨R.1.up, ⟨qa, qn, qc⟩, ⟨ra, rn, rc⟩⟩)) (st25 (HF.out.box 0 _ _ _ rfl) rfl) (by kernel_rfl) ?_
               try simp only [pA, pB, p1, p2, p3]
               have HBE : Hid (OwE (wk51.setRow gk1 (Bv.cells ⟨R.1.up, ⟨qa, qn, qc⟩, ⟨ra, rn, rc⟩⟩)) w.heap.size ⟨ba, bn, bc⟩ bes) := HBE.out.kept (Kept.setRow _ _ _) (fun k h e => (HBE.out.own.notBox (HF.out.box 0 _ _ _ rfl) (by decide)) ((show k = gk1 from e) ▸ h))
               have HBL : Hid (OwL (wk51.setRow gk1 (Bv.cells ⟨R.1.up, ⟨qa, qn, qc⟩, ⟨ra, rn, rc⟩⟩)) w.heap.size ⟨la, ln, lc⟩ bls) := HBL.out.kept (Kept.setRow _ _ _) (fun k h e => (HBL.out.own.notBox (HF.out.box 0 _ _ _ rfl) (by decide)) ((show k = gk1 from e) ▸ h))
               have HAE : Hid (OwE (wk51.setRow gk1 (Bv.cells ⟨R.1.up, ⟨qa, qn, qc⟩, ⟨ra, rn, rc⟩⟩)) w.heap.size ⟨aa, an, ac⟩ aes) := HAE.out.kept (Kept.setRow _ _ _) (fun k h e => (HAE.out.own.notBox (HF.out.box 0 _ _ _ rfl) (by decide)) ((show k = gk1 from e) ▸ h))
               have HAL : Hid (OwL (wk51.setRow gk1 (Bv.cells ⟨R.1.up, ⟨qa, qn, qc⟩, ⟨ra, rn, rc⟩⟩)) w.heap.size ⟨ma, mn, mc⟩ als) := HAL.out.kept (Kept.setRow _ _ _) (fun k h e => (HAL.out.own.notBox (HF.out.box 0 _ _ _ rfl) (by decide)) ((show k = gk1 from e) ▸ h))
               have HNE : Hid (OwE (wk51.setRow gk1 (Bv.cells ⟨R.1.up, ⟨qa, qn, qc⟩, ⟨ra, rn, rc⟩⟩)) w.heap.size ⟨qa, qn, qc⟩ R.1.es) := HNE.out.kept (Kept.setRow _ _ _) (fun k h e => (HNE.out.own.notBox (HF.out.box 0 _ _ _ rfl) (by decide)) ((show k = gk1 from e) ▸ h))
               have HNL : Hid (OwL (wk51.setRow gk1 (Bv.cells ⟨R.1.up, ⟨qa, qn, qc⟩, ⟨ra, rn, rc⟩⟩)) w.heap.size ⟨ra, rn, rc⟩ R.1.ls) := HNL.out.kept (Kept.setRow _ _ _) (fun k h e => (HNL.out.own.notBox (HF.out.box 0 _ _ _ rfl) (by decide)) ((show k = gk1 from e) ▸ h))
               have HUE : Hid (OwE (wk51.setRow gk1 (Bv.cells ⟨R.1.up, ⟨qa, qn, qc⟩, ⟨ra, rn, rc⟩⟩)) w.heap.size ⟨ua, un, uc⟩ R2.1.es) := HUE.out.kept (Kept.setRow _ _ _) (fun k h e => (HUE.out.own.notBox (HF.out.box 0 _ _ _ rfl) (by decide)) ((show k = gk1 from e) ▸ h))
               have HUL : Hid (OwL (wk51.setRow gk1 (Bv.cells ⟨R.1.up, ⟨qa, qn, qc⟩, ⟨ra, rn, rc⟩⟩)) w.heap.size ⟨va, vn, vc⟩ R2.1.ls) := HUL.out.kept (Kept.setRow _ _ _) (fun k h e => (HUL.out.own.notBox (HF.out.box 0 _ _ _ rfl) (by decide)) ((show k = gk1 from e) ▸ h))
               have HF : Hid (Fr No w (wk51.setRow gk1 (Bv.cells ⟨R.1.up, ⟨qa, qn, qc⟩, ⟨ra, rn, rc⟩⟩)) [(gk1, 25, Bv.cells ⟨R.1.up, ⟨qa, qn, qc⟩, ⟨ra, rn, rc⟩⟩), (gk3, 25, Bv.cells ⟨R2.1.up, ⟨ua, un, uc⟩, ⟨va, vn, vc⟩⟩), (gk5, 29, Cm.cells x), (gk11, 25, Bv.cells ⟨R.1.up, ⟨qa, qn, qc⟩, ⟨ra, rn, rc⟩⟩), (gk13, 56, Av.cells ⟨R.2.er, R.2.e, ⟨xa, xn, xc⟩⟩), (gk35, 54, En.cells (findE bes nm)), (gk39, 54, En.cells (findE R.1.es nm))]) := HF.out.set 0 rfl _
               generalize wk51.setRow gk1 (Bv.cells ⟨R.1.up, ⟨qa, qn, qc⟩, ⟨ra, rn, rc⟩⟩) = wk52 at HF HBE HBL HAE HAL HNE HNL HUE HUL ⊢
               refine WL.nil ?_
               try simp only [pA, pB, p1, p2, p3]
               have HF : Hid (Fr No w wk52 [(gk1, 25, Bv.cells ⟨R.1.up, ⟨qa, qn, qc⟩, ⟨ra, rn, rc⟩⟩), (gk3, 25, Bv.cells ⟨R2.1.up, ⟨ua, un, uc⟩, ⟨va, vn, vc⟩⟩)]) := (show Fr No w wk52 ([(gk1, 25, Bv.cells ⟨R.1.up, ⟨qa, qn, qc⟩, ⟨ra, rn, rc⟩⟩), (gk3, 25, Bv.cells ⟨R2.1.up, ⟨ua, un, uc⟩, ⟨va, vn, vc⟩⟩)] ++ [(gk5, 29, Cm.cells x), (gk11, 25, Bv.cells ⟨R.1.up, ⟨qa, qn, qc⟩, ⟨ra, rn, rc⟩⟩), (gk13, 56, Av.cells ⟨R.2.er, R.2.e, ⟨xa, xn, xc⟩⟩), (gk35, 54, En.cells (findE bes nm)), (gk39, 54, En.cells (findE R.1.es nm))]) from HF.out).front
               have HI2 : Hid (AInv nm (k + 1) R.1 R2.1 (ro && !(R.2.er == 103))) := HIS.out q3
               go_wp2
               go_roundw
               case rel => exact ⟨k + 1, ((ro && !(R.2.er == 103))), R.1, R2.1, ⟨qa, qn, qc⟩, ⟨ra, rn, rc⟩, ⟨ua, un, uc⟩, ⟨va, vn, vc⟩, by go_num, rfl, by omega, by omega, HF, HNE, HNL, HUE, HUL, HI2⟩
               case measure => simp [intOf]; omega
      · skip
        go_upto_region 4 with fail
        refine WL.start ?_
        refine wp_takeW (.int .i64 ((k : Nat) : Int)) (by kernel_rfl) (by kernel_rfl) ?_
        try simp only [pA, pB, p1, p2, p3]
        refine wp_takeW (.slice ca cn cc) (by kernel_rfl) (by kernel_rfl) ?_
        try simp only [pA, pB, p1, p2, p3]
        refine wp_takeW (.int .i64 ((cn : Nat) : Int)) (by kernel_rfl) (by kernel_rfl) ?_
        try simp only [pA, pB, p1, p2, p3]
        refine wp_takeW (.bool true) (exec_bin .lss 3 _ _ _ rfl (.int .i64 ((k : Nat) : Int)) (.int .i64 ((cn : Nat) : Int)) (.bool true) (by kernel_rfl) (by kernel_rfl) (by kernel_rfl) (by rw [b_lss, decide_eq_true (by omega)])) (by kernel_rfl) ?_
        try simp only [pA, pB, p1, p2, p3]
        refine wp_takeW (.bool true) (by kernel_rfl) (by kernel_rfl) ?_
        try simp only [pA, pB, p1, p2, p3]
        refine wp_takeW (.int .i64 ((k : Nat) : Int)) (by kernel_rfl) (by kernel_rfl) ?_
        try simp only [pA, pB, p1, p2, p3]
        refine wp_takeW (.bool false) (exec_bin .lss 3 _ _ _ rfl (.int .i64 ((k : Nat) : Int)) (.int .i64 400) (.bool false) (by kernel_rfl) (by kernel_rfl) (by kernel_rfl) (by rw [b_lss, decide_eq_false (by omega)])) (by kernel_rfl) ?_
        try simp only [pA, pB, p1, p2, p3]
        refine wp_takeW (.bool false) (by kernel_rfl) (by kernel_rfl) ?_
        try simp only [pA, pB, p1, p2, p3]
        refine WL.nil ?_
        try simp only [pA, pB, p1, p2, p3]
        rcases ro with _ | _
        ·skip
         go_upto_region 29 with fail
         refine WL.start ?_
         refine wp_takeW (.agg (Bv.cells ⟨bu, ⟨ba, bn, bc⟩, ⟨la, ln, lc⟩⟩)) (exec_load 25 _ rfl ⟨gk1, 0, none⟩ (by kernel_rfl) (.agg (Bv.cells ⟨bu, ⟨ba, bn, bc⟩, ⟨la, ln, lc⟩⟩)) (ld25 (HF.out.box 0 _ _ _ rfl))) (by kernel_rfl) ?_
         try simp only [pA, pB, p1, p2, p3]
         refine wp_takeW (.string nm) (by kernel_rfl) (by kernel_rfl) ?_
         try simp only [pA, pB, p1, p2, p3]
         refine wp_callW 24 #[.agg (Bv.cells ⟨bu, ⟨ba, bn, bc⟩, ⟨la, ln, lc⟩⟩), .string nm] (by kernel_rfl) _ (find_any bu ba bn bc ⟨la, ln, lc⟩ bes nm _ HBE.out.len (by omega) HBE.out.rd.row) (by kernel_rfl) ?_
         rintro e wk53 ⟨rfl, hk⟩
         have HBE : Hid (OwE (wk53) w.heap.size ⟨ba, bn, bc⟩ bes) := HBE.out.no hk
         have HBL : Hid (OwL (wk53) w.heap.size ⟨la, ln, lc⟩ bls) := HBL.out.no hk
         have HAE : Hid (OwE (wk53) w.heap.size ⟨aa, an, ac⟩ aes) := HAE.out.no hk
         have HAL : Hid (OwL (wk53) w.heap.size ⟨ma, mn, mc⟩ als) := HAL.out.no hk
         have HF : Hid (Fr No w (wk53) [(gk1, 25, Bv.cells ⟨bu, ⟨ba, bn, bc⟩, ⟨la, ln, lc⟩⟩), (gk3, 25, Bv.cells ⟨au, ⟨aa, an, ac⟩, ⟨ma, mn, mc⟩⟩)]) := HF.out.no hk
         clear hk
         refine ⟨.tuple #[.agg (En.cells (findE bes nm)), .bool (eIs bes nm)], rfl, ?_⟩
         try simp only [pA, pB, p1, p2, p3]
         refine wp_takeW (.tuple #[.agg (En.cells (findE bes nm)), .bool (eIs bes nm)]) (by kernel_rfl) (by kernel_rfl) ?_
         try simp only [pA, pB, p1, p2, p3]
         refine wp_takeW (.agg (En.cells (findE bes nm))) (by kernel_rfl) (by kernel_rfl) ?_
         try simp only [pA, pB, p1, p2, p3]
         refine wp_takeW (.bool (eIs bes nm)) (by kernel_rfl) (by kernel_rfl) ?_
         try simp only [pA, pB, p1, p2, p3]
         refine wp_runW (.pointer (some ⟨wk53.heap.size, 0, none⟩)) (wk53.alloc (.cells (En.cells enZ) 54)) (exec_alloc 54 rfl (En.cells enZ) zero54) (by kernel_rfl) ?_
         try simp only [pA, pB, p1, p2, p3]
         have HBE_s : Hid (OwE wk53 w.heap.size ⟨ba, bn, bc⟩ bes) := HBE
         have HBL_s : Hid (OwL wk53 w.heap.size ⟨la, ln, lc⟩ bls) := HBL
         have HAE_s : Hid (OwE wk53 w.heap.size ⟨aa, an, ac⟩ aes) := HAE
         have HAL_s : Hid (OwL wk53 w.heap.size ⟨ma, mn, mc⟩ als) := HAL
         have HKs : Hid (Kept No wk53 wk53) := Kept.refl _ _
         have HG_gk54 : Hid (wk53.heap.size ≤ wk53.heap.size) := Nat.le_refl _
         have HBE : Hid (OwE (wk53.alloc (.cells (En.cells enZ) 54)) w.heap.size ⟨ba, bn, bc⟩ bes) := HBE.out.no ((Kept.refl No _).alloc _)
         have HBL : Hid (OwL (wk53.alloc (.cells (En.cells enZ) 54)) w.heap.size ⟨la, ln, lc⟩ bls) := HBL.out.no ((Kept.refl No _).alloc _)
         have HAE : Hid (OwE (wk53.alloc (.cells (En.cells enZ) 54)) w.heap.size ⟨aa, an, ac⟩ aes) := HAE.out.no ((Kept.refl No _).alloc _)
         have HAL : Hid (OwL (wk53.alloc (.cells (En.cells enZ) 54)) w.heap.size ⟨ma, mn, mc⟩ als) := HAL.out.no ((Kept.refl No _).alloc _)
         have HKs : Hid (Kept No wk53 (wk53.alloc (.cells (En.cells enZ) 54))) := HKs.out.no ((Kept.refl No _).alloc _)
         have HF : Hid (Fr No w (wk53.alloc (.cells (En.cells enZ) 54)) [(gk1, 25, Bv.cells ⟨bu, ⟨ba, bn, bc⟩, ⟨la, ln, lc⟩⟩), (gk3, 25, Bv.cells ⟨au, ⟨aa, an, ac⟩, ⟨ma, mn, mc⟩⟩), (wk53.heap.size, 54, En.cells enZ)]) := HF.out.alloc _ _
         generalize wk53.alloc (.cells (En.cells enZ) 54) = wk55 at HF HBE HBL HAE HAL HKs ⊢
         obtain ⟨gk54, hg⟩ : ∃ g, g = wk53.heap.size := ⟨_, rfl⟩
         have HG_gk54 : Hid (wk53.heap.size ≤ gk54) := by show _ ≤ _; rw [hg]; exact HG_gk54.out
         rw [← hg] at HF ⊢
         clear hg
         refine wp_storeW 54 _ _ rfl ⟨gk54, 0, none⟩ (.agg (En.cells (findE bes nm))) (by kernel_rfl) (by kernel_rfl) (wk55.setRow gk54 (En.cells (findE bes nm))) (st54 (HF.out.box 2 _ _ _ rfl) rfl) (by kernel_rfl) ?_
         try simp only [pA, pB, p1, p2, p3]
         have HBE : Hid (OwE (wk55.setRow gk54 (En.cells (findE bes nm))) w.heap.size ⟨ba, bn, bc⟩ bes) := HBE_s.out.no (HKs.out.newRow HG_gk54.out _)
         have HBL : Hid (OwL (wk55.setRow gk54 (En.cells (findE bes nm))) w.heap.size ⟨la, ln, lc⟩ bls) := HBL_s.out.no (HKs.out.newRow HG_gk54.out _)
         have HAE : Hid (OwE (wk55.setRow gk54 (En.cells (findE bes nm))) w.heap.size ⟨aa, an, ac⟩ aes) := HAE_s.out.no (HKs.out.newRow HG_gk54.out _)
         have HAL : Hid (OwL (wk55.setRow gk54 (En.cells (findE bes nm))) w.heap.size ⟨ma, mn, mc⟩ als) := HAL_s.out.no (HKs.out.newRow HG_gk54.out _)
         have HKs : Hid (Kept No wk53 (wk55.setRow gk54 (En.cells (findE bes nm)))) := HKs.out.newRow HG_gk54.out _
         have HF : Hid (Fr No w (wk55.setRow gk54 (En.cells (findE bes nm))) [(gk1, 25, Bv.cells ⟨bu, ⟨ba, bn, bc⟩, ⟨la, ln, lc⟩⟩), (gk3, 25, Bv.cells ⟨au, ⟨aa, an, ac⟩, ⟨ma, mn, mc⟩⟩), (gk54, 54, En.cells (findE bes nm))]) := HF.out.set 2 rfl _
         generalize wk55.setRow gk54 (En.cells (findE bes nm)) = wk56 at HF HBE HBL HAE HAL HKs ⊢
         refine wp_takeW (.bool (eIs bes nm)) (by kernel_rfl) (by kernel_rfl) ?_
         try simp only [pA, pB, p1, p2, p3]
         refine WL.nil ?_
         try simp only [pA, pB, p1, p2, p3]
         clear HKs HBE_s HBL_s HAE_s HAL_s HG_gk54
         go_upto_region 30 with fail
         refine WL.start ?_
         refine wp_takeW (.agg (Bv.cells ⟨au, ⟨aa, an, ac⟩, ⟨ma, mn, mc⟩⟩)) (exec_load 25 _ rfl ⟨gk3, 0, none⟩ (by kernel_rfl) (.agg (Bv.cells ⟨au, ⟨aa, an, ac⟩, ⟨ma, mn, mc⟩⟩)) (ld25 (HF.out.box 1 _ _ _ rfl))) (by kernel_rfl) ?_
         try simp only [pA, pB, p1, p2, p3]
         refine wp_takeW (.string nm) (by kernel_rfl) (by kernel_rfl) ?_
         try simp only [pA, pB, p1, p2, p3]
         refine wp_callW 24 #[.agg (Bv.cells ⟨au, ⟨aa, an, ac⟩, ⟨ma, mn, mc⟩⟩), .string nm] (by kernel_rfl) _ (find_any au aa an ac ⟨ma, mn, mc⟩ aes nm _ HAE.out.len (by omega) HAE.out.rd.row) (by kernel_rfl) ?_
         rintro e wk57 ⟨rfl, hk⟩
         have HBE : Hid (OwE (wk57) w.heap.size ⟨ba, bn, bc⟩ bes) := HBE.out.no hk
         have HBL : Hid (OwL (wk57) w.heap.size ⟨la, ln, lc⟩ bls) := HBL.out.no hk
         have HAE : Hid (OwE (wk57) w.heap.size ⟨aa, an, ac⟩ aes) := HAE.out.no hk
         have HAL : Hid (OwL (wk57) w.heap.size ⟨ma, mn, mc⟩ als) := HAL.out.no hk
         have HF : Hid (Fr No w (wk57) [(gk1, 25, Bv.cells ⟨bu, ⟨ba, bn, bc⟩, ⟨la, ln, lc⟩⟩), (gk3, 25, Bv.cells ⟨au, ⟨aa, an, ac⟩, ⟨ma, mn, mc⟩⟩), (gk54, 54, En.cells (findE bes nm))]) := HF.out.no hk
         clear hk
         refine ⟨.tuple #[.agg (En.cells (findE aes nm)), .bool (eIs aes nm)], rfl, ?_⟩
         try simp only [pA, pB, p1, p2, p3]
         refine wp_takeW (.tuple #[.agg (En.cells (findE aes nm)), .bool (eIs aes nm)]) (by kernel_rfl) (by kernel_rfl) ?_
         try simp only [pA, pB, p1, p2, p3]
         refine wp_takeW (.agg (En.cells (findE aes nm))) (by kernel_rfl) (by kernel_rfl) ?_
         try simp only [pA, pB, p1, p2, p3]
         refine wp_takeW (.bool (eIs aes nm)) (by kernel_rfl) (by kernel_rfl) ?_
         try simp only [pA, pB, p1, p2, p3]
         refine wp_runW (.pointer (some ⟨wk57.heap.size, 0, none⟩)) (wk57.alloc (.cells (En.cells enZ) 54)) (exec_alloc 54 rfl (En.cells enZ) zero54) (by kernel_rfl) ?_
         try simp only [pA, pB, p1, p2, p3]
         have HBE_s : Hid (OwE wk57 w.heap.size ⟨ba, bn, bc⟩ bes) := HBE
         have HBL_s : Hid (OwL wk57 w.heap.size ⟨la, ln, lc⟩ bls) := HBL
         have HAE_s : Hid (OwE wk57 w.heap.size ⟨aa, an, ac⟩ aes) := HAE
         have HAL_s : Hid (OwL wk57 w.heap.size ⟨ma, mn, mc⟩ als) := HAL
         have HKs : Hid (Kept No wk57 wk57) := Kept.refl _ _
         have HG_gk58 : Hid (wk57.heap.size ≤ wk57.heap.size) := Nat.le_refl _
         have HBE : Hid (OwE (wk57.alloc (.cells (En.cells enZ) 54)) w.heap.size ⟨ba, bn, bc⟩ bes) := HBE.out.no ((Kept.refl No _).alloc _)
         have HBL : Hid (OwL (wk57.alloc (.cells (En.cells enZ) 54)) w.heap.size ⟨la, ln, lc⟩ bls) := HBL.out.no ((Kept.refl No _).alloc _)
         have HAE : Hid (OwE (wk57.alloc (.cells (En.cells enZ) 54)) w.heap.size ⟨aa, an, ac⟩ aes) := HAE.out.no ((Kept.refl No _).alloc _)
         have HAL : Hid (OwL (wk57.alloc (.cells (En.cells enZ) 54)) w.heap.size ⟨ma, mn, mc⟩ als) := HAL.out.no ((Kept.refl No _).alloc _)
         have HKs : Hid (Kept No wk57 (wk57.alloc (.cells (En.cells enZ) 54))) := HKs.out.no ((Kept.refl No _).alloc _)
         have HF : Hid (Fr No w (wk57.alloc (.cells (En.cells enZ) 54)) [(gk1, 25, Bv.cells ⟨bu, ⟨ba, bn, bc⟩, ⟨la, ln, lc⟩⟩), (gk3, 25, Bv.cells ⟨au, ⟨aa, an, ac⟩, ⟨ma, mn, mc⟩⟩), (gk54, 54, En.cells (findE bes nm)), (wk57.heap.size, 54, En.cells enZ)]) := HF.out.alloc _ _
         generalize wk57.alloc (.cells (En.cells enZ) 54) = wk59 at HF HBE HBL HAE HAL HKs ⊢
         obtain ⟨gk58, hg⟩ : ∃ g, g = wk57.heap.size := ⟨_, rfl⟩
         have HG_gk58 : Hid (wk57.heap.size ≤ gk58) := by show _ ≤ _; rw [hg]; exact HG_gk58.out
         rw [← hg] at HF ⊢
         clear hg
         refine wp_storeW 54 _ _ rfl ⟨gk58, 0, none⟩ (.agg (En.cells (findE aes nm))) (by kernel_rfl) (by kernel_rfl) (wk59.setRow gk58 (En.cells (findE aes nm))) (st54 (HF.out.box 3 _ _ _ rfl) rfl) (by kernel_rfl) ?_
         try simp only [pA, pB, p1, p2, p3]
         have HBE : Hid (OwE (wk59.setRow gk58 (En.cells (findE aes nm))) w.heap.size ⟨ba, bn, bc⟩ bes) := HBE_s.out.no (HKs.out.newRow HG_gk58.out _)
         have HBL : Hid (OwL (wk59.setRow gk58 (En.cells (findE aes nm))) w.heap.size ⟨la, ln, lc⟩ bls) := HBL_s.out.no (HKs.out.newRow HG_gk58.out _)
         have HAE : Hid (OwE (wk59.setRow gk58 (En.cells (findE aes nm))) w.heap.size ⟨aa, an, ac⟩ aes) := HAE_s.out.no (HKs.out.newRow HG_gk58.out _)
         have HAL : Hid (OwL (wk59.setRow gk58 (En.cells (findE aes nm))) w.heap.size ⟨ma, mn, mc⟩ als) := HAL_s.out.no (HKs.out.newRow HG_gk58.out _)
         have HKs : Hid (Kept No wk57 (wk59.setRow gk58 (En.cells (findE aes nm)))) := HKs.out.newRow HG_gk58.out _
         have HF : Hid (Fr No w (wk59.setRow gk58 (En.cells (findE aes nm))) [(gk1, 25, Bv.cells ⟨bu, ⟨ba, bn, bc⟩, ⟨la, ln, lc⟩⟩), (gk3, 25, Bv.cells ⟨au, ⟨aa, an, ac⟩, ⟨ma, mn, mc⟩⟩), (gk54, 54, En.cells (findE bes nm)), (gk58, 54, En.cells (findE aes nm))]) := HF.out.set 3 rfl _
         generalize wk59.setRow gk58 (En.cells (findE aes nm)) = wk60 at HF HBE HBL HAE HAL HKs ⊢
         refine wp_takeW (.bool (eIs aes nm)) (by kernel_rfl) (by kernel_rfl) ?_
         try simp only [pA, pB, p1, p2, p3]
         refine WL.nil ?_
         try simp only [pA, pB, p1, p2, p3]
         clear HKs HBE_s HBL_s HAE_s HAL_s HG_gk58
         go_upto_region 31 with fail
         refine WL.start ?_
         refine wp_takeW (.bool false) (by kernel_rfl) (by kernel_rfl) ?_
         try simp only [pA, pB, p1, p2, p3]
         refine wp_takeW (.bool true) (by kernel_rfl) (by kernel_rfl) ?_
         try simp only [pA, pB, p1, p2, p3]
         refine wp_takeW (.bool true) (by kernel_rfl) (by kernel_rfl) ?_
         try simp only [pA, pB, p1, p2, p3]
         refine wp_skip (by kernel_rfl) ?_
         try simp only [pA, pB, p1, p2, p3]
         refine wp_skip (by kernel_rfl) ?_
         try simp only [pA, pB, p1, p2, p3]
         refine wp_skip (by kernel_rfl) ?_
         try simp only [pA, pB, p1, p2, p3]
         refine wp_skip (by kernel_rfl) ?_
         try simp only [pA, pB, p1, p2, p3]
         refine wp_skip (by kernel_rfl) ?_
         try simp only [pA, pB, p1, p2, p3]
         refine wp_skip (by kernel_rfl) ?_
         try simp only [pA, pB, p1, p2, p3]
         refine wp_skip (by kernel_rfl) ?_
         try simp only [pA, pB, p1, p2, p3]
         refine wp_skip (by kernel_rfl) ?_
         try simp only [pA, pB, p1, p2, p3]
         refine wp_takeW (.bool true) (by kernel_rfl) (by kernel_rfl) ?_
         try simp only [pA, pB, p1, p2, p3]
         refine wp_takeW (.bool true) (by kernel_rfl) (by kernel_rfl) ?_
         try simp only [pA, pB, p1, p2, p3]
         refine wp_callW 10 #[] (by kernel_rfl) _ (head_any _) (by kernel_rfl) ?_
         rintro e wk61 ⟨rfl, hk⟩
         have HBE : Hid (OwE (wk61) w.heap.size ⟨ba, bn, bc⟩ bes) := HBE.out.no hk
         have HBL : Hid (OwL (wk61) w.heap.size ⟨la, ln, lc⟩ bls) := HBL.out.no hk
         have HAE : Hid (OwE (wk61) w.heap.size ⟨aa, an, ac⟩ aes) := HAE.out.no hk
         have HAL : Hid (OwL (wk61) w.heap.size ⟨ma, mn, mc⟩ als) := HAL.out.no hk
         have HF : Hid (Fr No w (wk61) [(gk1, 25, Bv.cells ⟨bu, ⟨ba, bn, bc⟩, ⟨la, ln, lc⟩⟩), (gk3, 25, Bv.cells ⟨au, ⟨aa, an, ac⟩, ⟨ma, mn, mc⟩⟩), (gk54, 54, En.cells (findE bes nm)), (gk58, 54, En.cells (findE aes nm))]) := HF.out.no hk
         clear hk
         refine ⟨.bool true, rfl, ?_⟩
         try simp only [pA, pB, p1, p2, p3]
         refine wp_takeW (.bool true) (by kernel_rfl) (by kernel_rfl) ?_
         try simp only [pA, pB, p1, p2, p3]
         refine wp_takeW (.bool true) (by kernel_rfl) (by kernel_rfl) ?_
         try simp only [pA, pB, p1, p2, p3]
         refine WL.nil ?_
         try simp only [pA, pB, p1, p2, p3]
         go_wp2
         rw [HC.out]
         exact ⟨rfl, HF.out.kept⟩
        ·skip
         have HFI : Hid (eIs bes nm = eIs aes nm ∧ findE bes nm = findE aes nm) := HI.out.fin
         have HFI : Hid (eIs aes nm = eIs bes nm ∧ findE aes nm = findE bes nm) := ⟨HFI.out.1.symm, HFI.out.2.symm⟩
         go_upto_region 29 with fail
         refine WL.start ?_
         refine wp_takeW (.agg (Bv.cells ⟨bu, ⟨ba, bn, bc⟩, ⟨la, ln, lc⟩⟩)) (exec_load 25 _ rfl ⟨gk1, 0, none⟩ (by kernel_rfl) (.agg (Bv.cells ⟨bu, ⟨ba, bn, bc⟩, ⟨la, ln, lc⟩⟩)) (ld25 (HF.out.box 0 _ _ _ rfl))) (by kernel_rfl) ?_
         try simp only [pA, pB, p1, p2, p3]
         refine wp_takeW (.string nm) (by kernel_rfl) (by kernel_rfl) ?_
         try simp only [pA, pB, p1, p2, p3]
         refine wp_callW 24 #[.agg (Bv.cells ⟨bu, ⟨ba, bn, bc⟩, ⟨la, ln, lc⟩⟩), .string nm] (by kernel_rfl) _ (find_any bu ba bn bc ⟨la, ln, lc⟩ bes nm _ HBE.out.len (by omega) HBE.out.rd.row) (by kernel_rfl) ?_
         rintro e wk62 ⟨rfl, hk⟩
         have HBE : Hid (OwE (wk62) w.heap.size ⟨ba, bn, bc⟩ bes) := HBE.out.no hk
         have HBL : Hid (OwL (wk62) w.heap.size ⟨la, ln, lc⟩ bls) := HBL.out.no hk
         have HAE : Hid (OwE (wk62) w.heap.size ⟨aa, an, ac⟩ aes) := HAE.out.no hk
         have HAL : Hid (OwL (wk62) w.heap.size ⟨ma, mn, mc⟩ als) := HAL.out.no hk
         have HF : Hid (Fr No w (wk62) [(gk1, 25, Bv.cells ⟨bu, ⟨ba, bn, bc⟩, ⟨la, ln, lc⟩⟩), (gk3, 25, Bv.cells ⟨au, ⟨aa, an, ac⟩, ⟨ma, mn, mc⟩⟩)]) := HF.out.no hk
         clear hk
         refine ⟨.tuple #[.agg (En.cells (findE bes nm)), .bool (eIs bes nm)], rfl, ?_⟩
         try simp only [pA, pB, p1, p2, p3]
         refine wp_takeW (.tuple #[.agg (En.cells (findE bes nm)), .bool (eIs bes nm)]) (by kernel_rfl) (by kernel_rfl) ?_
         try simp only [pA, pB, p1, p2, p3]
         refine wp_takeW (.agg (En.cells (findE bes nm))) (by kernel_rfl) (by kernel_rfl) ?_
         try simp only [pA, pB, p1, p2, p3]
         refine wp_takeW (.bool (eIs bes nm)) (by kernel_rfl) (by kernel_rfl) ?_
         try simp only [pA, pB, p1, p2, p3]
         refine wp_runW (.pointer (some ⟨wk62.heap.size, 0, none⟩)) (wk62.alloc (.cells (En.cells enZ) 54)) (exec_alloc 54 rfl (En.cells enZ) zero54) (by kernel_rfl) ?_
         try simp only [pA, pB, p1, p2, p3]
         have HBE_s : Hid (OwE wk62 w.heap.size ⟨ba, bn, bc⟩ bes) := HBE
         have HBL_s : Hid (OwL wk62 w.heap.size ⟨la, ln, lc⟩ bls) := HBL
         have HAE_s : Hid (OwE wk62 w.heap.size ⟨aa, an, ac⟩ aes) := HAE
         have HAL_s : Hid (OwL wk62 w.heap.size ⟨ma, mn, mc⟩ als) := HAL
         have HKs : Hid (Kept No wk62 wk62) := Kept.refl _ _
         have HG_gk63 : Hid (wk62.heap.size ≤ wk62.heap.size) := Nat.le_refl _
         have HBE : Hid (OwE (wk62.alloc (.cells (En.cells enZ) 54)) w.heap.size ⟨ba, bn, bc⟩ bes) := HBE.out.no ((Kept.refl No _).alloc _)
         have HBL : Hid (OwL (wk62.alloc (.cells (En.cells enZ) 54)) w.heap.size ⟨la, ln, lc⟩ bls) := HBL.out.no ((Kept.refl No _).alloc _)
         have HAE : Hid (OwE (wk62.alloc (.cells (En.cells enZ) 54)) w.heap.size ⟨aa, an, ac⟩ aes) := HAE.out.no ((Kept.refl No _).alloc _)
         have HAL : Hid (OwL (wk62.alloc (.cells (En.cells enZ) 54)) w.heap.size ⟨ma, mn, mc⟩ als) := HAL.out.no ((Kept.refl No _).alloc _)
         have HKs : Hid (Kept No wk62 (wk62.alloc (.cells (En.cells enZ) 54))) := HKs.out.no ((Kept.refl No _).alloc _)
         have HF : Hid (Fr No w (wk62.alloc (.cells (En.cells enZ) 54)) [(gk1, 25, Bv.cells ⟨bu, ⟨ba, bn, bc⟩, ⟨la, ln, lc⟩⟩), (gk3, 25, Bv.cells ⟨au, ⟨aa, an, ac⟩, ⟨ma, mn, mc⟩⟩), (wk62.heap.size, 54, En.cells enZ)]) := HF.out.alloc _ _
         generalize wk62.alloc (.cells (En.cells enZ) 54) = wk64 at HF HBE HBL HAE HAL HKs ⊢
         obtain ⟨gk63, hg⟩ : ∃ g, g = wk62.heap.size := ⟨_, rfl⟩
         have HG_gk63 : Hid (wk62.heap.size ≤ gk63) := by show _ ≤ _; rw [hg]; exact HG_gk63.out
         rw [← hg] at HF ⊢
         clear hg
         refine wp_storeW 54 _ _ rfl ⟨gk63, 0, none⟩ (.agg (En.cells (findE bes nm))) (by kernel_rfl) (by kernel_rfl) (wk64.setRow gk63 (En.cells (findE bes nm))) (st54 (HF.out.box 2 _ _ _ rfl) rfl) (by kernel_rfl) ?_
         try simp only [pA, pB, p1, p2, p3]
         have HBE : Hid (OwE (wk64.setRow gk63 (En.cells (findE bes nm))) w.heap.size ⟨ba, bn, bc⟩ bes) := HBE_s.out.no (HKs.out.newRow HG_gk63.out _)
         have HBL : Hid (OwL (wk64.setRow gk63 (En.cells (findE bes nm))) w.heap.size ⟨la, ln, lc⟩ bls) := HBL_s.out.no (HKs.out.newRow HG_gk63.out _)
         have HAE : Hid (OwE (wk64.setRow gk63 (En.cells (findE bes nm))) w.heap.size ⟨aa, an, ac⟩ aes) := HAE_s.out.no (HKs.out.newRow HG_gk63.out _)
         have HAL : Hid (OwL (wk64.setRow gk63 (En.cells (findE bes nm))) w.heap.size ⟨ma, mn, mc⟩ als) := HAL_s.out.no (HKs.out.newRow HG_gk63.out _)
         have HKs : Hid (Kept No wk62 (wk64.setRow gk63 (En.cells (findE bes nm)))) := HKs.out.newRow HG_gk63.out _
         have HF : Hid (Fr No w (wk64.setRow gk63 (En.cells (findE bes nm))) [(gk1, 25, Bv.cells ⟨bu, ⟨ba, bn, bc⟩, ⟨la, ln, lc⟩⟩), (gk3, 25, Bv.cells ⟨au, ⟨aa, an, ac⟩, ⟨ma, mn, mc⟩⟩), (gk63, 54, En.cells (findE bes nm))]) := HF.out.set 2 rfl _
         generalize wk64.setRow gk63 (En.cells (findE bes nm)) = wk65 at HF HBE HBL HAE HAL HKs ⊢
         refine wp_takeW (.bool (eIs bes nm)) (by kernel_rfl) (by kernel_rfl) ?_
         try simp only [pA, pB, p1, p2, p3]
         refine WL.nil ?_
         try simp only [pA, pB, p1, p2, p3]
         clear HKs HBE_s HBL_s HAE_s HAL_s HG_gk63
         go_upto_region 30 with fail
         refine WL.start ?_
         refine wp_takeW (.agg (Bv.cells ⟨au, ⟨aa, an, ac⟩, ⟨ma, mn, mc⟩⟩)) (exec_load 25 _ rfl ⟨gk3, 0, none⟩ (by kernel_rfl) (.agg (Bv.cells ⟨au, ⟨aa, an, ac⟩, ⟨ma, mn, mc⟩⟩)) (ld25 (HF.out.box 1 _ _ _ rfl))) (by kernel_rfl) ?_
         try simp only [pA, pB, p1, p2, p3]
         refine wp_takeW (.string nm) (by kernel_rfl) (by kernel_rfl) ?_
         try simp only [pA, pB, p1, p2, p3]
         refine wp_callW 24 #[.agg (Bv.cells ⟨au, ⟨aa, an, ac⟩, ⟨ma, mn, mc⟩⟩), .string nm] (by kernel_rfl) _ (find_any au aa an ac ⟨ma, mn, mc⟩ aes nm _ HAE.out.len (by omega) HAE.out.rd.row) (by kernel_rfl) ?_
         rintro e wk66 ⟨rfl, hk⟩
         have HBE : Hid (OwE (wk66) w.heap.size ⟨ba, bn, bc⟩ bes) := HBE.out.no hk
         have HBL : Hid (OwL (wk66) w.heap.size ⟨la, ln, lc⟩ bls) := HBL.out.no hk
         have HAE : Hid (OwE (wk66) w.heap.size ⟨aa, an, ac⟩ aes) := HAE.out.no hk
         have HAL : Hid (OwL (wk66) w.heap.size ⟨ma, mn, mc⟩ als) := HAL.out.no hk
         have HF : Hid (Fr No w (wk66) [(gk1, 25, Bv.cells ⟨bu, ⟨ba, bn, bc⟩, ⟨la, ln, lc⟩⟩), (gk3, 25, Bv.cells ⟨au, ⟨aa, an, ac⟩, ⟨ma, mn, mc⟩⟩), (gk63, 54, En.cells (findE bes nm))]) := HF.out.no hk
         clear hk
         refine ⟨.tuple #[.agg (En.cells (findE bes nm)), .bool (eIs bes nm)], by rw [HFI.out.1, HFI.out.2], ?_⟩
         try simp only [pA, pB, p1, p2, p3]
         refine wp_takeW (.tuple #[.agg (En.cells (findE bes nm)), .bool (eIs bes nm)]) (by kernel_rfl) (by kernel_rfl) ?_
         try simp only [pA, pB, p1, p2, p3]
         refine wp_takeW (.agg (En.cells (findE bes nm))) (by kernel_rfl) (by kernel_rfl) ?_
         try simp only [pA, pB, p1, p2, p3]
         refine wp_takeW (.bool (eIs bes nm)) (by kernel_rfl) (by kernel_rfl) ?_
         try simp only [pA, pB, p1, p2, p3]
         refine wp_runW (.pointer (some ⟨wk66.heap.size, 0, none⟩)) (wk66.alloc (.cells (En.cells enZ) 54)) (exec_alloc 54 rfl (En.cells enZ) zero54) (by kernel_rfl) ?_
         try simp only [pA, pB, p1, p2, p3]
         have HBE_s : Hid (OwE wk66 w.heap.size ⟨ba, bn, bc⟩ bes) := HBE
         have HBL_s : Hid (OwL wk66 w.heap.size ⟨la, ln, lc⟩ bls) := HBL
         have HAE_s : Hid (OwE wk66 w.heap.size ⟨aa, an, ac⟩ aes) := HAE
         have HAL_s : Hid (OwL wk66 w.heap.size ⟨ma, mn, mc⟩ als) := HAL
         have HKs : Hid (Kept No wk66 wk66) := Kept.refl _ _
         have HG_gk67 : Hid (wk66.heap.size ≤ wk66.heap.size) := Nat.le_refl _
         have HBE : Hid (OwE (wk66.alloc (.cells (En.cells enZ) 54)) w.heap.size ⟨ba, bn, bc⟩ bes) := HBE.out.no ((Kept.refl No _).alloc _)
         have HBL : Hid (OwL (wk66.alloc (.cells (En.cells enZ) 54)) w.heap.size ⟨la, ln, lc⟩ bls) := HBL.out.no ((Kept.refl No _).alloc _)
         have HAE : Hid (OwE (wk66.alloc (.cells (En.cells enZ) 54)) w.heap.size ⟨aa, an, ac⟩ aes) := HAE.out.no ((Kept.refl No _).alloc _)
         have HAL : Hid (OwL (wk66.alloc (.cells (En.cells enZ) 54)) w.heap.size ⟨ma, mn, mc⟩ als) := HAL.out.no ((Kept.refl No _).alloc _)
         have HKs : Hid (Kept No wk66 (wk66.alloc (.cells (En.cells enZ) 54))) := HKs.out.no ((Kept.refl No _).alloc _)
         have HF : Hid (Fr No w (wk66.alloc (.cells (En.cells enZ) 54)) [(gk1, 25, Bv.cells ⟨bu, ⟨ba, bn, bc⟩, ⟨la, ln, lc⟩⟩), (gk3, 25, Bv.cells ⟨au, ⟨aa, an, ac⟩, ⟨ma, mn, mc⟩⟩), (gk63, 54, En.cells (findE bes nm)), (wk66.heap.size, 54, En.cells enZ)]) := HF.out.alloc _ _
         generalize wk66.alloc (.cells (En.cells enZ) 54) = wk68 at HF HBE HBL HAE HAL HKs ⊢
         obtain ⟨gk67, hg⟩ : ∃ g, g = wk66.heap.size := ⟨_, rfl⟩
         have HG_gk67 : Hid (wk66.heap.size ≤ gk67) := by show _ ≤ _; rw [hg]; exact HG_gk67.out
         rw [← hg] at HF ⊢
         clear hg
         refine wp_storeW 54 _ _ rfl ⟨gk67, 0, none⟩ (.agg (En.cells (findE bes nm))) (by kernel_rfl) (by kernel_rfl) (wk68.setRow gk67 (En.cells (findE bes nm))) (st54 (HF.out.box 3 _ _ _ rfl) rfl) (by kernel_rfl) ?_
         try simp only [pA, pB, p1, p2, p3]
         have HBE : Hid (OwE (wk68.setRow gk67 (En.cells (findE bes nm))) w.heap.size ⟨ba, bn, bc⟩ bes) := HBE_s.out.no (HKs.out.newRow HG_gk67.out _)
         have HBL : Hid (OwL (wk68.setRow gk67 (En.cells (findE bes nm))) w.heap.size ⟨la, ln, lc⟩ bls) := HBL_s.out.no (HKs.out.newRow HG_gk67.out _)
         have HAE : Hid (OwE (wk68.setRow gk67 (En.cells (findE bes nm))) w.heap.size ⟨aa, an, ac⟩ aes) := HAE_s.out.no (HKs.out.newRow HG_gk67.out _)
         have HAL : Hid (OwL (wk68.setRow gk67 (En.cells (findE bes nm))) w.heap.size ⟨ma, mn, mc⟩ als) := HAL_s.out.no (HKs.out.newRow HG_gk67.out _)
         have HKs : Hid (Kept No wk66 (wk68.setRow gk67 (En.cells (findE bes nm)))) := HKs.out.newRow HG_gk67.out _
         have HF : Hid (Fr No w (wk68.setRow gk67 (En.cells (findE bes nm))) [(gk1, 25, Bv.cells ⟨bu, ⟨ba, bn, bc⟩, ⟨la, ln, lc⟩⟩), (gk3, 25, Bv.cells ⟨au, ⟨aa, an, ac⟩, ⟨ma, mn, mc⟩⟩), (gk63, 54, En.cells (findE bes nm)), (gk67, 54, En.cells (findE bes nm))]) := HF.out.set 3 rfl _
         generalize wk68.setRow gk67 (En.cells (findE bes nm)) = wk69 at HF HBE HBL HAE HAL HKs ⊢
         refine wp_takeW (.bool (eIs bes nm)) (by kernel_rfl) (by kernel_rfl) ?_
         try simp only [pA, pB, p1, p2, p3]
         refine WL.nil ?_
         try simp only [pA, pB, p1, p2, p3]
         clear HKs HBE_s HBL_s HAE_s HAL_s HG_gk67
         go_upto_region 31 with fail
         refine WL.start ?_
         refine wp_takeW (.bool true) (by kernel_rfl) (by kernel_rfl) ?_
         try simp only [pA, pB, p1, p2, p3]
         refine wp_takeW (.bool false) (by kernel_rfl) (by kernel_rfl) ?_
         try simp only [pA, pB, p1, p2, p3]
         refine wp_takeW (.bool false) (by kernel_rfl) (by kernel_rfl) ?_
         try simp only [pA, pB, p1, p2, p3]
         refine wp_takeW (.bool (eIs bes nm)) (by kernel_rfl) (by kernel_rfl) ?_
         try simp only [pA, pB, p1, p2, p3]
         refine wp_takeW (.bool (eIs bes nm)) (by kernel_rfl) (by kernel_rfl) ?_
         try simp only [pA, pB, p1, p2, p3]
         refine wp_takeW (.bool true) (exec_bin .eql 4 _ _ _ rfl (.bool (eIs bes nm)) (.bool (eIs bes nm)) (.bool true) (by kernel_rfl) (by kernel_rfl) (by kernel_rfl) (b_eqlB _ _)) (by kernel_rfl) ?_
         try simp only [pA, pB, p1, p2, p3]
         refine wp_takeW (.bool true) (by kernel_rfl) (by kernel_rfl) ?_
         try simp only [pA, pB, p1, p2, p3]
         refine wp_takeW (.agg (En.cells (findE bes nm))) (exec_load 54 _ rfl ⟨gk63, 0, none⟩ (by kernel_rfl) (.agg (En.cells (findE bes nm))) (ld54 (HF.out.box 2 _ _ _ rfl))) (by kernel_rfl) ?_
         try simp only [pA, pB, p1, p2, p3]
         refine wp_takeW (.agg (En.cells (findE bes nm))) (exec_load 54 _ rfl ⟨gk67, 0, none⟩ (by kernel_rfl) (.agg (En.cells (findE bes nm))) (ld54 (HF.out.box 3 _ _ _ rfl))) (by kernel_rfl) ?_
         try simp only [pA, pB, p1, p2, p3]
         refine wp_takeW (.bool true) (exec_bin .eql 54 _ _ _ rfl (.agg (En.cells (findE bes nm))) (.agg (En.cells (findE bes nm))) (.bool true) (by kernel_rfl) (by kernel_rfl) (by kernel_rfl) (by rw [eqE_eql, eqE_iff.2 rfl])) (by kernel_rfl) ?_
         try simp only [pA, pB, p1, p2, p3]
         refine wp_takeW (.bool true) (by kernel_rfl) (by kernel_rfl) ?_
         try simp only [pA, pB, p1, p2, p3]
         refine wp_takeW (.bool true) (by kernel_rfl) (by kernel_rfl) ?_
         try simp only [pA, pB, p1, p2, p3]
         refine wp_takeW (.bool true) (by kernel_rfl) (by kernel_rfl) ?_
         try simp only [pA, pB, p1, p2, p3]
         refine wp_callW 10 #[] (by kernel_rfl) _ (head_any _) (by kernel_rfl) ?_
         rintro e wk70 ⟨rfl, hk⟩
         have HBE : Hid (OwE (wk70) w.heap.size ⟨ba, bn, bc⟩ bes) := HBE.out.no hk
         have HBL : Hid (OwL (wk70) w.heap.size ⟨la, ln, lc⟩ bls) := HBL.out.no hk
         have HAE : Hid (OwE (wk70) w.heap.size ⟨aa, an, ac⟩ aes) := HAE.out.no hk
         have HAL : Hid (OwL (wk70) w.heap.size ⟨ma, mn, mc⟩ als) := HAL.out.no hk
         have HF : Hid (Fr No w (wk70) [(gk1, 25, Bv.cells ⟨bu, ⟨ba, bn, bc⟩, ⟨la, ln, lc⟩⟩), (gk3, 25, Bv.cells ⟨au, ⟨aa, an, ac⟩, ⟨ma, mn, mc⟩⟩), (gk63, 54, En.cells (findE bes nm)), (gk67, 54, En.cells (findE bes nm))]) := HF.out.no hk
         clear hk
         refine ⟨.bool true, rfl, ?_⟩
         try simp only [pA, pB, p1, p2, p3]
         refine wp_takeW (.bool true) (by kernel_rfl) (by kernel_rfl) ?_
         try simp only [pA, pB, p1, p2, p3]
         refine wp_takeW (.bool true) (by kernel_rfl) (by kernel_rfl) ?_
         try simp only [pA, pB, p1, p2, p3]
         refine WL.nil ?_
         try simp only [pA, pB, p1, p2, p3]
         go_wp2
         rw [HC.out]
         exact ⟨rfl, HF.out.kept⟩
    · skip
      go_upto_region 4 with fail
      refine WL.start ?_
      refine wp_takeW (.int .i64 ((k : Nat) : Int)) (by kernel_rfl) (by kernel_rfl) ?_
      try simp only [pA, pB, p1, p2, p3]
      refine wp_takeW (.slice ca cn cc) (by kernel_rfl) (by kernel_rfl) ?_
      try simp only [pA, pB, p1, p2, p3]
      refine wp_takeW (.int .i64 ((cn : Nat) : Int)) (by kernel_rfl) (by kernel_rfl) ?_
      try simp only [pA, pB, p1, p2, p3]
      refine wp_takeW (.bool false) (exec_bin .lss 3 _ _ _ rfl (.int .i64 ((k : Nat) : Int)) (.int .i64 ((cn : Nat) : Int)) (.bool false) (by kernel_rfl) (by kernel_rfl) (by kernel_rfl) (by rw [b_lss, decide_eq_false (by omega)])) (by kernel_rfl) ?_
      try simp only [pA, pB, p1, p2, p3]
      refine wp_takeW (.bool false) (by kernel_rfl) (by kernel_rfl) ?_
      try simp only [pA, pB, p1, p2, p3]
      refine wp_skip (by kernel_rfl) ?_
      try simp only [pA, pB, p1, p2, p3]
      refine wp_skip (by kernel_rfl) ?_
      try simp only [pA, pB, p1, p2, p3]
      refine wp_takeW (.bool false) (by kernel_rfl) (by kernel_rfl) ?_
      try simp only [pA, pB, p1, p2, p3]
      refine WL.nil ?_
      try simp only [pA, pB, p1, p2, p3]
      rcases ro with _ | _
      ·skip
       go_upto_region 29 with fail
       refine WL.start ?_
       refine wp_takeW (.agg (Bv.cells ⟨bu, ⟨ba, bn, bc⟩, ⟨la, ln, lc⟩⟩)) (exec_load 25 _ rfl ⟨gk1, 0, none⟩ (by kernel_rfl) (.agg (Bv.cells ⟨bu, ⟨ba, bn, bc⟩, ⟨la, ln, lc⟩⟩)) (ld25 (HF.out.box 0 _ _ _ rfl))) (by kernel_rfl) ?_
       try simp only [pA, pB, p1, p2, p3]
       refine wp_takeW (.string nm) (by kernel_rfl) (by kernel_rfl) ?_
       try simp only [pA, pB, p1, p2, p3]
       refine wp_callW 24 #[.agg (Bv.cells ⟨bu, ⟨ba, bn, bc⟩, ⟨la, ln, lc⟩⟩), .string nm] (by kernel_rfl) _ (find_any bu ba bn bc ⟨la, ln, lc⟩ bes nm _ HBE.out.len (by omega) HBE.out.rd.row) (by kernel_rfl) ?_
       rintro e wk71 ⟨rfl, hk⟩
       have HBE : Hid (OwE (wk71) w.heap.size ⟨ba, bn, bc⟩ bes) := HBE.out.no hk
       have HBL : Hid (OwL (wk71) w.heap.size ⟨la, ln, lc⟩ bls) := HBL.out.no hk
       have HAE : Hid (OwE (wk71) w.heap.size ⟨aa, an, ac⟩ aes) := HAE.out.no hk
       have HAL : Hid (OwL (wk71) w.heap.size ⟨ma, mn, mc⟩ als) := HAL.out.no hk
       have HF : Hid (Fr No w (wk71) [(gk1, 25, Bv.cells ⟨bu, ⟨ba, bn, bc⟩, ⟨la, ln, lc⟩⟩), (gk3, 25, Bv.cells ⟨au, ⟨aa, an, ac⟩, ⟨ma, mn, mc⟩⟩)]) := HF.out.no hk
       clear hk
       refine ⟨.tuple #[.agg (En.cells (findE bes nm)), .bool (eIs bes nm)], rfl, ?_⟩
       try simp only [pA, pB, p1, p2, p3]
       refine wp_takeW (.tuple #[.agg (En.cells (findE bes nm)), .bool (eIs bes nm)]) (by kernel_rfl) (by kernel_rfl) ?_
       try simp only [pA, pB, p1, p2, p3]
       refine wp_takeW (.agg (En.cells (findE bes nm))) (by kernel_rfl) (by kernel_rfl) ?_
       try simp only [pA, pB, p1, p2, p3]
       refine wp_takeW (.bool (eIs bes nm)) (by kernel_rfl) (by kernel_rfl) ?_
       try simp only [pA, pB, p1, p2, p3]
       refine wp_runW (.pointer (some ⟨wk71.heap.size, 0, none⟩)) (wk71.alloc (.cells (En.cells enZ) 54)) (exec_alloc 54 rfl (En.cells enZ) zero54) (by kernel_rfl) ?_
       try simp only [pA, pB, p1, p2, p3]
       have HBE_s : Hid (OwE wk71 w.heap.size ⟨ba, bn, bc⟩ bes) := HBE
       have HBL_s : Hid (OwL wk71 w.heap.size ⟨la, ln, lc⟩ bls) := HBL
       have HAE_s : Hid (OwE wk71 w.heap.size ⟨aa, an, ac⟩ aes) := HAE
       have HAL_s : Hid (OwL wk71 w.heap.size ⟨ma, mn, mc⟩ als) := HAL
       have HKs : Hid (Kept No wk71 wk71) := Kept.refl _ _
       have HG_gk72 : Hid (wk71.heap.size ≤ wk71.heap.size) := Nat.le_refl _
       have HBE : Hid (OwE (wk71.alloc (.cells (En.cells enZ) 54)) w.heap.size ⟨ba, bn, bc⟩ bes) := HBE.out.no ((Kept.refl No _).alloc _)
       have HBL : Hid (OwL (wk71.alloc (.cells (En.cells enZ) 54)) w.heap.size ⟨la, ln, lc⟩ bls) := HBL.out.no ((Kept.refl No _).alloc _)
       have HAE : Hid (OwE (wk71.alloc (.cells (En.cells enZ) 54)) w.heap.size ⟨aa, an, ac⟩ aes) := HAE.out.no ((Kept.refl No _).alloc _)
       have HAL : Hid (OwL (wk71.alloc (.cells (En.cells enZ) 54)) w.heap.size ⟨ma, mn, mc⟩ als) := HAL.out.no ((Kept.refl No _).alloc _)
       have HKs : Hid (Kept No wk71 (wk71.alloc (.cells (En.cells enZ) 54))) := HKs.out.no ((Kept.refl No _).alloc _)
       have HF : Hid (Fr No w (wk71.alloc (.cells (En.cells enZ) 54)) [(gk1, 25, Bv.cells ⟨bu, ⟨ba, bn, bc⟩, ⟨la, ln, lc⟩⟩), (gk3, 25, Bv.cells ⟨au, ⟨aa, an, ac⟩, ⟨ma, mn, mc⟩⟩), (wk71.heap.size, 54, En.cells enZ)]) := HF.out.alloc _ _
       generalize wk71.alloc (.cells (En.cells enZ) 54) = wk73 at HF HBE HBL HAE HAL HKs ⊢
       obtain ⟨gk72, hg⟩ : ∃ g, g = wk71.heap.size := ⟨_, rfl⟩
       have HG_gk72 : Hid (wk71.heap.size ≤ gk72) := by show _ ≤ _; rw [hg]; exact HG_gk72.out
       rw [← hg] at HF ⊢
       clear hg
       refine wp_storeW 54 _ _ rfl ⟨gk72, 0, none⟩ (.agg (En.cells (findE bes nm))) (by kernel_rfl) (by kernel_rfl) (wk73.setRow gk72 (En.cells (findE bes nm))) (st54 (HF.out.box 2 _ _ _ rfl) rfl) (by kernel_rfl) ?_
       try simp only [pA, pB, p1, p2, p3]
       have HBE : Hid (OwE (wk73.setRow gk72 (En.cells (findE bes nm))) w.heap.size ⟨ba, bn, bc⟩ bes) := HBE_s.out.no (HKs.out.newRow HG_gk72.out _)
       have HBL : Hid (OwL (wk73.setRow gk72 (En.cells (findE bes nm))) w.heap.size ⟨la, ln, lc⟩ bls) := HBL_s.out.no (HKs.out.newRow HG_gk72.out _)
       have HAE : Hid (OwE (wk73.setRow gk72 (En.cells (findE bes nm))) w.heap.size ⟨aa, an, ac⟩ aes) := HAE_s.out.no (HKs.out.newRow HG_gk72.out _)
       have HAL : Hid (OwL (wk73.setRow gk72 (En.cells (findE bes nm))) w.heap.size ⟨ma, mn, mc⟩ als) := HAL_s.out.no (HKs.out.newRow HG_gk72.out _)
       have HKs : Hid (Kept No wk71 (wk73.setRow gk72 (En.cells (findE bes nm)))) := HKs.out.newRow HG_gk72.out _
       have HF : Hid (Fr No w (wk73.setRow gk72 (En.cells (findE bes nm))) [(gk1, 25, Bv.cells ⟨bu, ⟨ba, bn, bc⟩, ⟨la, ln, lc⟩⟩), (gk3, 25, Bv.cells ⟨au, ⟨aa, an, ac⟩, ⟨ma, mn, mc⟩⟩), (gk72, 54, En.cells (findE bes nm))]) := HF.out.set 2 rfl _
       generalize wk73.setRow gk72 (En.cells (findE bes nm)) = wk74 at HF HBE HBL HAE HAL HKs ⊢
       refine wp_takeW (.bool (eIs bes nm)) (by kernel_rfl) (by kernel_rfl) ?_
       try simp only [pA, pB, p1, p2, p3]
       refine WL.nil ?_
       try simp only [pA, pB, p1, p2, p3]
       clear HKs HBE_s HBL_s HAE_s HAL_s HG_gk72
       go_upto_region 30 with fail
       refine WL.start ?_
       refine wp_takeW (.agg (Bv.cells ⟨au, ⟨aa, an, ac⟩, ⟨ma, mn, mc⟩⟩)) (exec_load 25 _ rfl ⟨gk3, 0, none⟩ (by kernel_rfl) (.agg (Bv.cells ⟨au, ⟨aa, an, ac⟩, ⟨ma, mn, mc⟩⟩)) (ld25 (HF.out.box 1 _ _ _ rfl))) (by kernel_rfl) ?_
       try simp only [pA, pB, p1, p2, p3]
       refine wp_takeW (.string nm) (by kernel_rfl) (by kernel_rfl) ?_
       try simp only [pA, pB, p1, p2, p3]
       refine wp_callW 24 #[.agg (Bv.cells ⟨au, ⟨aa, an, ac⟩, ⟨ma, mn, mc⟩⟩), .string nm] (by kernel_rfl) _ (find_any au aa an ac ⟨ma, mn, mc⟩ aes nm _ HAE.out.len (by omega) HAE.out.rd.row) (by kernel_rfl) ?_
       rintro e wk75 ⟨rfl, hk⟩
       have HBE : Hid (OwE (wk75) w.heap.size ⟨ba, bn, bc⟩ bes) := HBE.out.no hk
       have HBL : Hid (OwL (wk75) w.heap.size ⟨la, ln, lc⟩ bls) := HBL.out.no hk
       have HAE : Hid (OwE (wk75) w.heap.size ⟨aa, an, ac⟩ aes) := HAE.out.no hk
       have HAL : Hid (OwL (wk75) w.heap.size ⟨ma, mn, mc⟩ als) := HAL.out.no hk
       have HF : Hid (Fr No w (wk75) [(gk1, 25, Bv.cells ⟨bu, ⟨ba, bn, bc⟩, ⟨la, ln, lc⟩⟩), (gk3, 25, Bv.cells ⟨au, ⟨aa, an, ac⟩, ⟨ma, mn, mc⟩⟩), (gk72, 54, En.cells (findE bes nm))]) := HF.out.no hk
       clear hk
       refine ⟨.tuple #[.agg (En.cells (findE aes nm)), .bool (eIs aes nm)], rfl, ?_⟩
       try simp only [pA, pB, p1, p2, p3]
       refine wp_takeW (.tuple #[.agg (En.cells (findE aes nm)), .bool (eIs aes nm)]) (by kernel_rfl) (by kernel_rfl) ?_
       try simp only [pA, pB, p1, p2, p3]
       refine wp_takeW (.agg (En.cells (findE aes nm))) (by kernel_rfl) (by kernel_rfl) ?_
       try simp only [pA, pB, p1, p2, p3]
       refine wp_takeW (.bool (eIs aes nm)) (by kernel_rfl) (by kernel_rfl) ?_
       try simp only [pA, pB, p1, p2, p3]
       refine wp_runW (.pointer (some ⟨wk75.heap.size, 0, none⟩)) (wk75.alloc (.cells (En.cells enZ) 54)) (exec_alloc 54 rfl (En.cells enZ) zero54) (by kernel_rfl) ?_
       try simp only [pA, pB, p1, p2, p3]
       have HBE_s : Hid (OwE wk75 w.heap.size ⟨ba, bn, bc⟩ bes) := HBE
       have HBL_s : Hid (OwL wk75 w.heap.size ⟨la, ln, lc⟩ bls) := HBL
       have HAE_s : Hid (OwE wk75 w.heap.size ⟨aa, an, ac⟩ aes) := HAE
       have HAL_s : Hid (OwL wk75 w.heap.size ⟨ma, mn, mc⟩ als) := HAL
       have HKs : Hid (Kept No wk75 wk75) := Kept.refl _ _
       have HG_gk76 : Hid (wk75.heap.size ≤ wk75.heap.size) := Nat.le_refl _
       have HBE : Hid (OwE (wk75.alloc (.cells (En.cells enZ) 54)) w.heap.size ⟨ba, bn, bc⟩ bes) := HBE.out.no ((Kept.refl No _).alloc _)
       have HBL : Hid (OwL (wk75.alloc (.cells (En.cells enZ) 54)) w.heap.size ⟨la, ln, lc⟩ bls) := HBL.out.no ((Kept.refl No _).alloc _)
       have HAE : Hid (OwE (wk75.alloc (.cells (En.cells enZ) 54)) w.heap.size ⟨aa, an, ac⟩ aes) := HAE.out.no ((Kept.refl No _).alloc _)
       have HAL : Hid (OwL (wk75.alloc (.cells (En.cells enZ) 54)) w.heap.size ⟨ma, mn, mc⟩ als) := HAL.out.no ((Kept.refl No _).alloc _)
       have HKs : Hid (Kept No wk75 (wk75.alloc (.cells (En.cells enZ) 54))) := HKs.out.no ((Kept.refl No _).alloc _)
       have HF : Hid (Fr No w (wk75.alloc (.cells (En.cells enZ) 54)) [(gk1, 25, Bv.cells ⟨bu, ⟨ba, bn, bc⟩, ⟨la, ln, lc⟩⟩), (gk3, 25, Bv.cells ⟨au, ⟨aa, an, ac⟩, ⟨ma, mn, mc⟩⟩), (gk72, 54, En.cells (findE bes nm)), (wk75.heap.size, 54, En.cells enZ)]) := HF.out.alloc _ _
       generalize wk75.alloc (.cells (En.cells enZ) 54) = wk77 at HF HBE HBL HAE HAL HKs ⊢
       obtain ⟨gk76, hg⟩ : ∃ g, g = wk75.heap.size := ⟨_, rfl⟩
       have HG_gk76 : Hid (wk75.heap.size ≤ gk76) := by show _ ≤ _; rw [hg]; exact HG_gk76.out
       rw [← hg] at HF ⊢
       clear hg
       refine wp_storeW 54 _ _ rfl ⟨gk76, 0, none⟩ (.agg (En.cells (findE aes nm))) (by kernel_rfl) (by kernel_rfl) (wk77.setRow gk76 (En.cells (findE aes nm))) (st54 (HF.out.box 3 _ _ _ rfl) rfl) (by kernel_rfl) ?_
       try simp only [pA, pB, p1, p2, p3]
       have HBE : Hid (OwE (wk77.setRow gk76 (En.cells (findE aes nm))) w.heap.size ⟨ba, bn, bc⟩ bes) := HBE_s.out.no (HKs.out.newRow HG_gk76.out _)
       have HBL : Hid (OwL (wk77.setRow gk76 (En.cells (findE aes nm))) w.heap.size ⟨la, ln, lc⟩ bls) := HBL_s.out.no (HKs.out.newRow HG_gk76.out _)
       have HAE : Hid (OwE (wk77.setRow gk76 (En.cells (findE aes nm))) w.heap.size ⟨aa, an, ac⟩ aes) := HAE_s.out.no (HKs.out.newRow HG_gk76.out _)
       have HAL : Hid (OwL (wk77.setRow gk76 (En.cells (findE aes nm))) w.heap.size ⟨ma, mn, mc⟩ als) := HAL_s.out.no (HKs.out.newRow HG_gk76.out _)
       have HKs : Hid (Kept No wk75 (wk77.setRow gk76 (En.cells (findE aes nm)))) := HKs.out.newRow HG_gk76.out _
       have HF : Hid (Fr No w (wk77.setRow gk76 (En.cells (findE aes nm))) [(gk1, 25, Bv.cells ⟨bu, ⟨ba, bn, bc⟩, ⟨la, ln, lc⟩⟩), (gk3, 25, Bv.cells ⟨au, ⟨aa, an, ac⟩, ⟨ma, mn, mc⟩⟩), (gk72, 54, En.cells (findE bes nm)), (gk76, 54, En.cells (findE aes nm))]) := HF.out.set 3 rfl _
       generalize wk77.setRow gk76 (En.cells (findE aes nm)) = wk78 at HF HBE HBL HAE HAL HKs ⊢
       refine wp_takeW (.bool (eIs aes nm)) (by kernel_rfl) (by kernel_rfl) ?_
       try simp only [pA, pB, p1, p2, p3]
       refine WL.nil ?_
       try simp only [pA, pB, p1, p2, p3]
       clear HKs HBE_s HBL_s HAE_s HAL_s HG_gk76
       go_upto_region 31 with fail
       refine WL.start ?_
       refine wp_takeW (.bool false) (by kernel_rfl) (by kernel_rfl) ?_
       try simp only [pA, pB, p1, p2, p3]
       refine wp_takeW (.bool true) (by kernel_rfl) (by kernel_rfl) ?_
       try simp only [pA, pB, p1, p2, p3]
       refine wp_takeW (.bool true) (by kernel_rfl) (by kernel_rfl) ?_
       try simp only [pA, pB, p1, p2, p3]
       refine wp_skip (by kernel_rfl) ?_
       try simp only [pA, pB, p1, p2, p3]
       refine wp_skip (by kernel_rfl) ?_
       try simp only [pA, pB, p1, p2, p3]
       refine wp_skip (by kernel_rfl) ?_
       try simp only [pA, pB, p1, p2, p3]
       refine wp_skip (by kernel_rfl) ?_
       try simp only [pA, pB, p1, p2, p3]
       refine wp_skip (by kernel_rfl) ?_
       try simp only [pA, pB, p1, p2, p3]
       refine wp_skip (by kernel_rfl) ?_
       try simp only [pA, pB, p1, p2, p3]
       refine wp_skip (by kernel_rfl) ?_
       try simp only [pA, pB, p1, p2, p3]
       refine wp_skip (by kernel_rfl) ?_
       try simp only [pA, pB, p1, p2, p3]
       refine wp_takeW (.bool true) (by kernel_rfl) (by kernel_rfl) ?_
       try simp only [pA, pB, p1, p2, p3]
       refine wp_takeW (.bool true) (by kernel_rfl) (by kernel_rfl) ?_
       try simp only [pA, pB, p1, p2, p3]
       refine wp_callW 10 #[] (by kernel_rfl) _ (head_any _) (by kernel_rfl) ?_
       rintro e wk79 ⟨rfl, hk⟩
       have HBE : Hid (OwE (wk79) w.heap.size ⟨ba, bn, bc⟩ bes) := HBE.out.no hk
       have HBL : Hid (OwL (wk79) w.heap.size ⟨la, ln, lc⟩ bls) := HBL.out.no hk
       have HAE : Hid (OwE (wk79) w.heap.size ⟨aa, an, ac⟩ aes) := HAE.out.no hk
       have HAL : Hid (OwL (wk79) w.heap.size ⟨ma, mn, mc⟩ als) := HAL.out.no hk
       have HF : Hid (Fr No w (wk79) [(gk1, 25, Bv.cells ⟨bu, ⟨ba, bn, bc⟩, ⟨la, ln, lc⟩⟩), (gk3, 25, Bv.cells ⟨au, ⟨aa, an, ac⟩, ⟨ma, mn, mc⟩⟩), (gk72, 54, En.cells (findE bes nm)), (gk76, 54, En.cells (findE aes nm))]) := HF.out.no hk
       clear hk
       refine ⟨.bool true, rfl, ?_⟩
       try simp only [pA, pB, p1, p2, p3]
       refine wp_takeW (.bool true) (by kernel_rfl) (by kernel_rfl) ?_
       try simp only [pA, pB, p1, p2, p3]
       refine wp_takeW (.bool true) (by kernel_rfl) (by kernel_rfl) ?_
       try simp only [pA, pB, p1, p2, p3]
       refine WL.nil ?_
       try simp only [pA, pB, p1, p2, p3]
       go_wp2
       rw [HC.out]
       exact ⟨rfl, HF.out.kept⟩
      ·skip
       have HFI : Hid (eIs bes nm = eIs aes nm ∧ findE bes nm = findE aes nm) := HI.out.fin
       have HFI : Hid (eIs aes nm = eIs bes nm ∧ findE aes nm = findE bes nm) := ⟨HFI.out.1.symm, HFI.out.2.symm⟩
       go_upto_region 29 with fail
       refine WL.start ?_
       refine wp_takeW (.agg (Bv.cells ⟨bu, ⟨ba, bn, bc⟩, ⟨la, ln, lc⟩⟩)) (exec_load 25 _ rfl ⟨gk1, 0, none⟩ (by kernel_rfl) (.agg (Bv.cells ⟨bu, ⟨ba, bn, bc⟩, ⟨la, ln, lc⟩⟩)) (ld25 (HF.out.box 0 _ _ _ rfl))) (by kernel_rfl) ?_
       try simp only [pA, pB, p1, p2, p3]
       refine wp_takeW (.string nm) (by kernel_rfl) (by kernel_rfl) ?_
       try simp only [pA, pB, p1, p2, p3]
       refine wp_callW 24 #[.agg (Bv.cells ⟨bu, ⟨ba, bn, bc⟩, ⟨la, ln, lc⟩⟩), .string nm] (by kernel_rfl) _ (find_any bu ba bn bc ⟨la, ln, lc⟩ bes nm _ HBE.out.len (by omega) HBE.out.rd.row) (by kernel_rfl) ?_
       rintro e wk80 ⟨rfl, hk⟩
       have HBE : Hid (OwE (wk80) w.heap.size ⟨ba, bn, bc⟩ bes) := HBE.out.no hk
       have HBL : Hid (OwL (wk80) w.heap.size ⟨la, ln, lc⟩ bls) := HBL.out.no hk
       have HAE : Hid (OwE (wk80) w.heap.size ⟨aa, an, ac⟩ aes) := HAE.out.no hk
       have HAL : Hid (OwL (wk80) w.heap.size ⟨ma, mn, mc⟩ als) := HAL.out.no hk
       have HF : Hid (Fr No w (wk80) [(gk1, 25, Bv.cells ⟨bu, ⟨ba, bn, bc⟩, ⟨la, ln, lc⟩⟩), (gk3, 25, Bv.cells ⟨au, ⟨aa, an, ac⟩, ⟨ma, mn, mc⟩⟩)]) := HF.out.no hk
       clear hk
       refine ⟨.tuple #[.agg (En.cells (findE bes nm)), .bool (eIs bes nm)], rfl, ?_⟩
       try simp only [pA, pB, p1, p2, p3]
       refine wp_takeW (.tuple #[.agg (En.cells (findE bes nm)), .bool (eIs bes nm)]) (by kernel_rfl) (by kernel_rfl) ?_
       try simp only [pA, pB, p1, p2, p3]
       refine wp_takeW (.agg (En.cells (findE bes nm))) (by kernel_rfl) (by kernel_rfl) ?_
       try simp only [pA, pB, p1, p2, p3]
       refine wp_takeW (.bool (eIs bes nm)) (by kernel_rfl) (by kernel_rfl) ?_
       try simp only [pA, pB, p1, p2, p3]
       refine wp_runW (.pointer (some ⟨wk80.heap.size, 0, none⟩)) (wk80.alloc (.cells (En.cells enZ) 54)) (exec_alloc 54 rfl (En.cells enZ) zero54) (by kernel_rfl) ?_
       try simp only [pA, pB, p1, p2, p3]
       have HBE_s : Hid (OwE wk80 w.heap.size ⟨ba, bn, bc⟩ bes) := HBE
       have HBL_s : Hid (OwL wk80 w.heap.size ⟨la, ln, lc⟩ bls) := HBL
       have HAE_s : Hid (OwE wk80 w.heap.size ⟨aa, an, ac⟩ aes) := HAE
       have HAL_s : Hid (OwL wk80 w.heap.size ⟨ma, mn, mc⟩ als) := HAL
       have HKs : Hid (Kept No wk80 wk80) := Kept.refl _ _
       have HG_gk81 : Hid (wk80.heap.size ≤ wk80.heap.size) := Nat.le_refl _
       have HBE : Hid (OwE (wk80.alloc (.cells (En.cells enZ) 54)) w.heap.size ⟨ba, bn, bc⟩ bes) := HBE.out.no ((Kept.refl No _).alloc _)
       have HBL : Hid (OwL (wk80.alloc (.cells (En.cells enZ) 54)) w.heap.size ⟨la, ln, lc⟩ bls) := HBL.out.no ((Kept.refl No _).alloc _)
       have HAE : Hid (OwE (wk80.alloc (.cells (En.cells enZ) 54)) w.heap.size ⟨aa, an, ac⟩ aes) := HAE.out.no ((Kept.refl No _).alloc _)
       have HAL : Hid (OwL (wk80.alloc (.cells (En.cells enZ) 54)) w.heap.size ⟨ma, mn, mc⟩ als) := HAL.out.no ((Kept.refl No _).alloc _)
       have HKs : Hid (Kept No wk80 (wk80.alloc (.cells (En.cells enZ) 54))) := HKs.out.no ((Kept.refl No _).alloc _)
       have HF : Hid (Fr No w (wk80.alloc (.cells (En.cells enZ) 54)) [(gk1, 25, Bv.cells ⟨bu, ⟨ba, bn, bc⟩, ⟨la, ln, lc⟩⟩), (gk3, 25, Bv.cells ⟨au, ⟨aa, an, ac⟩, ⟨ma, mn, mc⟩⟩), (wk80.heap.size, 54, En.cells enZ)]) := HF.out.alloc _ _
       generalize wk80.alloc (.cells (En.cells enZ) 54) = wk82 at HF HBE HBL HAE HAL HKs ⊢
       obtain ⟨gk81, hg⟩ : ∃ g, g = wk80.heap.size := ⟨_, rfl⟩
       have HG_gk81 : Hid (wk80.heap.size ≤ gk81) := by show _ ≤ _; rw [hg]; exact HG_gk81.out
       rw [← hg] at HF ⊢
       clear hg
       refine wp_storeW 54 _ _ rfl ⟨gk81, 0, none⟩ (.agg (En.cells (findE bes nm))) (by kernel_rfl) (by kernel_rfl) (wk82.setRow gk81 (En.cells (findE bes nm))) (st54 (HF.out.box 2 _ _ _ rfl) rfl) (by kernel_rfl) ?_
       try simp only [pA, pB, p1, p2, p3]
       have HBE : Hid (OwE (wk82.setRow gk81 (En.cells (findE bes nm))) w.heap.size ⟨ba, bn, bc⟩ bes) := HBE_s.out.no (HKs.out.newRow HG_gk81.out _)
       have HBL : Hid (OwL (wk82.setRow gk81 (En.cells (findE bes nm))) w.heap.size ⟨la, ln, lc⟩ bls) := HBL_s.out.no (HKs.out.newRow HG_gk81.out _)
       have HAE : Hid (OwE (wk82.setRow gk81 (En.cells (findE bes nm))) w.heap.size ⟨aa, an, ac⟩ aes) := HAE_s.out.no (HKs.out.newRow HG_gk81.out _)
       have HAL : Hid (OwL (wk82.setRow gk81 (En.cells (findE bes nm))) w.heap.size ⟨ma, mn, mc⟩ als) := HAL_s.out.no (HKs.out.newRow HG_gk81.out _)
       have HKs : Hid (Kept No wk80 (wk82.setRow gk81 (En.cells (findE bes nm)))) := HKs.out.newRow HG_gk81.out _
       have HF : Hid (Fr No w (wk82.setRow gk81 (En.cells (findE bes nm))) [(gk1, 25, Bv.cells ⟨bu, ⟨ba, bn, bc⟩, ⟨la, ln, lc⟩⟩), (gk3, 25, Bv.cells ⟨au, ⟨aa, an, ac⟩, ⟨ma, mn, mc⟩⟩), (gk81, 54, En.cells (findE bes nm))]) := HF.out.set 2 rfl _
       generalize wk82.setRow gk81 (En.cells (findE bes nm)) = wk83 at HF HBE HBL HAE HAL HKs ⊢
       refine wp_takeW (.bool (eIs bes nm)) (by kernel_rfl) (by kernel_rfl) ?_
       try simp only [pA, pB, p1, p2, p3]
       refine WL.nil ?_
       try simp only [pA, pB, p1, p2, p3]
       clear HKs HBE_s HBL_s HAE_s HAL_s HG_gk81
       go_upto_region 30 with fail
       refine WL.start ?_
       refine wp_takeW (.agg (Bv.cells ⟨au, ⟨aa, an, ac⟩, ⟨ma, mn, mc⟩⟩)) (exec_load 25 _ rfl ⟨gk3, 0, none⟩ (by kernel_rfl) (.agg (Bv.cells ⟨au, ⟨aa, an, ac⟩, ⟨ma, mn, mc⟩⟩)) (ld25 (HF.out.box 1 _ _ _ rfl))) (by kernel_rfl) ?_
       try simp only [pA, pB, p1, p2, p3]
       refine wp_takeW (.string nm) (by kernel_rfl) (by kernel_rfl) ?_
       try simp only [pA, pB, p1, p2, p3]
       refine wp_callW 24 #[.agg (Bv.cells ⟨au, ⟨aa, an, ac⟩, ⟨ma, mn, mc⟩⟩), .string nm] (by kernel_rfl) _ (find_any au aa an ac ⟨ma, mn, mc⟩ aes nm _ HAE.out.len (by omega) HAE.out.rd.row) (by kernel_rfl) ?_
       rintro e wk84 ⟨rfl, hk⟩
       have HBE : Hid (OwE (wk84) w.heap.size ⟨ba, bn, bc⟩ bes) := HBE.out.no hk
       have HBL : Hid (OwL (wk84) w.heap.size ⟨la, ln, lc⟩ bls) := HBL.out.no hk
       have HAE : Hid (OwE (wk84) w.heap.size ⟨aa, an, ac⟩ aes) := HAE.out.no hk
       have HAL : Hid (OwL (wk84) w.heap.size ⟨ma, mn, mc⟩ als) := HAL.out.no hk
       have HF : Hid (Fr No w (wk84) [(gk1, 25, Bv.cells ⟨bu, ⟨ba, bn, bc⟩, ⟨la, ln, lc⟩⟩), (gk3, 25, Bv.cells ⟨au, ⟨aa, an, ac⟩, ⟨ma, mn, mc⟩⟩), (gk81, 54, En.cells (findE bes nm))]) := HF.out.no hk
       clear hk
       refine ⟨.tuple #[.agg (En.cells (findE bes nm)), .bool (eIs bes nm)], by rw [HFI.out.1, HFI.out.2], ?_⟩
       try simp only [pA, pB, p1, p2, p3]
       refine wp_takeW (.tuple #[.agg (En.cells (findE bes nm)), .bool (eIs bes nm)]) (by kernel_rfl) (by kernel_rfl) ?_
       try simp only [pA, pB, p1, p2, p3]
       refine wp_takeW (.agg (En.cells (findE bes nm))) (by kernel_rfl) (by kernel_rfl) ?_
       try simp only [pA, pB, p1, p2, p3]
       refine wp_takeW (.bool (eIs bes nm)) (by kernel_rfl) (by kernel_rfl) ?_
       try simp only [pA, pB, p1, p2, p3]
       refine wp_runW (.pointer (some ⟨wk84.heap.size, 0, none⟩)) (wk84.alloc (.cells (En.cells enZ) 54)) (exec_alloc 54 rfl (En.cells enZ) zero54) (by kernel_rfl) ?_
       try simp only [pA, pB, p1, p2, p3]
       have HBE_s : Hid (OwE wk84 w.heap.size ⟨ba, bn, bc⟩ bes) := HBE
       have HBL_s : Hid (OwL wk84 w.heap.size ⟨la, ln, lc⟩ bls) := HBL
       have HAE_s : Hid (OwE wk84 w.heap.size ⟨aa, an, ac⟩ aes) := HAE
       have HAL_s : Hid (OwL wk84 w.heap.size ⟨ma, mn, mc⟩ als) := HAL
       have HKs : Hid (Kept No wk84 wk84) := Kept.refl _ _
       have HG_gk85 : Hid (wk84.heap.size ≤ wk84.heap.size) := Nat.le_refl _
       have HBE : Hid (OwE (wk84.alloc (.cells (En.cells enZ) 54)) w.heap.size ⟨ba, bn, bc⟩ bes) := HBE.out.no ((Kept.refl No _).alloc _)
       have HBL : Hid (OwL (wk84.alloc (.cells (En.cells enZ) 54)) w.heap.size ⟨la, ln, lc⟩ bls) := HBL.out.no ((Kept.refl No _).alloc _)
       have HAE : Hid (OwE (wk84.alloc (.cells (En.cells enZ) 54)) w.heap.size ⟨aa, an, ac⟩ aes) := HAE.out.no ((Kept.refl No _).alloc _)
       have HAL : Hid (OwL (wk84.alloc (.cells (En.cells enZ) 54)) w.heap.size ⟨ma, mn, mc⟩ als) := HAL.out.no ((Kept.refl No _).alloc _)
       have HKs : Hid (Kept No wk84 (wk84.alloc (.cells (En.cells enZ) 54))) := HKs.out.no ((Kept.refl No _).alloc _)
       have HF : Hid (Fr No w (wk84.alloc (.cells (En.cells enZ) 54)) [(gk1, 25, Bv.cells ⟨bu, ⟨ba, bn, bc⟩, ⟨la, ln, lc⟩⟩), (gk3, 25, Bv.cells ⟨au, ⟨aa, an, ac⟩, ⟨ma, mn, mc⟩⟩), (gk81, 54, En.cells (findE bes nm)), (wk84.heap.size, 54, En.cells enZ)]) := HF.out.alloc _ _
       generalize wk84.alloc (.cells (En.cells enZ) 54) = wk86 at HF HBE HBL HAE HAL HKs ⊢
       obtain ⟨gk85, hg⟩ : ∃ g, g = wk84.heap.size := ⟨_, rfl⟩
       have HG_gk85 : Hid (wk84.heap.size ≤ gk85) := by show _ ≤ _; rw [hg]; exact HG_gk85.out
       rw [← hg] at HF ⊢
       clear hg
       refine wp_storeW 54 _ _ rfl ⟨gk85, 0, none⟩ (.agg (En.cells (findE bes nm))) (by kernel_rfl) (by kernel_rfl) (wk86.setRow gk85 (En.cells (findE bes nm))) (st54 (HF.out.box 3 _ _ _ rfl) rfl) (by kernel_rfl) ?_
       try simp only [pA, pB, p1, p2, p3]
       have HBE : Hid (OwE (wk86.setRow gk85 (En.cells (findE bes nm))) w.heap.size ⟨ba, bn, bc⟩ bes) := HBE_s.out.no (HKs.out.newRow HG_gk85.out _)
       have HBL : Hid (OwL (wk86.setRow gk85 (En.cells (findE bes nm))) w.heap.size ⟨la, ln, lc⟩ bls) := HBL_s.out.no (HKs.out.newRow HG_gk85.out _)
       have HAE : Hid (OwE (wk86.setRow gk85 (En.cells (findE bes nm))) w.heap.size ⟨aa, an, ac⟩ aes) := HAE_s.out.no (HKs.out.newRow HG_gk85.out _)
       have HAL : Hid (OwL (wk86.setRow gk85 (En.cells (findE bes nm))) w.heap.size ⟨ma, mn, mc⟩ als) := HAL_s.out.no (HKs.out.newRow HG_gk85.out _)
       have HKs : Hid (Kept No wk84 (wk86.setRow gk85 (En.cells (findE bes nm)))) := HKs.out.newRow HG_gk85.out _
       have HF : Hid (Fr No w (wk86.setRow gk85 (En.cells (findE bes nm))) [(gk1, 25, Bv.cells ⟨bu, ⟨ba, bn, bc⟩, ⟨la, ln, lc⟩⟩), (gk3, 25, Bv.cells ⟨au, ⟨aa, an, ac⟩, ⟨ma, mn, mc⟩⟩), (gk81, 54, En.cells (findE bes nm)), (gk85, 54, En.cells (findE bes nm))]) := HF.out.set 3 rfl _
       generalize wk86.setRow gk85 (En.cells (findE bes nm)) = wk87 at HF HBE HBL HAE HAL HKs ⊢
       refine wp_takeW (.bool (eIs bes nm)) (by kernel_rfl) (by kernel_rfl) ?_
       try simp only [pA, pB, p1, p2, p3]
       refine WL.nil ?_
       try simp only [pA, pB, p1, p2, p3]
       clear HKs HBE_s HBL_s HAE_s HAL_s HG_gk85
       go_upto_region 31 with fail
       refine WL.start ?_
       refine wp_takeW (.bool true) (by kernel_rfl) (by kernel_rfl) ?_
       try simp only [pA, pB, p1, p2, p3]
       refine wp_takeW (.bool false) (by kernel_rfl) (by kernel_rfl) ?_
       try simp only [pA, pB, p1, p2, p3]
       refine wp_takeW (.bool false) (by kernel_rfl) (by kernel_rfl) ?_
       try simp only [pA, pB, p1, p2, p3]
       refine wp_takeW (.bool (eIs bes nm)) (by kernel_rfl) (by kernel_rfl) ?_
       try simp only [pA, pB, p1, p2, p3]
       refine wp_takeW (.bool (eIs bes nm)) (by kernel_rfl) (by kernel_rfl) ?_
       try simp only [pA, pB, p1, p2, p3]
       refine wp_takeW (.bool true) (exec_bin .eql 4 _ _ _ rfl (.bool (eIs bes nm)) (.bool (eIs bes nm)) (.bool true) (by kernel_rfl) (by kernel_rfl) (by kernel_rfl) (b_eqlB _ _)) (by kernel_rfl) ?_
       try simp only [pA, pB, p1, p2, p3]
       refine wp_takeW (.bool true) (by kernel_rfl) (by kernel_rfl) ?_
       try simp only [pA, pB, p1, p2, p3]
       refine wp_takeW (.agg (En.cells (findE bes nm))) (exec_load 54 _ rfl ⟨gk81, 0, none⟩ (by kernel_rfl) (.agg (En.cells (findE bes nm))) (ld54 (HF.out.box 2 _ _ _ rfl))) (by kernel_rfl) ?_
       try simp only [pA, pB, p1, p2, p3]
       refine wp_takeW (.agg (En.cells (findE bes nm))) (exec_load 54 _ rfl ⟨gk85, 0, none⟩ (by kernel_rfl) (.agg (En.cells (findE bes nm))) (ld54 (HF.out.box 3 _ _ _ rfl))) (by kernel_rfl) ?_
       try simp only [pA, pB, p1, p2, p3]
       refine wp_takeW (.bool true) (exec_bin .eql 54 _ _ _ rfl (.agg (En.cells (findE bes nm))) (.agg (En.cells (findE bes nm))) (.bool true) (by kernel_rfl) (by kernel_rfl) (by kernel_rfl) (by rw [eqE_eql, eqE_iff.2 rfl])) (by kernel_rfl) ?_
       try simp only [pA, pB, p1, p2, p3]
       refine wp_takeW (.bool true) (by kernel_rfl) (by kernel_rfl) ?_
       try simp only [pA, pB, p1, p2, p3]
       refine wp_takeW (.bool true) (by kernel_rfl) (by kernel_rfl) ?_
       try simp only [pA, pB, p1, p2, p3]
       refine wp_takeW (.bool true) (by kernel_rfl) (by kernel_rfl) ?_
       try simp only [pA, pB, p1, p2, p3]
       refine wp_callW 10 #[] (by kernel_rfl) _ (head_any _) (by kernel_rfl) ?_
       rintro e wk88 ⟨rfl, hk⟩
       have HBE : Hid (OwE (wk88) w.heap.size ⟨ba, bn, bc⟩ bes) := HBE.out.no hk
       have HBL : Hid (OwL (wk88) w.heap.size ⟨la, ln, lc⟩ bls) := HBL.out.no hk
       have HAE : Hid (OwE (wk88) w.heap.size ⟨aa, an, ac⟩ aes) := HAE.out.no hk
       have HAL : Hid (OwL (wk88) w.heap.size ⟨ma, mn, mc⟩ als) := HAL.out.no hk
       have HF : Hid (Fr No w (wk88) [(gk1, 25, Bv.cells ⟨bu, ⟨ba, bn, bc⟩, ⟨la, ln, lc⟩⟩), (gk3, 25, Bv.cells ⟨au, ⟨aa, an, ac⟩, ⟨ma, mn, mc⟩⟩), (gk81, 54, En.cells (findE bes nm)), (gk85, 54, En.cells (findE bes nm))]) := HF.out.no hk
       clear hk
       refine ⟨.bool true, rfl, ?_⟩
       try simp only [pA, pB, p1, p2, p3]
       refine wp_takeW (.bool true) (by kernel_rfl) (by kernel_rfl) ?_
       try simp only [pA, pB, p1, p2, p3]
       refine wp_takeW (.bool true) (by kernel_rfl) (by kernel_rfl) ?_
       try simp only [pA, pB, p1, p2, p3]
       refine WL.nil ?_
       try simp only [pA, pB, p1, p2, p3]
       go_wp2
       rw [HC.out]
       exact ⟨rfl, HF.out.kept⟩

end Go.Proofs.Ytfemlnfknebalaa
