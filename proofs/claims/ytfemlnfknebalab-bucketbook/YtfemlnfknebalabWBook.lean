import Derived.Test.YtfemlnfknebalabQl
import Derived.Deep.CutBlock
namespace Go.Proofs.Ytfemlnfknebalab
open Go.RowKit Go.Shelf
set_option linter.unusedVariables false
set_option linter.unusedSimpArgs false

def SzL (n : Nat) (w : World) : Prop := n ≤ w.heap.size
theorem SzL.no {n : Nat} {w w' : World} (h : SzL n w) (hk : Kept No w w') : SzL n w' := Nat.le_trans h hk.size
theorem sameB_refl (u : Int) (e : List En) (l : List La) : sameB u e l u e l = true := by
  unfold sameB
  rw [sameE_iff.2 rfl, sameL_iff.2 rfl]
  simp
theorem fine_z : Fine 0 ⟨0, [], []⟩ := ⟨Int.le_refl _, fun i j x y h => by simp at h, fun i j x y h => by simp at h, Nat.le_refl _, Nat.le_refl _⟩
set_option maxRecDepth 100000 in
set_option maxHeartbeats 4000000 in
theorem bookWalk (room : Int) (ca : Option Addr) (cn cc : Nat) (xs : List Cm) (w : World) (hl : xs.length = cn) (hbig : cn ≤ 140737488351232) (hX : Cs w ca xs) : Calls Try.prog 3 #[.int .i64 room, .slice ca cn cc] w (fun e w' => e = .returned (.bool true) ∧ Kept No w w') := by
  obtain ⟨C, hC⟩ : ∃ C : Ending → World → Prop, C = (fun e w' => e = .returned (.bool true) ∧ Kept No w w') := ⟨_, rfl⟩
  have HC : Hid (C = (fun e w' => e = .returned (.bool true) ∧ Kept No w w')) := hC
  rw [← hC]
  clear hC
  have HL : Hid (xs.length = cn) := hl
  have HX : Hid (Cs w ca xs) := hX
  clear hl hX
  have HF : Hid (Fr No w w []) := Fr.start _ _
  go_enter Try.func3, Try.ntmps3
  go_upto_region 0 with fail
  refine WL.start ?_
  refine tK (.bool false) ?_
  try simp only [pA, pB, p1, p2, p3]
  refine WL.nil ?_
  try simp only [pA, pB, p1, p2, p3]
  go_upto_region 1 with fail
  refine WL.start ?_
  refine wp_runW (.pointer (some ⟨w.heap.size, 0, none⟩)) (w.alloc (.cells (Bv.cells bvZ) 26)) (exec_alloc 26 rfl (Bv.cells bvZ) zero25) (by kernel_rfl) ?_
  try simp only [pA, pB, p1, p2, p3]
  have HF : Hid (Fr No w (w.alloc (.cells (Bv.cells bvZ) 26)) [(w.heap.size, 26, Bv.cells bvZ)]) := HF.out.alloc _ _
  generalize w.alloc (.cells (Bv.cells bvZ) 26) = wk2 at HF ⊢
  generalize w.heap.size = gk1 at HF ⊢
  refine WL.nil ?_
  try simp only [pA, pB, p1, p2, p3]
  go_upto_block 0 with fail
  go_cut [6] from 29 to 54 (fun v6 wc => ∃ (i : Nat) (b : Bk) (se sl : Sl), v6 = .int .i64 ((i : Nat) : Int) ∧ i ≤ 40 ∧ Hid (Fr No w wc [(gk1, 26, Bv.cells ⟨b.up, se, sl⟩)]) ∧ Hid (OwE wc w.heap.size se b.es) ∧ Hid (OwL wc w.heap.size sl b.ls) ∧ Hid (Fine i b ∧ b.up ≤ i))
  case first =>
   rename_i J0 K0 hJ0 hK0
   go_wp2
   go_loopw [6] (fun v6 wr => ∃ (i : Nat) (b : Bk) (se sl : Sl), v6 = .int .i64 ((i : Nat) : Int) ∧ i ≤ cn ∧ i ≤ 40 ∧ Hid (Fr No w wr [(gk1, 26, Bv.cells ⟨b.up, se, sl⟩)]) ∧ Hid (OwE wr w.heap.size se b.es) ∧ Hid (OwL wr w.heap.size sl b.ls) ∧ Hid (Fine i b ∧ b.up ≤ i)) (fun i _ => 40 - (intOf i).toNat)
   case atStart => exact ⟨0, ⟨0, [], []⟩, slZ, slZ, by go_num, by omega, by omega, HF, OwE.nil _ _, OwL.nil _ _, ⟨fine_z, Int.le_refl _⟩⟩
   case round =>
     clear HF
     obtain ⟨i, ⟨bu, bes, bls⟩, ⟨ba, bn, bc⟩, ⟨la, ln, lc⟩, rfl, hi, hi4, HF, HBE, HBL, HFi⟩ := hrel
     have HBE : Hid (OwE wr w.heap.size ⟨ba, bn, bc⟩ bes) := HBE
     have HBL : Hid (OwL wr w.heap.size ⟨la, ln, lc⟩ bls) := HBL
     have HF : Hid (Fr No w wr [(gk1, 26, Bv.cells ⟨bu, ⟨ba, bn, bc⟩, ⟨la, ln, lc⟩⟩)]) := HF
     have hbn : bn ≤ 40 := by have h1 : bes.length = bn := HBE.out.len; have h2 : bes.length ≤ i := HFi.out.1.ne; omega
     have hln : ln ≤ 40 := by have h1 : bls.length = ln := HBL.out.len; have h2 : bls.length ≤ i := HFi.out.1.nl; omega
     have hbu : 0 ≤ bu ∧ bu ≤ 40 := by have h1 : 0 ≤ bu := HFi.out.1.up; have h2 : bu ≤ i := HFi.out.2; omega
     by_cases hlt : i < cn
     · by_cases hl4 : i < 40
       · skip
         obtain ⟨xb, xo, e0, hcell⟩ := Cs.at HX.out (i := i) (by rw [HL.out]; exact hlt)
         subst e0
         have HCE : Hid (∀ (j : Nat) v, (cAt xs i).cs[j]? = some v → w.cell? ⟨xb, xo + i * 9 + j, none⟩ = some v) := hcell
         clear hcell
         generalize cAt xs i = x at HCE
         go_upto_region 3 with fail
         refine WL.start ?_
         refine tK (.int .i64 ((i : Nat) : Int)) ?_
         try simp only [pA, pB, p1, p2, p3]
         refine tK (.slice (some ⟨xb, xo, none⟩) cn cc) ?_
         try simp only [pA, pB, p1, p2, p3]
         refine tK (.int .i64 ((cn : Nat) : Int)) ?_
         try simp only [pA, pB, p1, p2, p3]
         refine tW (.bool true) (exec_bin .lss 3 _ _ _ rfl (.int .i64 ((i : Nat) : Int)) (.int .i64 ((cn : Nat) : Int)) (.bool true) (by kernel_rfl) (by kernel_rfl) (by kernel_rfl) (by rw [b_lss, decide_eq_true (by omega)])) ?_
         try simp only [pA, pB, p1, p2, p3]
         refine tK (.bool true) ?_
         try simp only [pA, pB, p1, p2, p3]
         refine tK (.int .i64 ((i : Nat) : Int)) ?_
         try simp only [pA, pB, p1, p2, p3]
         refine tW (.bool true) (exec_bin .lss 3 _ _ _ rfl (.int .i64 ((i : Nat) : Int)) (.int .i64 40) (.bool true) (by kernel_rfl) (by kernel_rfl) (by kernel_rfl) (by rw [b_lss, decide_eq_true (by omega)])) ?_
         try simp only [pA, pB, p1, p2, p3]
         refine tK (.bool true) ?_
         try simp only [pA, pB, p1, p2, p3]
         refine WL.nil ?_
         try simp only [pA, pB, p1, p2, p3]
         have HBEs : Hid (OwE wr w.heap.size ⟨ba, bn, bc⟩ bes) := HBE
         clear HBE
         have HBLs : Hid (OwL wr w.heap.size ⟨la, ln, lc⟩ bls) := HBL
         clear HBL
         have HK0 : Hid (Kept No wr wr) := Kept.refl _ _
         obtain ⟨s0, hs0⟩ : ∃ n, wr.heap.size = n := ⟨_, rfl⟩
         have HS0 : Hid (wr.heap.size = s0) := hs0
         clear hs0
         go_upto_region 5 with fail
         refine WL.start ?_
         refine tK (.slice (some ⟨xb, xo, none⟩) cn cc) ?_
         try simp only [pA, pB, p1, p2, p3]
         refine tK (.int .i64 ((i : Nat) : Int)) ?_
         try simp only [pA, pB, p1, p2, p3]
         refine tW (.pointer (some ⟨xb, xo + i * 9, none⟩)) (exec_ixA 22 9 Try.und34e Try.size34e _ _ rfl xb xo cn cc i (by kernel_rfl) (by kernel_rfl) (by omega)) ?_
         try simp only [pA, pB, p1, p2, p3]
         refine tW (.agg (Cm.cells x)) (exec_load 31 _ rfl ⟨xb, xo + i * 9, none⟩ (by kernel_rfl) (.agg (Cm.cells x)) (load_Ca (fun j v h => HF.out.kept.cell (HCE.out j v h) (fun e => e)))) ?_
         try simp only [pA, pB, p1, p2, p3]
         cases q1 : (cmdB x)
         ·skip
          refine wp_callW 5 #[.agg (Cm.cells x)] (by kernel_rfl) _ (command_any x _) (by kernel_rfl) ?_
          rintro e wk3 ⟨rfl, hk⟩
          have HK0 : Hid (Kept No wr (wk3)) := HK0.out.no hk
          have HF : Hid (Fr No w (wk3) [(gk1, 26, Bv.cells ⟨bu, ⟨ba, bn, bc⟩, ⟨la, ln, lc⟩⟩)]) := HF.out.no hk
          clear hk
          refine ⟨.bool false, by rw [q1], ?_⟩
          try simp only [pA, pB, p1, p2, p3]
          refine WL.nil ?_
          try simp only [pA, pB, p1, p2, p3]
          have HBE : Hid (OwE wk3 w.heap.size ⟨ba, bn, bc⟩ bes) := HBEs.out.no HK0.out
          have HBL : Hid (OwL wk3 w.heap.size ⟨la, ln, lc⟩ bls) := HBLs.out.no HK0.out
          clear HBEs HBLs HK0 HS0
          go_wp2
          go_roundw
          case rel => exact ⟨i + 1, ⟨bu, bes, bls⟩, ⟨ba, bn, bc⟩, ⟨la, ln, lc⟩, by go_num, by omega, by omega, HF, HBE, HBL, ⟨HFi.out.1.mono (by omega), by have h2 : bu ≤ i := HFi.out.2; show bu ≤ ((i + 1 : Nat) : Int); omega⟩⟩
          case measure => simp [intOf]; omega
         ·skip
          refine wp_callW 5 #[.agg (Cm.cells x)] (by kernel_rfl) _ (command_any x _) (by kernel_rfl) ?_
          rintro e wk4 ⟨rfl, hk⟩
          have HK0 : Hid (Kept No wr (wk4)) := HK0.out.no hk
          have HF : Hid (Fr No w (wk4) [(gk1, 26, Bv.cells ⟨bu, ⟨ba, bn, bc⟩, ⟨la, ln, lc⟩⟩)]) := HF.out.no hk
          clear hk
          refine ⟨.bool true, by rw [q1], ?_⟩
          try simp only [pA, pB, p1, p2, p3]
          refine WL.nil ?_
          try simp only [pA, pB, p1, p2, p3]
          have HBE : Hid (OwE wk4 w.heap.size ⟨ba, bn, bc⟩ bes) := HBEs.out.no HK0.out
          have HBL : Hid (OwL wk4 w.heap.size ⟨la, ln, lc⟩ bls) := HBLs.out.no HK0.out
          clear HBEs HBLs HK0 HS0
          have HAP : Hid (∀ W, RdE W ⟨ba, bn, bc⟩ bes → RdL W ⟨la, ln, lc⟩ bls → Calls Try.prog 6 #[.agg (Bv.cells ⟨bu, ⟨ba, bn, bc⟩, ⟨la, ln, lc⟩⟩), .agg (Cm.cells x), .int .i64 room] W (ApYes W (stepS ⟨bu, bes, bls⟩ x room))) := fun W h1 h2 => apply_yes bu ba bn bc la ln lc bes bls x room W (refS_ok q1 (by omega)) h1 h2 (by omega) (by omega) (by omega)
          have HFn : Hid (Fine (i + 1) (stepS ⟨bu, bes, bls⟩ x room).1 ∧ (stepS ⟨bu, bes, bls⟩ x room).1.up ≤ ((i + 1 : Nat) : Int)) := ⟨HFi.out.1.step x room, by rw [st_up]; have h2 : bu ≤ i := HFi.out.2; show bu + 1 ≤ _; omega⟩
          generalize stepS ⟨bu, bes, bls⟩ x room = R at HAP HFn
          go_upto_region 6 with fail
          refine wp_region_held_drew (S := fun w' => Fr No w w' []) rfl (Fr.front (l1 := []) (l2 := [(gk1, 26, Bv.cells ⟨bu, ⟨ba, bn, bc⟩, ⟨la, ln, lc⟩⟩)]) (HF.out.drew)) (fun hH => ?_)
          have HBE : Hid (OwE (wk4.drew) w.heap.size ⟨ba, bn, bc⟩ bes) := HBE.out.no (Kept.refl No _).drew
          have HBL : Hid (OwL (wk4.drew) w.heap.size ⟨la, ln, lc⟩ bls) := HBL.out.no (Kept.refl No _).drew
          have HF : Hid (Fr No w (wk4.drew) [(gk1, 26, Bv.cells ⟨bu, ⟨ba, bn, bc⟩, ⟨la, ln, lc⟩⟩)]) := HF.out.drew
          generalize wk4.drew = wk5 at HF HBE HBL hH ⊢
          refine aT (i := 1) (oi := { dst := some 46, op := Op.move (Operand.tmp 1), type := 22, pos := "own.go:108", after := #[], guard := none }) (v := .slice (some ⟨xb, xo, none⟩) cn cc) (fun _ _ => by kernel_rfl) hH ?_
          try simp only [pA, pB, p1, p2, p3]
          refine aT (i := 2) (oi := { dst := some 47, op := Op.move (Operand.tmp 6), type := 3, pos := "own.go:108", after := #[], guard := none }) (v := .int .i64 ((i : Nat) : Int)) (fun _ _ => by kernel_rfl) hH ?_
          try simp only [pA, pB, p1, p2, p3]
          refine aT (i := 3) (oi := { dst := some 48, op := Op.indexAddr 22 (Operand.tmp 46) (Operand.tmp 47), type := 0, pos := "own.go:108", after := #[{ on := 1, ground := Ground.data }, { on := 2, ground := Ground.data }], guard := none }) (v := .pointer (some ⟨xb, xo + i * 9, none⟩)) (fun w' hw => exec_ixA 22 9 Try.und34e Try.size34e _ _ rfl xb xo cn cc i (by kernel_rfl) (by kernel_rfl) (by omega)) hH ?_
          try simp only [pA, pB, p1, p2, p3]
          refine aT (i := 4) (oi := { dst := some 49, op := Op.load 31 (Operand.tmp 48), type := 31, pos := "own.go:108", after := #[{ on := 3, ground := Ground.data }], guard := none }) (v := .agg (Cm.cells x)) (fun w' hw => exec_load 31 _ rfl ⟨xb, xo + i * 9, none⟩ (by kernel_rfl) (.agg (Cm.cells x)) (load_Ca (fun j v h => hw.kept.cell (HCE.out j v h) (fun e => e)))) hH ?_
          try simp only [pA, pB, p1, p2, p3]
          refine aT (i := 5) (oi := { dst := some 50, op := Op.move (Operand.tmp 0), type := 3, pos := "own.go:108", after := #[], guard := none }) (v := .int .i64 room) (fun _ _ => by kernel_rfl) hH ?_
          try simp only [pA, pB, p1, p2, p3]
          refine any_step (i := 0) (o := { dst := some 45, op := Op.load 26 (Operand.tmp 5), type := 26, pos := "own.go:108", after := #[], guard := none }) rfl (by kernel_rfl) (by kernel_rfl) (exec_load 26 _ rfl ⟨gk1, 0, none⟩ (by kernel_rfl) (.agg (Bv.cells ⟨bu, ⟨ba, bn, bc⟩, ⟨la, ln, lc⟩⟩)) (run_load_part (cs := Bv.cs ⟨bu, ⟨ba, bn, bc⟩, ⟨la, ln, lc⟩⟩) (sub := Bv.cs ⟨bu, ⟨ba, bn, bc⟩, ⟨la, ln, lc⟩⟩) (HF.out.box 0 _ _ _ rfl) (Part.all _) Try.und25 rfl Try.size25)) hH (fun hH => ?_)
          try simp only [pA, pB, p1, p2, p3]
          refine any_call (i := 6) (o := { dst := some 51, op := Op.call { callee := Callee.value (Operand.func 6), args := #[Operand.tmp 45, Operand.tmp 49, Operand.tmp 50], argTypes := #[26, 31, 3] }, type := 37, pos := "own.go:108", after := #[{ on := 0, ground := Ground.data }, { on := 4, ground := Ground.data }, { on := 5, ground := Ground.data }], guard := none }) rfl (by kernel_rfl) (by kernel_rfl) 6 #[.agg (Bv.cells ⟨bu, ⟨ba, bn, bc⟩, ⟨la, ln, lc⟩⟩), .agg (Cm.cells x), .int .i64 room] (by kernel_rfl) _ (HAP.out _ HBE.out.rd HBL.out.rd) ?_
          rintro e9 wk6 ⟨⟨qa, qn, qc⟩, ⟨ra, rn, rc⟩, ⟨ya, yn, yc⟩, rfl, hse, hsl, hsx, hap, hk⟩
          have hH2 : Fr No w wk6 [] := hH.no hk
          have hlow : w.heap.size ≤ wk5.heap.size := HF.out.kept.size
          have HBE : Hid (OwE (wk6) w.heap.size ⟨ba, bn, bc⟩ bes) := HBE.out.no hk
          have HBL : Hid (OwL (wk6) w.heap.size ⟨la, ln, lc⟩ bls) := HBL.out.no hk
          have HF : Hid (Fr No w (wk6) [(gk1, 26, Bv.cells ⟨bu, ⟨ba, bn, bc⟩, ⟨la, ln, lc⟩⟩)]) := HF.out.no hk
          have HBE : Hid (OwE wk6 w.heap.size ⟨qa, qn, qc⟩ R.1.es) := hse.lower hlow
          have HBL : Hid (OwL wk6 w.heap.size ⟨ra, rn, rc⟩ R.1.ls) := hsl.lower hlow
          clear hse hsl hsx hap hk hlow
          refine ⟨.tuple #[.agg (Bv.cells ⟨R.1.up, ⟨qa, qn, qc⟩, ⟨ra, rn, rc⟩⟩), .agg (Av.cells ⟨R.2.er, R.2.e, ⟨ya, yn, yc⟩⟩), .int .i64 0], rfl, hH2, fun hH => ?_⟩
          clear hH2
          try simp only [pA, pB, p1, p2, p3]
          refine aT (i := 7) (oi := { dst := some 44, op := Op.move (Operand.tmp 51), type := 37, pos := "own.go:108", after := #[{ on := 6, ground := Ground.data }], guard := none }) (v := .tuple #[.agg (Bv.cells ⟨R.1.up, ⟨qa, qn, qc⟩, ⟨ra, rn, rc⟩⟩), .agg (Av.cells ⟨R.2.er, R.2.e, ⟨ya, yn, yc⟩⟩), .int .i64 0]) (fun _ _ => by kernel_rfl) hH ?_
          try simp only [pA, pB, p1, p2, p3]
          refine aT (i := 8) (oi := { dst := some 52, op := Op.extract (Operand.tmp 44) 0, type := 26, pos := "own.go:108", after := #[{ on := 7, ground := Ground.data }], guard := none }) (v := .agg (Bv.cells ⟨R.1.up, ⟨qa, qn, qc⟩, ⟨ra, rn, rc⟩⟩)) (fun _ _ => by kernel_rfl) hH ?_
          try simp only [pA, pB, p1, p2, p3]
          refine aT (i := 9) (oi := { dst := some 53, op := Op.extract (Operand.tmp 44) 1, type := 36, pos := "own.go:108", after := #[{ on := 7, ground := Ground.data }, { on := 11, ground := Ground.gcOnly Departure.lateStores }], guard := none }) (v := .agg (Av.cells ⟨R.2.er, R.2.e, ⟨ya, yn, yc⟩⟩)) (fun _ _ => by kernel_rfl) hH ?_
          try simp only [pA, pB, p1, p2, p3]
          refine aT (i := 10) (oi := { dst := some 54, op := Op.extract (Operand.tmp 44) 2, type := 32, pos := "own.go:108", after := #[{ on := 7, ground := Ground.data }, { on := 11, ground := Ground.gcOnly Departure.lateStores }], guard := none }) (v := .int .i64 0) (fun _ _ => by kernel_rfl) hH ?_
          try simp only [pA, pB, p1, p2, p3]
          refine any_store (i := 11) (o := { dst := none, op := Op.store 26 (Operand.tmp 5) (Operand.tmp 52), type := 0, pos := "own.go:108", after := #[{ on := 8, ground := Ground.data }, { on := 6, ground := Ground.chain }, { on := 0, ground := Ground.phase }, { on := 1, ground := Ground.phase }, { on := 2, ground := Ground.phase }, { on := 3, ground := Ground.phase }, { on := 4, ground := Ground.phase }, { on := 5, ground := Ground.phase }, { on := 6, ground := Ground.phase }, { on := 7, ground := Ground.phase }, { on := 8, ground := Ground.phase }, { on := 9, ground := Ground.textOnly Departure.lateStores }, { on := 10, ground := Ground.textOnly Departure.lateStores }], guard := none }) (w' := wk6.setRow gk1 (Bv.cells ⟨R.1.up, ⟨qa, qn, qc⟩, ⟨ra, rn, rc⟩⟩)) rfl (by kernel_rfl) (by kernel_rfl) 26 _ _ rfl ⟨gk1, 0, none⟩ (.agg (Bv.cells ⟨R.1.up, ⟨qa, qn, qc⟩, ⟨ra, rn, rc⟩⟩)) (by kernel_rfl) (by kernel_rfl) (run_store_to (cur := Bv.cs ⟨bu, ⟨ba, bn, bc⟩, ⟨la, ln, lc⟩⟩) (vs := Bv.cs ⟨R.1.up, ⟨qa, qn, qc⟩, ⟨ra, rn, rc⟩⟩) (new := Bv.cs ⟨R.1.up, ⟨qa, qn, qc⟩, ⟨ra, rn, rc⟩⟩) (HF.out.box 0 _ _ _ rfl) (by kernel_rfl) Try.size25 (Nat.le_of_ble_eq_true (by kernel_rfl)) (Bv.oneL _) (by kernel_rfl)) (Fr.front (l1 := []) (l2 := [(gk1, 26, Bv.cells ⟨R.1.up, ⟨qa, qn, qc⟩, ⟨ra, rn, rc⟩⟩)]) (HF.out.set 0 rfl _)) (fun hH => ?_)
          try simp only [pA, pB, p1, p2, p3]
          have HBE : Hid (OwE (wk6.setRow gk1 (Bv.cells ⟨R.1.up, ⟨qa, qn, qc⟩, ⟨ra, rn, rc⟩⟩)) w.heap.size ⟨qa, qn, qc⟩ R.1.es) := HBE.out.kept (Kept.setRow _ _ _) (fun k h e => (HBE.out.own.notBox (HF.out.box 0 _ _ _ rfl) (by decide)) ((show k = gk1 from e) ▸ h))
          have HBL : Hid (OwL (wk6.setRow gk1 (Bv.cells ⟨R.1.up, ⟨qa, qn, qc⟩, ⟨ra, rn, rc⟩⟩)) w.heap.size ⟨ra, rn, rc⟩ R.1.ls) := HBL.out.kept (Kept.setRow _ _ _) (fun k h e => (HBL.out.own.notBox (HF.out.box 0 _ _ _ rfl) (by decide)) ((show k = gk1 from e) ▸ h))
          have HF : Hid (Fr No w (wk6.setRow gk1 (Bv.cells ⟨R.1.up, ⟨qa, qn, qc⟩, ⟨ra, rn, rc⟩⟩)) [(gk1, 26, Bv.cells ⟨R.1.up, ⟨qa, qn, qc⟩, ⟨ra, rn, rc⟩⟩)]) := HF.out.set 0 rfl _
          generalize wk6.setRow gk1 (Bv.cells ⟨R.1.up, ⟨qa, qn, qc⟩, ⟨ra, rn, rc⟩⟩) = wk7 at HF HBE HBL hH ⊢
          refine wpAnyH_done (by kernel_rfl) ?_ _
          try simp only [pA, pB, p1, p2, p3]
          clear hH
          go_wp2
          go_roundw
          case rel => exact ⟨i + 1, R.1, ⟨qa, qn, qc⟩, ⟨ra, rn, rc⟩, by go_num, by omega, by omega, HF, HBE, HBL, HFn⟩
          case measure => simp [intOf]; omega
       · skip
         go_upto_region 3 with fail
         refine WL.start ?_
         refine tK (.int .i64 ((i : Nat) : Int)) ?_
         try simp only [pA, pB, p1, p2, p3]
         refine tK (.slice ca cn cc) ?_
         try simp only [pA, pB, p1, p2, p3]
         refine tK (.int .i64 ((cn : Nat) : Int)) ?_
         try simp only [pA, pB, p1, p2, p3]
         refine tW (.bool true) (exec_bin .lss 3 _ _ _ rfl (.int .i64 ((i : Nat) : Int)) (.int .i64 ((cn : Nat) : Int)) (.bool true) (by kernel_rfl) (by kernel_rfl) (by kernel_rfl) (by rw [b_lss, decide_eq_true (by omega)])) ?_
         try simp only [pA, pB, p1, p2, p3]
         refine tK (.bool true) ?_
         try simp only [pA, pB, p1, p2, p3]
         refine tK (.int .i64 ((i : Nat) : Int)) ?_
         try simp only [pA, pB, p1, p2, p3]
         refine tW (.bool false) (exec_bin .lss 3 _ _ _ rfl (.int .i64 ((i : Nat) : Int)) (.int .i64 40) (.bool false) (by kernel_rfl) (by kernel_rfl) (by kernel_rfl) (by rw [b_lss, decide_eq_false (by omega)])) ?_
         try simp only [pA, pB, p1, p2, p3]
         refine tK (.bool false) ?_
         try simp only [pA, pB, p1, p2, p3]
         refine WL.nil ?_
         try simp only [pA, pB, p1, p2, p3]
         go_wp2
         go_meet
         case rel => exact ⟨i, ⟨bu, bes, bls⟩, ⟨ba, bn, bc⟩, ⟨la, ln, lc⟩, rfl, by omega, HF, HBE, HBL, HFi⟩
     · skip
       go_upto_region 3 with fail
       refine WL.start ?_
       refine tK (.int .i64 ((i : Nat) : Int)) ?_
       try simp only [pA, pB, p1, p2, p3]
       refine tK (.slice ca cn cc) ?_
       try simp only [pA, pB, p1, p2, p3]
       refine tK (.int .i64 ((cn : Nat) : Int)) ?_
       try simp only [pA, pB, p1, p2, p3]
       refine tW (.bool false) (exec_bin .lss 3 _ _ _ rfl (.int .i64 ((i : Nat) : Int)) (.int .i64 ((cn : Nat) : Int)) (.bool false) (by kernel_rfl) (by kernel_rfl) (by kernel_rfl) (by rw [b_lss, decide_eq_false (by omega)])) ?_
       try simp only [pA, pB, p1, p2, p3]
       refine tK (.bool false) ?_
       try simp only [pA, pB, p1, p2, p3]
       refine sK ?_
       try simp only [pA, pB, p1, p2, p3]
       refine sK ?_
       try simp only [pA, pB, p1, p2, p3]
       refine tK (.bool false) ?_
       try simp only [pA, pB, p1, p2, p3]
       refine WL.nil ?_
       try simp only [pA, pB, p1, p2, p3]
       go_wp2
       go_meet
       case rel => exact ⟨i, ⟨bu, bes, bls⟩, ⟨ba, bn, bc⟩, ⟨la, ln, lc⟩, rfl, by omega, HF, HBE, HBL, HFi⟩
  case rest =>
   clear HF
   obtain ⟨i, ⟨bu, bes, bls⟩, ⟨ba, bn, bc⟩, ⟨la, ln, lc⟩, rfl, hi4, HF, HBE, HBL, HFi⟩ := hcut
   have HBE : Hid (OwE wc w.heap.size ⟨ba, bn, bc⟩ bes) := HBE
   have HBL : Hid (OwL wc w.heap.size ⟨la, ln, lc⟩ bls) := HBL
   have HF : Hid (Fr No w wc [(gk1, 26, Bv.cells ⟨bu, ⟨ba, bn, bc⟩, ⟨la, ln, lc⟩⟩)]) := HF
   have hbn : bn ≤ 40 := by have h1 : bes.length = bn := HBE.out.len; have h2 : bes.length ≤ i := HFi.out.1.ne; omega
   have hln : ln ≤ 40 := by have h1 : bls.length = ln := HBL.out.len; have h2 : bls.length ≤ i := HFi.out.1.nl; omega
   have hbe : bes.length ≤ 40 := by have h2 : bes.length ≤ i := HFi.out.1.ne; omega
   have hbl : bls.length ≤ 40 := by have h2 : bls.length ≤ i := HFi.out.1.nl; omega
   have hbu : 0 ≤ bu ∧ bu ≤ 40 := by have h1 : 0 ≤ bu := HFi.out.1.up; have h2 : bu ≤ i := HFi.out.2; omega
   have HFi : Hid (Fine 40 ⟨bu, bes, bls⟩) := HFi.out.1.mono hi4
   have HBEs : Hid (OwE wc w.heap.size ⟨ba, bn, bc⟩ bes) := HBE
   clear HBE
   have HBLs : Hid (OwL wc w.heap.size ⟨la, ln, lc⟩ bls) := HBL
   clear HBL
   have HK0 : Hid (Kept No wc wc) := Kept.refl _ _
   obtain ⟨s0, hs0⟩ : ∃ n, wc.heap.size = n := ⟨_, rfl⟩
   have HS0 : Hid (wc.heap.size = s0) := hs0
   clear hs0
   go_upto_region 7 with fail
   refine WL.start ?_
   refine tW (.agg (Bv.cells ⟨bu, ⟨ba, bn, bc⟩, ⟨la, ln, lc⟩⟩)) (exec_load 26 _ rfl ⟨gk1, 0, none⟩ (by kernel_rfl) (.agg (Bv.cells ⟨bu, ⟨ba, bn, bc⟩, ⟨la, ln, lc⟩⟩)) (run_load_part (cs := Bv.cs ⟨bu, ⟨ba, bn, bc⟩, ⟨la, ln, lc⟩⟩) (sub := Bv.cs ⟨bu, ⟨ba, bn, bc⟩, ⟨la, ln, lc⟩⟩) (HF.out.box 0 _ _ _ rfl) (Part.all _) Try.und25 rfl Try.size25)) ?_
   try simp only [pA, pB, p1, p2, p3]
   refine wp_callW 7 #[.agg (Bv.cells ⟨bu, ⟨ba, bn, bc⟩, ⟨la, ln, lc⟩⟩)] (by kernel_rfl) _ (bucket_any bu ba bn bc la ln lc bes bls _ (HBEs.out.no HK0.out).rd (HBLs.out.no HK0.out).rd (by omega) (by omega)) (by kernel_rfl) ?_
   rintro e wk8 ⟨rfl, hk⟩
   have HK0 : Hid (Kept No wc (wk8)) := HK0.out.no hk
   have HF : Hid (Fr No w (wk8) [(gk1, 26, Bv.cells ⟨bu, ⟨ba, bn, bc⟩, ⟨la, ln, lc⟩⟩)]) := HF.out.no hk
   clear hk
   refine ⟨.bool (bktB bu bes bls), rfl, ?_⟩
   try simp only [pA, pB, p1, p2, p3]
   cases q2 : ((bktB bu bes bls))
   ·skip
    try simp only [q2]
    refine tK (.bool true) ?_
    try simp only [pA, pB, p1, p2, p3]
    refine WL.nil ?_
    try simp only [pA, pB, p1, p2, p3]
    go_upto_region 8 with fail
    refine WL.start ?_
    refine wp_callW 8 #[] (by kernel_rfl) _ (head_any _) (by kernel_rfl) ?_
    rintro e wk9 ⟨rfl, hk⟩
    have HK0 : Hid (Kept No wc (wk9)) := HK0.out.no hk
    have HF : Hid (Fr No w (wk9) [(gk1, 26, Bv.cells ⟨bu, ⟨ba, bn, bc⟩, ⟨la, ln, lc⟩⟩)]) := HF.out.no hk
    clear hk
    refine ⟨.bool true, rfl, ?_⟩
    try simp only [pA, pB, p1, p2, p3]
    refine tK (.bool true) ?_
    try simp only [pA, pB, p1, p2, p3]
    refine WL.nil ?_
    try simp only [pA, pB, p1, p2, p3]
    go_wp2
    rw [HC.out]
    exact ⟨rfl, HF.out.kept⟩
   ·skip
    try simp only [q2]
    refine tK (.bool false) ?_
    try simp only [pA, pB, p1, p2, p3]
    refine WL.nil ?_
    try simp only [pA, pB, p1, p2, p3]
    have HBE : Hid (OwE wk8 w.heap.size ⟨ba, bn, bc⟩ bes) := HBEs.out.no HK0.out
    have HBL : Hid (OwL wk8 w.heap.size ⟨la, ln, lc⟩ bls) := HBLs.out.no HK0.out
    clear HBEs HBLs HK0 HS0
    have HBEs : Hid (OwE wk8 w.heap.size ⟨ba, bn, bc⟩ bes) := HBE
    clear HBE
    have HBLs : Hid (OwL wk8 w.heap.size ⟨la, ln, lc⟩ bls) := HBL
    clear HBL
    have HK0 : Hid (Kept No wk8 wk8) := Kept.refl _ _
    obtain ⟨s0, hs0⟩ : ∃ n, wk8.heap.size = n := ⟨_, rfl⟩
    have HS0 : Hid (wk8.heap.size = s0) := hs0
    clear hs0
    go_upto_region 9 with fail
    refine WL.start ?_
    refine tW (.agg (Bv.cells ⟨bu, ⟨ba, bn, bc⟩, ⟨la, ln, lc⟩⟩)) (exec_load 26 _ rfl ⟨gk1, 0, none⟩ (by kernel_rfl) (.agg (Bv.cells ⟨bu, ⟨ba, bn, bc⟩, ⟨la, ln, lc⟩⟩)) (run_load_part (cs := Bv.cs ⟨bu, ⟨ba, bn, bc⟩, ⟨la, ln, lc⟩⟩) (sub := Bv.cs ⟨bu, ⟨ba, bn, bc⟩, ⟨la, ln, lc⟩⟩) (HF.out.box 0 _ _ _ rfl) (Part.all _) Try.und25 rfl Try.size25)) ?_
    try simp only [pA, pB, p1, p2, p3]
    refine wp_callW 9 #[.agg (Bv.cells ⟨bu, ⟨ba, bn, bc⟩, ⟨la, ln, lc⟩⟩)] (by kernel_rfl) _ (twin_any bu ba bn bc la ln lc bes bls _ (by omega) (by omega) (HBEs.out.no HK0.out).rd (HBLs.out.no HK0.out).rd) (by kernel_rfl) ?_
    rintro e9 wk10 ⟨⟨va, vn, vc⟩, ⟨ua, un, uc⟩, rfl, hse, hsl, hk⟩
    have hlow : w.heap.size ≤ wk8.heap.size := HF.out.kept.size
    have hvn : bes.length = vn := hse.len
    have hun : bls.length = un := hsl.len
    have HK0 : Hid (Kept No wk8 (wk10)) := HK0.out.no hk
    have HF : Hid (Fr No w (wk10) [(gk1, 26, Bv.cells ⟨bu, ⟨ba, bn, bc⟩, ⟨la, ln, lc⟩⟩)]) := HF.out.no hk
    have HWE6 : Hid (OwE wk10 w.heap.size ⟨va, vn, vc⟩ bes) := hse.lower hlow
    have HWL6 : Hid (OwL wk10 w.heap.size ⟨ua, un, uc⟩ bls) := hsl.lower hlow
    clear hse hsl hk hlow
    have HK1 : Hid (Kept No wk10 wk10) := Kept.refl _ _
    obtain ⟨s1, hs1⟩ : ∃ n, wk10.heap.size = n := ⟨_, rfl⟩
    have HS1 : Hid (wk10.heap.size = s1) := hs1
    clear hs1
    refine ⟨.agg (Bv.cells ⟨bu, ⟨va, vn, vc⟩, ⟨ua, un, uc⟩⟩), rfl, ?_⟩
    try simp only [pA, pB, p1, p2, p3]
    refine wp_runW (.pointer (some ⟨wk10.heap.size, 0, none⟩)) (wk10.alloc (.cells (Bv.cells bvZ) 26)) (exec_alloc 26 rfl (Bv.cells bvZ) zero25) (by kernel_rfl) ?_
    try simp only [pA, pB, p1, p2, p3]
    have hx0_gk11 : s0 ≤ wk10.heap.size := by rw [← HS0.out]; exact HK0.out.size
    have hx1_gk11 : s1 ≤ wk10.heap.size := by rw [← HS1.out]; exact HK1.out.size
    have HK0 : Hid (Kept No wk8 (wk10.alloc (.cells (Bv.cells bvZ) 26))) := HK0.out.no ((Kept.refl No _).alloc _)
    have HK1 : Hid (Kept No wk10 (wk10.alloc (.cells (Bv.cells bvZ) 26))) := HK1.out.no ((Kept.refl No _).alloc _)
    have HF : Hid (Fr No w (wk10.alloc (.cells (Bv.cells bvZ) 26)) [(gk1, 26, Bv.cells ⟨bu, ⟨ba, bn, bc⟩, ⟨la, ln, lc⟩⟩), (wk10.heap.size, 26, Bv.cells bvZ)]) := HF.out.alloc _ _
    generalize wk10.alloc (.cells (Bv.cells bvZ) 26) = wk12 at HF HK0 HK1 ⊢
    generalize wk10.heap.size = gk11 at HF hx0_gk11 hx1_gk11 ⊢
    refine wp_storeW 26 _ _ rfl ⟨gk11, 0, none⟩ (.agg (Bv.cells ⟨bu, ⟨va, vn, vc⟩, ⟨ua, un, uc⟩⟩)) (by kernel_rfl) (by kernel_rfl) (wk12.setRow gk11 (Bv.cells ⟨bu, ⟨va, vn, vc⟩, ⟨ua, un, uc⟩⟩)) (run_store_to (cur := Bv.cs bvZ) (vs := Bv.cs ⟨bu, ⟨va, vn, vc⟩, ⟨ua, un, uc⟩⟩) (new := Bv.cs ⟨bu, ⟨va, vn, vc⟩, ⟨ua, un, uc⟩⟩) (HF.out.box 1 _ _ _ rfl) (by kernel_rfl) Try.size25 (Nat.le_of_ble_eq_true (by kernel_rfl)) (Bv.oneL _) (by kernel_rfl)) (by kernel_rfl) ?_
    try simp only [pA, pB, p1, p2, p3]
    have HK0 : Hid (Kept No wk8 (wk12.setRow gk11 (Bv.cells ⟨bu, ⟨va, vn, vc⟩, ⟨ua, un, uc⟩⟩))) := HK0.out.newRow (by rw [HS0.out]; exact hx0_gk11) _
    have HK1 : Hid (Kept No wk10 (wk12.setRow gk11 (Bv.cells ⟨bu, ⟨va, vn, vc⟩, ⟨ua, un, uc⟩⟩))) := HK1.out.newRow (by rw [HS1.out]; exact hx1_gk11) _
    have HF : Hid (Fr No w (wk12.setRow gk11 (Bv.cells ⟨bu, ⟨va, vn, vc⟩, ⟨ua, un, uc⟩⟩)) [(gk1, 26, Bv.cells ⟨bu, ⟨ba, bn, bc⟩, ⟨la, ln, lc⟩⟩), (gk11, 26, Bv.cells ⟨bu, ⟨va, vn, vc⟩, ⟨ua, un, uc⟩⟩)]) := HF.out.set 1 rfl _
    generalize wk12.setRow gk11 (Bv.cells ⟨bu, ⟨va, vn, vc⟩, ⟨ua, un, uc⟩⟩) = wk13 at HF HK0 HK1 ⊢
    refine WL.nil ?_
    try simp only [pA, pB, p1, p2, p3]
    have HBE : Hid (OwE wk13 w.heap.size ⟨ba, bn, bc⟩ bes) := HBEs.out.no HK0.out
    have HBL : Hid (OwL wk13 w.heap.size ⟨la, ln, lc⟩ bls) := HBLs.out.no HK0.out
    have HWE : Hid (OwE wk13 w.heap.size ⟨va, vn, vc⟩ bes) := HWE6.out.no HK1.out
    have HWL : Hid (OwL wk13 w.heap.size ⟨ua, un, uc⟩ bls) := HWL6.out.no HK1.out
    clear HBEs HBLs HWE6 HWL6 HK1 HS1 HK0 HS0 hx0_gk11 hx1_gk11
    have HBEs : Hid (OwE wk13 w.heap.size ⟨ba, bn, bc⟩ bes) := HBE
    clear HBE
    have HBLs : Hid (OwL wk13 w.heap.size ⟨la, ln, lc⟩ bls) := HBL
    clear HBL
    have HWEs : Hid (OwE wk13 w.heap.size ⟨va, vn, vc⟩ bes) := HWE
    clear HWE
    have HWLs : Hid (OwL wk13 w.heap.size ⟨ua, un, uc⟩ bls) := HWL
    clear HWL
    have HK0 : Hid (Kept No wk13 wk13) := Kept.refl _ _
    obtain ⟨s0, hs0⟩ : ∃ n, wk13.heap.size = n := ⟨_, rfl⟩
    have HS0 : Hid (wk13.heap.size = s0) := hs0
    clear hs0
    go_upto_region 10 with fail
    refine WL.start ?_
    refine tW (.agg (Cm.cells ⟨4, 3, 9, ⟨#[]⟩, 0, 0, 0, 0, 0⟩)) (exec_build 31 _ rfl (Cm.cells ⟨4, 3, 9, ⟨#[]⟩, 0, 0, 0, 0, 0⟩) (by kernel_rfl)) ?_
    try simp only [pA, pB, p1, p2, p3]
    refine wp_runW (.pointer (some ⟨wk13.heap.size, 0, none⟩)) (wk13.alloc (.cells (Cm.cells cZ) 31)) (exec_alloc 31 rfl (Cm.cells cZ) zero29) (by kernel_rfl) ?_
    try simp only [pA, pB, p1, p2, p3]
    have hx0_gk14 : s0 ≤ wk13.heap.size := by rw [← HS0.out]; exact HK0.out.size
    have HK0 : Hid (Kept No wk13 (wk13.alloc (.cells (Cm.cells cZ) 31))) := HK0.out.no ((Kept.refl No _).alloc _)
    have HF : Hid (Fr No w (wk13.alloc (.cells (Cm.cells cZ) 31)) [(gk1, 26, Bv.cells ⟨bu, ⟨ba, bn, bc⟩, ⟨la, ln, lc⟩⟩), (gk11, 26, Bv.cells ⟨bu, ⟨va, vn, vc⟩, ⟨ua, un, uc⟩⟩), (wk13.heap.size, 31, Cm.cells cZ)]) := HF.out.alloc _ _
    generalize wk13.alloc (.cells (Cm.cells cZ) 31) = wk15 at HF HK0 ⊢
    generalize wk13.heap.size = gk14 at HF hx0_gk14 ⊢
    refine wp_storeW 31 _ _ rfl ⟨gk14, 0, none⟩ (.agg (Cm.cells ⟨4, 3, 9, ⟨#[]⟩, 0, 0, 0, 0, 0⟩)) (by kernel_rfl) (by kernel_rfl) (wk15.setRow gk14 (Cm.cells ⟨4, 3, 9, ⟨#[]⟩, 0, 0, 0, 0, 0⟩)) (run_store_to (cur := Cm.cs cZ) (vs := Cm.cs ⟨4, 3, 9, ⟨#[]⟩, 0, 0, 0, 0, 0⟩) (new := Cm.cs ⟨4, 3, 9, ⟨#[]⟩, 0, 0, 0, 0, 0⟩) (HF.out.box 2 _ _ _ rfl) (by kernel_rfl) Try.size29 (Nat.le_of_ble_eq_true (by kernel_rfl)) (Cm.oneL _) (by kernel_rfl)) (by kernel_rfl) ?_
    try simp only [pA, pB, p1, p2, p3]
    have HK0 : Hid (Kept No wk13 (wk15.setRow gk14 (Cm.cells ⟨4, 3, 9, ⟨#[]⟩, 0, 0, 0, 0, 0⟩))) := HK0.out.newRow (by rw [HS0.out]; exact hx0_gk14) _
    have HF : Hid (Fr No w (wk15.setRow gk14 (Cm.cells ⟨4, 3, 9, ⟨#[]⟩, 0, 0, 0, 0, 0⟩)) [(gk1, 26, Bv.cells ⟨bu, ⟨ba, bn, bc⟩, ⟨la, ln, lc⟩⟩), (gk11, 26, Bv.cells ⟨bu, ⟨va, vn, vc⟩, ⟨ua, un, uc⟩⟩), (gk14, 31, Cm.cells ⟨4, 3, 9, ⟨#[]⟩, 0, 0, 0, 0, 0⟩)]) := HF.out.set 2 rfl _
    generalize wk15.setRow gk14 (Cm.cells ⟨4, 3, 9, ⟨#[]⟩, 0, 0, 0, 0, 0⟩) = wk16 at HF HK0 ⊢
    refine WL.nil ?_
    try simp only [pA, pB, p1, p2, p3]
    have HBE : Hid (OwE wk16 w.heap.size ⟨ba, bn, bc⟩ bes) := HBEs.out.no HK0.out
    have HBL : Hid (OwL wk16 w.heap.size ⟨la, ln, lc⟩ bls) := HBLs.out.no HK0.out
    have HWE : Hid (OwE wk16 w.heap.size ⟨va, vn, vc⟩ bes) := HWEs.out.no HK0.out
    have HWL : Hid (OwL wk16 w.heap.size ⟨ua, un, uc⟩ bls) := HWLs.out.no HK0.out
    clear HBEs HBLs HWEs HWLs HK0 HS0 hx0_gk14
    have HBEs : Hid (OwE wk16 w.heap.size ⟨ba, bn, bc⟩ bes) := HBE
    clear HBE
    have HBLs : Hid (OwL wk16 w.heap.size ⟨la, ln, lc⟩ bls) := HBL
    clear HBL
    have HWEs : Hid (OwE wk16 w.heap.size ⟨va, vn, vc⟩ bes) := HWE
    clear HWE
    have HWLs : Hid (OwL wk16 w.heap.size ⟨ua, un, uc⟩ bls) := HWL
    clear HWL
    have HK0 : Hid (Kept No wk16 wk16) := Kept.refl _ _
    obtain ⟨s0, hs0⟩ : ∃ n, wk16.heap.size = n := ⟨_, rfl⟩
    have HS0 : Hid (wk16.heap.size = s0) := hs0
    clear hs0
    go_upto_region 11 with fail
    refine WL.start ?_
    refine tW (.agg (Cm.cells ⟨1, 3, 9, ⟨#[111, 119, 110]⟩, 0, 0, 0, 0, 0⟩)) (exec_build 31 _ rfl (Cm.cells ⟨1, 3, 9, ⟨#[111, 119, 110]⟩, 0, 0, 0, 0, 0⟩) (by kernel_rfl)) ?_
    try simp only [pA, pB, p1, p2, p3]
    refine wp_runW (.pointer (some ⟨wk16.heap.size, 0, none⟩)) (wk16.alloc (.cells (Cm.cells cZ) 31)) (exec_alloc 31 rfl (Cm.cells cZ) zero29) (by kernel_rfl) ?_
    try simp only [pA, pB, p1, p2, p3]
    have hx0_gk17 : s0 ≤ wk16.heap.size := by rw [← HS0.out]; exact HK0.out.size
    have HK0 : Hid (Kept No wk16 (wk16.alloc (.cells (Cm.cells cZ) 31))) := HK0.out.no ((Kept.refl No _).alloc _)
    have HF : Hid (Fr No w (wk16.alloc (.cells (Cm.cells cZ) 31)) [(gk1, 26, Bv.cells ⟨bu, ⟨ba, bn, bc⟩, ⟨la, ln, lc⟩⟩), (gk11, 26, Bv.cells ⟨bu, ⟨va, vn, vc⟩, ⟨ua, un, uc⟩⟩), (gk14, 31, Cm.cells ⟨4, 3, 9, ⟨#[]⟩, 0, 0, 0, 0, 0⟩), (wk16.heap.size, 31, Cm.cells cZ)]) := HF.out.alloc _ _
    generalize wk16.alloc (.cells (Cm.cells cZ) 31) = wk18 at HF HK0 ⊢
    generalize wk16.heap.size = gk17 at HF hx0_gk17 ⊢
    refine wp_storeW 31 _ _ rfl ⟨gk17, 0, none⟩ (.agg (Cm.cells ⟨1, 3, 9, ⟨#[111, 119, 110]⟩, 0, 0, 0, 0, 0⟩)) (by kernel_rfl) (by kernel_rfl) (wk18.setRow gk17 (Cm.cells ⟨1, 3, 9, ⟨#[111, 119, 110]⟩, 0, 0, 0, 0, 0⟩)) (run_store_to (cur := Cm.cs cZ) (vs := Cm.cs ⟨1, 3, 9, ⟨#[111, 119, 110]⟩, 0, 0, 0, 0, 0⟩) (new := Cm.cs ⟨1, 3, 9, ⟨#[111, 119, 110]⟩, 0, 0, 0, 0, 0⟩) (HF.out.box 3 _ _ _ rfl) (by kernel_rfl) Try.size29 (Nat.le_of_ble_eq_true (by kernel_rfl)) (Cm.oneL _) (by kernel_rfl)) (by kernel_rfl) ?_
    try simp only [pA, pB, p1, p2, p3]
    have HK0 : Hid (Kept No wk16 (wk18.setRow gk17 (Cm.cells ⟨1, 3, 9, ⟨#[111, 119, 110]⟩, 0, 0, 0, 0, 0⟩))) := HK0.out.newRow (by rw [HS0.out]; exact hx0_gk17) _
    have HF : Hid (Fr No w (wk18.setRow gk17 (Cm.cells ⟨1, 3, 9, ⟨#[111, 119, 110]⟩, 0, 0, 0, 0, 0⟩)) [(gk1, 26, Bv.cells ⟨bu, ⟨ba, bn, bc⟩, ⟨la, ln, lc⟩⟩), (gk11, 26, Bv.cells ⟨bu, ⟨va, vn, vc⟩, ⟨ua, un, uc⟩⟩), (gk14, 31, Cm.cells ⟨4, 3, 9, ⟨#[]⟩, 0, 0, 0, 0, 0⟩), (gk17, 31, Cm.cells ⟨1, 3, 9, ⟨#[111, 119, 110]⟩, 0, 0, 0, 0, 0⟩)]) := HF.out.set 3 rfl _
    generalize wk18.setRow gk17 (Cm.cells ⟨1, 3, 9, ⟨#[111, 119, 110]⟩, 0, 0, 0, 0, 0⟩) = wk19 at HF HK0 ⊢
    refine WL.nil ?_
    try simp only [pA, pB, p1, p2, p3]
    have HBE : Hid (OwE wk19 w.heap.size ⟨ba, bn, bc⟩ bes) := HBEs.out.no HK0.out
    have HBL : Hid (OwL wk19 w.heap.size ⟨la, ln, lc⟩ bls) := HBLs.out.no HK0.out
    have HWE : Hid (OwE wk19 w.heap.size ⟨va, vn, vc⟩ bes) := HWEs.out.no HK0.out
    have HWL : Hid (OwL wk19 w.heap.size ⟨ua, un, uc⟩ bls) := HWLs.out.no HK0.out
    clear HBEs HBLs HWEs HWLs HK0 HS0 hx0_gk17
    obtain ⟨lo, hlo⟩ : ∃ x, wk19.heap.size = x := ⟨_, rfl⟩
    have hl_HBE : ∀ k, At ba k → k < lo := fun k e => by rw [← hlo]; exact HBE.out.own.lt e
    have hl_HBL : ∀ k, At la k → k < lo := fun k e => by rw [← hlo]; exact HBL.out.own.lt e
    have hl_HWE : ∀ k, At va k → k < lo := fun k e => by rw [← hlo]; exact HWE.out.own.lt e
    have hl_HWL : ∀ k, At ua k → k < lo := fun k e => by rw [← hlo]; exact HWL.out.own.lt e
    have hwlo : w.heap.size ≤ lo := by rw [← hlo]; exact HF.out.kept.size
    have HSz : Hid (SzL lo wk19) := Nat.le_of_eq hlo.symm
    clear hlo
    go_wp2
    go_loopw [10, 11, 12, 13] (fun v10 v11 v12 v13 wr => ∃ (j : Nat) (ka : Option Addr) (kc : Nat) (K : List Sl) (pa : Option Addr) (pc : Nat) (L : List Sl) (aa : Option Addr) (ac : Nat) (A : List Sl), v10 = .slice ka (8 * j) kc ∧ v11 = .slice pa (4 * j) pc ∧ v12 = .slice aa j ac ∧ v13 = .int .i64 ((j : Nat) : Int) ∧ j ≤ 3 ∧ K.length = 8 * j ∧ L.length = 4 * j ∧ A.length = j ∧ Hid (Gx.Rw Gx.DE wr w.heap.size ka kc K) ∧ Hid (Gx.ErX Gx.DE wr lo K) ∧ Hid (Gx.Rw Gx.DL wr w.heap.size pa pc L) ∧ Hid (Gx.ErX Gx.DL wr lo L) ∧ Hid (Gx.Rw Gx.DA wr w.heap.size aa ac A) ∧ Hid (Gx.ErX Gx.DA wr lo A) ∧ Hid (SzL lo wr) ∧ Hid (OwE wr w.heap.size ⟨ba, bn, bc⟩ bes) ∧ Hid (OwL wr w.heap.size ⟨la, ln, lc⟩ bls) ∧ Hid (OwE wr w.heap.size ⟨va, vn, vc⟩ bes) ∧ Hid (OwL wr w.heap.size ⟨ua, un, uc⟩ bls) ∧ Hid (Fr No w wr [(gk1, 26, Bv.cells ⟨bu, ⟨ba, bn, bc⟩, ⟨la, ln, lc⟩⟩), (gk11, 26, Bv.cells ⟨bu, ⟨va, vn, vc⟩, ⟨ua, un, uc⟩⟩), (gk14, 31, Cm.cells ⟨4, 3, 9, ⟨#[]⟩, 0, 0, 0, 0, 0⟩), (gk17, 31, Cm.cells ⟨1, 3, 9, ⟨#[111, 119, 110]⟩, 0, 0, 0, 0, 0⟩)])) (fun _ _ _ i _ => 3 - (intOf i).toNat)
    case atStart => exact ⟨0, none, 0, [], none, 0, [], none, 0, [], rfl, rfl, rfl, by go_num, by omega, rfl, rfl, rfl, Gx.Rw.nil _ _, Gx.ErX.nil _ _, Gx.Rw.nil _ _, Gx.ErX.nil _ _, Gx.Rw.nil _ _, Gx.ErX.nil _ _, HSz, HBE, HBL, HWE, HWL, HF⟩
    case round =>
      clear HF HSz HBE HBL HWE HWL
      obtain ⟨j, ka, kc, K, pa, pc, L, aa, ac, A, rfl, rfl, rfl, rfl, hj, hKl, hLl, hAl, HKr, HKe, HLr, HLe, HAr, HAe, HSz, HBE, HBL, HWE, HWL, HF⟩ := hrel
      by_cases hj3 : j < 3
      · skip
        go_upto_region 16 with fail
        refine WL.start ?_
        refine tK (.int .i64 ((j : Nat) : Int)) ?_
        try simp only [pA, pB, p1, p2, p3]
        refine tW (.bool true) (exec_bin .lss 3 _ _ _ rfl (.int .i64 ((j : Nat) : Int)) (.int .i64 3) (.bool true) (by kernel_rfl) (by kernel_rfl) (by kernel_rfl) (by rw [b_lss, decide_eq_true (by omega)])) ?_
        try simp only [pA, pB, p1, p2, p3]
        refine WL.nil ?_
        try simp only [pA, pB, p1, p2, p3]
        have HKrs : Hid (Gx.Rw Gx.DE wr w.heap.size ka kc K) := HKr
        clear HKr
        have HKes : Hid (Gx.ErX Gx.DE wr lo K) := HKe
        clear HKe
        have HLrs : Hid (Gx.Rw Gx.DL wr w.heap.size pa pc L) := HLr
        clear HLr
        have HLes : Hid (Gx.ErX Gx.DL wr lo L) := HLe
        clear HLe
        have HArs : Hid (Gx.Rw Gx.DA wr w.heap.size aa ac A) := HAr
        clear HAr
        have HAes : Hid (Gx.ErX Gx.DA wr lo A) := HAe
        clear HAe
        have HSzs : Hid (SzL lo wr) := HSz
        clear HSz
        have HBEs : Hid (OwE wr w.heap.size ⟨ba, bn, bc⟩ bes) := HBE
        clear HBE
        have HBLs : Hid (OwL wr w.heap.size ⟨la, ln, lc⟩ bls) := HBL
        clear HBL
        have HWEs : Hid (OwE wr w.heap.size ⟨va, vn, vc⟩ bes) := HWE
        clear HWE
        have HWLs : Hid (OwL wr w.heap.size ⟨ua, un, uc⟩ bls) := HWL
        clear HWL
        have HK0 : Hid (Kept No wr wr) := Kept.refl _ _
        obtain ⟨s0, hs0⟩ : ∃ n, wr.heap.size = n := ⟨_, rfl⟩
        have HS0 : Hid (wr.heap.size = s0) := hs0
        clear hs0
        go_upto_region 18 with fail
        refine WL.start ?_
        refine tW (.agg (Bv.cells ⟨bu, ⟨ba, bn, bc⟩, ⟨la, ln, lc⟩⟩)) (exec_load 26 _ rfl ⟨gk1, 0, none⟩ (by kernel_rfl) (.agg (Bv.cells ⟨bu, ⟨ba, bn, bc⟩, ⟨la, ln, lc⟩⟩)) (run_load_part (cs := Bv.cs ⟨bu, ⟨ba, bn, bc⟩, ⟨la, ln, lc⟩⟩) (sub := Bv.cs ⟨bu, ⟨ba, bn, bc⟩, ⟨la, ln, lc⟩⟩) (HF.out.box 0 _ _ _ rfl) (Part.all _) Try.und25 rfl Try.size25)) ?_
        try simp only [pA, pB, p1, p2, p3]
        refine tW (.agg (Cm.cells ⟨4, 3, 9, ⟨#[]⟩, 0, 0, 0, 0, 0⟩)) (exec_load 31 _ rfl ⟨gk14, 0, none⟩ (by kernel_rfl) (.agg (Cm.cells ⟨4, 3, 9, ⟨#[]⟩, 0, 0, 0, 0, 0⟩)) (run_load_part (cs := Cm.cs ⟨4, 3, 9, ⟨#[]⟩, 0, 0, 0, 0, 0⟩) (sub := Cm.cs ⟨4, 3, 9, ⟨#[]⟩, 0, 0, 0, 0, 0⟩) (HF.out.box 2 _ _ _ rfl) (Part.all _) Try.und29 rfl Try.size29)) ?_
        try simp only [pA, pB, p1, p2, p3]
        refine tK (.int .i64 room) ?_
        try simp only [pA, pB, p1, p2, p3]
        refine wp_callW 6 #[.agg (Bv.cells ⟨bu, ⟨ba, bn, bc⟩, ⟨la, ln, lc⟩⟩), .agg (Cm.cells ⟨4, 3, 9, ⟨#[]⟩, 0, 0, 0, 0, 0⟩), .int .i64 room] (by kernel_rfl) _ (apply_list bu ba bn bc la ln lc bes bls room _ hbu.1 (by omega) (HBEs.out.no HK0.out).rd (HBLs.out.no HK0.out).rd (by omega) (by omega)) (by kernel_rfl) ?_
        have hb_HKe_t1 : ∀ k, Gx.EB K k → k < wr.heap.size := fun k e => ((HKes.out.no HK0.out).at e).2.1
        have hb_HLe_t1 : ∀ k, Gx.EB L k → k < wr.heap.size := fun k e => ((HLes.out.no HK0.out).at e).2.1
        have hb_HAe_t1 : ∀ k, Gx.EB A k → k < wr.heap.size := fun k e => ((HAes.out.no HK0.out).at e).2.1
        have hlo_t1 : lo ≤ wr.heap.size := (HSzs.out.no HK0.out)
        have hw_t1 : w.heap.size ≤ wr.heap.size := HF.out.kept.size
        rintro e9 wk20 ⟨⟨xa11, xn11, xc11⟩, ⟨xa12, xn12, xc12⟩, ⟨xa13, xn13, xc13⟩, rfl, hse, hsl, hsx, hap1, hk⟩
        have HK0 : Hid (Kept No wr (wk20)) := HK0.out.no hk
        have HF : Hid (Fr No w (wk20) [(gk1, 26, Bv.cells ⟨bu, ⟨ba, bn, bc⟩, ⟨la, ln, lc⟩⟩), (gk11, 26, Bv.cells ⟨bu, ⟨va, vn, vc⟩, ⟨ua, un, uc⟩⟩), (gk14, 31, Cm.cells ⟨4, 3, 9, ⟨#[]⟩, 0, 0, 0, 0, 0⟩), (gk17, 31, Cm.cells ⟨1, 3, 9, ⟨#[111, 119, 110]⟩, 0, 0, 0, 0, 0⟩)]) := HF.out.no hk
        have HX116 : Hid (OwE wk20 wr.heap.size ⟨xa11, xn11, xc11⟩ bes) := hse
        have HX126 : Hid (OwL wk20 wr.heap.size ⟨xa12, xn12, xc12⟩ bls) := hsl
        have HX136 : Hid (OwE wk20 wr.heap.size ⟨xa13, xn13, xc13⟩ bes) := hsx
        have hap1 : ∀ k, At xa13 k → ¬ At xa11 k := hap1
        clear hse hsl hsx hk
        generalize wr.heap.size = t1 at hb_HKe_t1 hb_HLe_t1 hb_HAe_t1 hlo_t1 hw_t1 HX116 HX126 HX136
        have HK1 : Hid (Kept No wk20 wk20) := Kept.refl _ _
        obtain ⟨s1, hs1⟩ : ∃ n, wk20.heap.size = n := ⟨_, rfl⟩
        have HS1 : Hid (wk20.heap.size = s1) := hs1
        clear hs1
        refine ⟨.tuple #[.agg (Bv.cells ⟨bu + 1, ⟨xa11, xn11, xc11⟩, ⟨xa12, xn12, xc12⟩⟩), .agg (Av.cells ⟨0, enZ, ⟨xa13, xn13, xc13⟩⟩), .int .i64 0], rfl, ?_⟩
        try simp only [pA, pB, p1, p2, p3]
        refine tK (.tuple #[.agg (Bv.cells ⟨bu + 1, ⟨xa11, xn11, xc11⟩, ⟨xa12, xn12, xc12⟩⟩), .agg (Av.cells ⟨0, enZ, ⟨xa13, xn13, xc13⟩⟩), .int .i64 0]) ?_
        try simp only [pA, pB, p1, p2, p3]
        refine tK (.agg (Bv.cells ⟨bu + 1, ⟨xa11, xn11, xc11⟩, ⟨xa12, xn12, xc12⟩⟩)) ?_
        try simp only [pA, pB, p1, p2, p3]
        refine tK (.agg (Av.cells ⟨0, enZ, ⟨xa13, xn13, xc13⟩⟩)) ?_
        try simp only [pA, pB, p1, p2, p3]
        refine tK (.int .i64 0) ?_
        try simp only [pA, pB, p1, p2, p3]
        refine wp_runW (.pointer (some ⟨wk20.heap.size, 0, none⟩)) (wk20.alloc (.cells (Bv.cells bvZ) 26)) (exec_alloc 26 rfl (Bv.cells bvZ) zero25) (by kernel_rfl) ?_
        try simp only [pA, pB, p1, p2, p3]
        have hx0_gk21 : s0 ≤ wk20.heap.size := by rw [← HS0.out]; exact HK0.out.size
        have hx1_gk21 : s1 ≤ wk20.heap.size := by rw [← HS1.out]; exact HK1.out.size
        have HK0 : Hid (Kept No wr (wk20.alloc (.cells (Bv.cells bvZ) 26))) := HK0.out.no ((Kept.refl No _).alloc _)
        have HK1 : Hid (Kept No wk20 (wk20.alloc (.cells (Bv.cells bvZ) 26))) := HK1.out.no ((Kept.refl No _).alloc _)
        have HF : Hid (Fr No w (wk20.alloc (.cells (Bv.cells bvZ) 26)) [(gk1, 26, Bv.cells ⟨bu, ⟨ba, bn, bc⟩, ⟨la, ln, lc⟩⟩), (gk11, 26, Bv.cells ⟨bu, ⟨va, vn, vc⟩, ⟨ua, un, uc⟩⟩), (gk14, 31, Cm.cells ⟨4, 3, 9, ⟨#[]⟩, 0, 0, 0, 0, 0⟩), (gk17, 31, Cm.cells ⟨1, 3, 9, ⟨#[111, 119, 110]⟩, 0, 0, 0, 0, 0⟩), (wk20.heap.size, 26, Bv.cells bvZ)]) := HF.out.alloc _ _
        generalize wk20.alloc (.cells (Bv.cells bvZ) 26) = wk22 at HF HK0 HK1 ⊢
        generalize wk20.heap.size = gk21 at HF hx0_gk21 hx1_gk21 ⊢
        refine wp_runW (.pointer (some ⟨wk22.heap.size, 0, none⟩)) (wk22.alloc (.cells (Av.cells avZ) 36)) (exec_alloc 36 rfl (Av.cells avZ) zero56) (by kernel_rfl) ?_
        try simp only [pA, pB, p1, p2, p3]
        have hx0_gk23 : s0 ≤ wk22.heap.size := by rw [← HS0.out]; exact HK0.out.size
        have hx1_gk23 : s1 ≤ wk22.heap.size := by rw [← HS1.out]; exact HK1.out.size
        have HK0 : Hid (Kept No wr (wk22.alloc (.cells (Av.cells avZ) 36))) := HK0.out.no ((Kept.refl No _).alloc _)
        have HK1 : Hid (Kept No wk20 (wk22.alloc (.cells (Av.cells avZ) 36))) := HK1.out.no ((Kept.refl No _).alloc _)
        have HF : Hid (Fr No w (wk22.alloc (.cells (Av.cells avZ) 36)) [(gk1, 26, Bv.cells ⟨bu, ⟨ba, bn, bc⟩, ⟨la, ln, lc⟩⟩), (gk11, 26, Bv.cells ⟨bu, ⟨va, vn, vc⟩, ⟨ua, un, uc⟩⟩), (gk14, 31, Cm.cells ⟨4, 3, 9, ⟨#[]⟩, 0, 0, 0, 0, 0⟩), (gk17, 31, Cm.cells ⟨1, 3, 9, ⟨#[111, 119, 110]⟩, 0, 0, 0, 0, 0⟩), (gk21, 26, Bv.cells bvZ), (wk22.heap.size, 36, Av.cells avZ)]) := HF.out.alloc _ _
        generalize wk22.alloc (.cells (Av.cells avZ) 36) = wk24 at HF HK0 HK1 ⊢
        generalize wk22.heap.size = gk23 at HF hx0_gk23 hx1_gk23 ⊢
        refine wp_storeW 26 _ _ rfl ⟨gk21, 0, none⟩ (.agg (Bv.cells ⟨bu + 1, ⟨xa11, xn11, xc11⟩, ⟨xa12, xn12, xc12⟩⟩)) (by kernel_rfl) (by kernel_rfl) (wk24.setRow gk21 (Bv.cells ⟨bu + 1, ⟨xa11, xn11, xc11⟩, ⟨xa12, xn12, xc12⟩⟩)) (run_store_to (cur := Bv.cs bvZ) (vs := Bv.cs ⟨bu + 1, ⟨xa11, xn11, xc11⟩, ⟨xa12, xn12, xc12⟩⟩) (new := Bv.cs ⟨bu + 1, ⟨xa11, xn11, xc11⟩, ⟨xa12, xn12, xc12⟩⟩) (HF.out.box 4 _ _ _ rfl) (by kernel_rfl) Try.size25 (Nat.le_of_ble_eq_true (by kernel_rfl)) (Bv.oneL _) (by kernel_rfl)) (by kernel_rfl) ?_
        try simp only [pA, pB, p1, p2, p3]
        have HK0 : Hid (Kept No wr (wk24.setRow gk21 (Bv.cells ⟨bu + 1, ⟨xa11, xn11, xc11⟩, ⟨xa12, xn12, xc12⟩⟩))) := HK0.out.newRow (by rw [HS0.out]; exact hx0_gk21) _
        have HK1 : Hid (Kept No wk20 (wk24.setRow gk21 (Bv.cells ⟨bu + 1, ⟨xa11, xn11, xc11⟩, ⟨xa12, xn12, xc12⟩⟩))) := HK1.out.newRow (by rw [HS1.out]; exact hx1_gk21) _
        have HF : Hid (Fr No w (wk24.setRow gk21 (Bv.cells ⟨bu + 1, ⟨xa11, xn11, xc11⟩, ⟨xa12, xn12, xc12⟩⟩)) [(gk1, 26, Bv.cells ⟨bu, ⟨ba, bn, bc⟩, ⟨la, ln, lc⟩⟩), (gk11, 26, Bv.cells ⟨bu, ⟨va, vn, vc⟩, ⟨ua, un, uc⟩⟩), (gk14, 31, Cm.cells ⟨4, 3, 9, ⟨#[]⟩, 0, 0, 0, 0, 0⟩), (gk17, 31, Cm.cells ⟨1, 3, 9, ⟨#[111, 119, 110]⟩, 0, 0, 0, 0, 0⟩), (gk21, 26, Bv.cells ⟨bu + 1, ⟨xa11, xn11, xc11⟩, ⟨xa12, xn12, xc12⟩⟩), (gk23, 36, Av.cells avZ)]) := HF.out.set 4 rfl _
        generalize wk24.setRow gk21 (Bv.cells ⟨bu + 1, ⟨xa11, xn11, xc11⟩, ⟨xa12, xn12, xc12⟩⟩) = wk25 at HF HK0 HK1 ⊢
        refine wp_storeW 36 _ _ rfl ⟨gk23, 0, none⟩ (.agg (Av.cells ⟨0, enZ, ⟨xa13, xn13, xc13⟩⟩)) (by kernel_rfl) (by kernel_rfl) (wk25.setRow gk23 (Av.cells ⟨0, enZ, ⟨xa13, xn13, xc13⟩⟩)) (run_store_to (cur := Av.cs avZ) (vs := Av.cs ⟨0, enZ, ⟨xa13, xn13, xc13⟩⟩) (new := Av.cs ⟨0, enZ, ⟨xa13, xn13, xc13⟩⟩) (HF.out.box 5 _ _ _ rfl) (by kernel_rfl) Try.size56 (Nat.le_of_ble_eq_true (by kernel_rfl)) (Av.oneL _) (by kernel_rfl)) (by kernel_rfl) ?_
        try simp only [pA, pB, p1, p2, p3]
        have HK0 : Hid (Kept No wr (wk25.setRow gk23 (Av.cells ⟨0, enZ, ⟨xa13, xn13, xc13⟩⟩))) := HK0.out.newRow (by rw [HS0.out]; exact hx0_gk23) _
        have HK1 : Hid (Kept No wk20 (wk25.setRow gk23 (Av.cells ⟨0, enZ, ⟨xa13, xn13, xc13⟩⟩))) := HK1.out.newRow (by rw [HS1.out]; exact hx1_gk23) _
        have HF : Hid (Fr No w (wk25.setRow gk23 (Av.cells ⟨0, enZ, ⟨xa13, xn13, xc13⟩⟩)) [(gk1, 26, Bv.cells ⟨bu, ⟨ba, bn, bc⟩, ⟨la, ln, lc⟩⟩), (gk11, 26, Bv.cells ⟨bu, ⟨va, vn, vc⟩, ⟨ua, un, uc⟩⟩), (gk14, 31, Cm.cells ⟨4, 3, 9, ⟨#[]⟩, 0, 0, 0, 0, 0⟩), (gk17, 31, Cm.cells ⟨1, 3, 9, ⟨#[111, 119, 110]⟩, 0, 0, 0, 0, 0⟩), (gk21, 26, Bv.cells ⟨bu + 1, ⟨xa11, xn11, xc11⟩, ⟨xa12, xn12, xc12⟩⟩), (gk23, 36, Av.cells ⟨0, enZ, ⟨xa13, xn13, xc13⟩⟩)]) := HF.out.set 5 rfl _
        generalize wk25.setRow gk23 (Av.cells ⟨0, enZ, ⟨xa13, xn13, xc13⟩⟩) = wk26 at HF HK0 HK1 ⊢
        refine tK (.int .i64 0) ?_
        try simp only [pA, pB, p1, p2, p3]
        refine WL.nil ?_
        try simp only [pA, pB, p1, p2, p3]
        have HKr : Hid (Gx.Rw Gx.DE wk26 w.heap.size ka kc K) := HKrs.out.no HK0.out
        have HKe : Hid (Gx.ErX Gx.DE wk26 lo K) := HKes.out.no HK0.out
        have HLr : Hid (Gx.Rw Gx.DL wk26 w.heap.size pa pc L) := HLrs.out.no HK0.out
        have HLe : Hid (Gx.ErX Gx.DL wk26 lo L) := HLes.out.no HK0.out
        have HAr : Hid (Gx.Rw Gx.DA wk26 w.heap.size aa ac A) := HArs.out.no HK0.out
        have HAe : Hid (Gx.ErX Gx.DA wk26 lo A) := HAes.out.no HK0.out
        have HSz : Hid (SzL lo wk26) := HSzs.out.no HK0.out
        have HBE : Hid (OwE wk26 w.heap.size ⟨ba, bn, bc⟩ bes) := HBEs.out.no HK0.out
        have HBL : Hid (OwL wk26 w.heap.size ⟨la, ln, lc⟩ bls) := HBLs.out.no HK0.out
        have HWE : Hid (OwE wk26 w.heap.size ⟨va, vn, vc⟩ bes) := HWEs.out.no HK0.out
        have HWL : Hid (OwL wk26 w.heap.size ⟨ua, un, uc⟩ bls) := HWLs.out.no HK0.out
        have HX11 : Hid (OwE wk26 t1 ⟨xa11, xn11, xc11⟩ bes) := HX116.out.no HK1.out
        have HX12 : Hid (OwL wk26 t1 ⟨xa12, xn12, xc12⟩ bls) := HX126.out.no HK1.out
        have HX13 : Hid (OwE wk26 t1 ⟨xa13, xn13, xc13⟩ bes) := HX136.out.no HK1.out
        clear HKrs HKes HLrs HLes HArs HAes HSzs HBEs HBLs HWEs HWLs HX116 HX126 HX136 HK1 HS1 HK0 HS0 hx0_gk21 hx1_gk21 hx0_gk23 hx1_gk23
        have HAP1 : Hid (∀ W, RdE W ⟨ba, bn, bc⟩ bes → RdL W ⟨la, ln, lc⟩ bls → Calls Try.prog 6 #[.agg (Bv.cells ⟨bu, ⟨ba, bn, bc⟩, ⟨la, ln, lc⟩⟩), .agg (Cm.cells mkC), .int .i64 room] W (ApYes W (stepS ⟨bu, bes, bls⟩ mkC room))) := fun W h1 h2 => apply_yes bu ba bn bc la ln lc bes bls mkC room W (ref_make bu (by omega)) h1 h2 (by omega) (by omega) (by omega)
        obtain ⟨R1, hR1⟩ : ∃ R, R = stepS ⟨bu, bes, bls⟩ mkC room := ⟨_, rfl⟩
        have HR1 : Hid (Fine 41 R1.1) := by rw [hR1]; exact HFi.out.step mkC room
        rw [← hR1] at HAP1
        clear hR1
        have HKrs : Hid (Gx.Rw Gx.DE wk26 w.heap.size ka kc K) := HKr
        clear HKr
        have HKes : Hid (Gx.ErX Gx.DE wk26 lo K) := HKe
        clear HKe
        have HLrs : Hid (Gx.Rw Gx.DL wk26 w.heap.size pa pc L) := HLr
        clear HLr
        have HLes : Hid (Gx.ErX Gx.DL wk26 lo L) := HLe
        clear HLe
        have HArs : Hid (Gx.Rw Gx.DA wk26 w.heap.size aa ac A) := HAr
        clear HAr
        have HAes : Hid (Gx.ErX Gx.DA wk26 lo A) := HAe
        clear HAe
        have HSzs : Hid (SzL lo wk26) := HSz
        clear HSz
        have HBEs : Hid (OwE wk26 w.heap.size ⟨ba, bn, bc⟩ bes) := HBE
        clear HBE
        have HBLs : Hid (OwL wk26 w.heap.size ⟨la, ln, lc⟩ bls) := HBL
        clear HBL
        have HWEs : Hid (OwE wk26 w.heap.size ⟨va, vn, vc⟩ bes) := HWE
        clear HWE
        have HWLs : Hid (OwL wk26 w.heap.size ⟨ua, un, uc⟩ bls) := HWL
        clear HWL
        have HX11s : Hid (OwE wk26 t1 ⟨xa11, xn11, xc11⟩ bes) := HX11
        clear HX11
        have HX12s : Hid (OwL wk26 t1 ⟨xa12, xn12, xc12⟩ bls) := HX12
        clear HX12
        have HX13s : Hid (OwE wk26 t1 ⟨xa13, xn13, xc13⟩ bes) := HX13
        clear HX13
        have HK0 : Hid (Kept No wk26 wk26) := Kept.refl _ _
        obtain ⟨s0, hs0⟩ : ∃ n, wk26.heap.size = n := ⟨_, rfl⟩
        have HS0 : Hid (wk26.heap.size = s0) := hs0
        clear hs0
        go_upto_region 19 with fail
        refine WL.start ?_
        refine tW (.agg (Bv.cells ⟨bu, ⟨ba, bn, bc⟩, ⟨la, ln, lc⟩⟩)) (exec_load 26 _ rfl ⟨gk1, 0, none⟩ (by kernel_rfl) (.agg (Bv.cells ⟨bu, ⟨ba, bn, bc⟩, ⟨la, ln, lc⟩⟩)) (run_load_part (cs := Bv.cs ⟨bu, ⟨ba, bn, bc⟩, ⟨la, ln, lc⟩⟩) (sub := Bv.cs ⟨bu, ⟨ba, bn, bc⟩, ⟨la, ln, lc⟩⟩) (HF.out.box 0 _ _ _ rfl) (Part.all _) Try.und25 rfl Try.size25)) ?_
        try simp only [pA, pB, p1, p2, p3]
        refine tW (.agg (Cm.cells ⟨1, 3, 9, ⟨#[111, 119, 110]⟩, 0, 0, 0, 0, 0⟩)) (exec_load 31 _ rfl ⟨gk17, 0, none⟩ (by kernel_rfl) (.agg (Cm.cells ⟨1, 3, 9, ⟨#[111, 119, 110]⟩, 0, 0, 0, 0, 0⟩)) (run_load_part (cs := Cm.cs ⟨1, 3, 9, ⟨#[111, 119, 110]⟩, 0, 0, 0, 0, 0⟩) (sub := Cm.cs ⟨1, 3, 9, ⟨#[111, 119, 110]⟩, 0, 0, 0, 0, 0⟩) (HF.out.box 3 _ _ _ rfl) (Part.all _) Try.und29 rfl Try.size29)) ?_
        try simp only [pA, pB, p1, p2, p3]
        refine tK (.int .i64 room) ?_
        try simp only [pA, pB, p1, p2, p3]
        refine wp_callW 6 #[.agg (Bv.cells ⟨bu, ⟨ba, bn, bc⟩, ⟨la, ln, lc⟩⟩), .agg (Cm.cells ⟨1, 3, 9, ⟨#[111, 119, 110]⟩, 0, 0, 0, 0, 0⟩), .int .i64 room] (by kernel_rfl) _ (HAP1.out _ (HBEs.out.no HK0.out).rd (HBLs.out.no HK0.out).rd) (by kernel_rfl) ?_
        have hb_HX11_t2 : ∀ k, At xa11 k → k < wk26.heap.size := fun k e => (HX11s.out.no HK0.out).own.lt e
        have hb_HX12_t2 : ∀ k, At xa12 k → k < wk26.heap.size := fun k e => (HX12s.out.no HK0.out).own.lt e
        have hb_HX13_t2 : ∀ k, At xa13 k → k < wk26.heap.size := fun k e => (HX13s.out.no HK0.out).own.lt e
        have hb_HKe_t2 : ∀ k, Gx.EB K k → k < wk26.heap.size := fun k e => ((HKes.out.no HK0.out).at e).2.1
        have hb_HLe_t2 : ∀ k, Gx.EB L k → k < wk26.heap.size := fun k e => ((HLes.out.no HK0.out).at e).2.1
        have hb_HAe_t2 : ∀ k, Gx.EB A k → k < wk26.heap.size := fun k e => ((HAes.out.no HK0.out).at e).2.1
        have hlo_t2 : lo ≤ wk26.heap.size := (HSzs.out.no HK0.out)
        have hw_t2 : w.heap.size ≤ wk26.heap.size := HF.out.kept.size
        rintro e9 wk27 ⟨⟨xa21, xn21, xc21⟩, ⟨xa22, xn22, xc22⟩, ⟨xa23, xn23, xc23⟩, rfl, hse, hsl, hsx, hap2, hk⟩
        have HK0 : Hid (Kept No wk26 (wk27)) := HK0.out.no hk
        have HF : Hid (Fr No w (wk27) [(gk1, 26, Bv.cells ⟨bu, ⟨ba, bn, bc⟩, ⟨la, ln, lc⟩⟩), (gk11, 26, Bv.cells ⟨bu, ⟨va, vn, vc⟩, ⟨ua, un, uc⟩⟩), (gk14, 31, Cm.cells ⟨4, 3, 9, ⟨#[]⟩, 0, 0, 0, 0, 0⟩), (gk17, 31, Cm.cells ⟨1, 3, 9, ⟨#[111, 119, 110]⟩, 0, 0, 0, 0, 0⟩), (gk21, 26, Bv.cells ⟨bu + 1, ⟨xa11, xn11, xc11⟩, ⟨xa12, xn12, xc12⟩⟩), (gk23, 36, Av.cells ⟨0, enZ, ⟨xa13, xn13, xc13⟩⟩)]) := HF.out.no hk
        have HX216 : Hid (OwE wk27 wk26.heap.size ⟨xa21, xn21, xc21⟩ R1.1.es) := hse
        have HX226 : Hid (OwL wk27 wk26.heap.size ⟨xa22, xn22, xc22⟩ R1.1.ls) := hsl
        have HX236 : Hid (OwE wk27 wk26.heap.size ⟨xa23, xn23, xc23⟩ R1.2.l) := hsx
        have hap2 : ∀ k, At xa23 k → ¬ At xa21 k := hap2
        clear hse hsl hsx hk
        generalize wk26.heap.size = t2 at hb_HX11_t2 hb_HX12_t2 hb_HX13_t2 hb_HKe_t2 hb_HLe_t2 hb_HAe_t2 hlo_t2 hw_t2 HX216 HX226 HX236
        have HK1 : Hid (Kept No wk27 wk27) := Kept.refl _ _
        obtain ⟨s1, hs1⟩ : ∃ n, wk27.heap.size = n := ⟨_, rfl⟩
        have HS1 : Hid (wk27.heap.size = s1) := hs1
        clear hs1
        refine ⟨.tuple #[.agg (Bv.cells ⟨R1.1.up, ⟨xa21, xn21, xc21⟩, ⟨xa22, xn22, xc22⟩⟩), .agg (Av.cells ⟨R1.2.er, R1.2.e, ⟨xa23, xn23, xc23⟩⟩), .int .i64 0], rfl, ?_⟩
        try simp only [pA, pB, p1, p2, p3]
        refine tK (.tuple #[.agg (Bv.cells ⟨R1.1.up, ⟨xa21, xn21, xc21⟩, ⟨xa22, xn22, xc22⟩⟩), .agg (Av.cells ⟨R1.2.er, R1.2.e, ⟨xa23, xn23, xc23⟩⟩), .int .i64 0]) ?_
        try simp only [pA, pB, p1, p2, p3]
        refine tK (.agg (Bv.cells ⟨R1.1.up, ⟨xa21, xn21, xc21⟩, ⟨xa22, xn22, xc22⟩⟩)) ?_
        try simp only [pA, pB, p1, p2, p3]
        refine tK (.agg (Av.cells ⟨R1.2.er, R1.2.e, ⟨xa23, xn23, xc23⟩⟩)) ?_
        try simp only [pA, pB, p1, p2, p3]
        refine tK (.int .i64 0) ?_
        try simp only [pA, pB, p1, p2, p3]
        refine wp_runW (.pointer (some ⟨wk27.heap.size, 0, none⟩)) (wk27.alloc (.cells (Bv.cells bvZ) 26)) (exec_alloc 26 rfl (Bv.cells bvZ) zero25) (by kernel_rfl) ?_
        try simp only [pA, pB, p1, p2, p3]
        have hx0_gk28 : s0 ≤ wk27.heap.size := by rw [← HS0.out]; exact HK0.out.size
        have hx1_gk28 : s1 ≤ wk27.heap.size := by rw [← HS1.out]; exact HK1.out.size
        have HK0 : Hid (Kept No wk26 (wk27.alloc (.cells (Bv.cells bvZ) 26))) := HK0.out.no ((Kept.refl No _).alloc _)
        have HK1 : Hid (Kept No wk27 (wk27.alloc (.cells (Bv.cells bvZ) 26))) := HK1.out.no ((Kept.refl No _).alloc _)
        have HF : Hid (Fr No w (wk27.alloc (.cells (Bv.cells bvZ) 26)) [(gk1, 26, Bv.cells ⟨bu, ⟨ba, bn, bc⟩, ⟨la, ln, lc⟩⟩), (gk11, 26, Bv.cells ⟨bu, ⟨va, vn, vc⟩, ⟨ua, un, uc⟩⟩), (gk14, 31, Cm.cells ⟨4, 3, 9, ⟨#[]⟩, 0, 0, 0, 0, 0⟩), (gk17, 31, Cm.cells ⟨1, 3, 9, ⟨#[111, 119, 110]⟩, 0, 0, 0, 0, 0⟩), (gk21, 26, Bv.cells ⟨bu + 1, ⟨xa11, xn11, xc11⟩, ⟨xa12, xn12, xc12⟩⟩), (gk23, 36, Av.cells ⟨0, enZ, ⟨xa13, xn13, xc13⟩⟩), (wk27.heap.size, 26, Bv.cells bvZ)]) := HF.out.alloc _ _
        generalize wk27.alloc (.cells (Bv.cells bvZ) 26) = wk29 at HF HK0 HK1 ⊢
        generalize wk27.heap.size = gk28 at HF hx0_gk28 hx1_gk28 ⊢
        refine wp_runW (.pointer (some ⟨wk29.heap.size, 0, none⟩)) (wk29.alloc (.cells (Av.cells avZ) 36)) (exec_alloc 36 rfl (Av.cells avZ) zero56) (by kernel_rfl) ?_
        try simp only [pA, pB, p1, p2, p3]
        have hx0_gk30 : s0 ≤ wk29.heap.size := by rw [← HS0.out]; exact HK0.out.size
        have hx1_gk30 : s1 ≤ wk29.heap.size := by rw [← HS1.out]; exact HK1.out.size
        have HK0 : Hid (Kept No wk26 (wk29.alloc (.cells (Av.cells avZ) 36))) := HK0.out.no ((Kept.refl No _).alloc _)
        have HK1 : Hid (Kept No wk27 (wk29.alloc (.cells (Av.cells avZ) 36))) := HK1.out.no ((Kept.refl No _).alloc _)
        have HF : Hid (Fr No w (wk29.alloc (.cells (Av.cells avZ) 36)) [(gk1, 26, Bv.cells ⟨bu, ⟨ba, bn, bc⟩, ⟨la, ln, lc⟩⟩), (gk11, 26, Bv.cells ⟨bu, ⟨va, vn, vc⟩, ⟨ua, un, uc⟩⟩), (gk14, 31, Cm.cells ⟨4, 3, 9, ⟨#[]⟩, 0, 0, 0, 0, 0⟩), (gk17, 31, Cm.cells ⟨1, 3, 9, ⟨#[111, 119, 110]⟩, 0, 0, 0, 0, 0⟩), (gk21, 26, Bv.cells ⟨bu + 1, ⟨xa11, xn11, xc11⟩, ⟨xa12, xn12, xc12⟩⟩), (gk23, 36, Av.cells ⟨0, enZ, ⟨xa13, xn13, xc13⟩⟩), (gk28, 26, Bv.cells bvZ), (wk29.heap.size, 36, Av.cells avZ)]) := HF.out.alloc _ _
        generalize wk29.alloc (.cells (Av.cells avZ) 36) = wk31 at HF HK0 HK1 ⊢
        generalize wk29.heap.size = gk30 at HF hx0_gk30 hx1_gk30 ⊢
        refine wp_storeW 26 _ _ rfl ⟨gk28, 0, none⟩ (.agg (Bv.cells ⟨R1.1.up, ⟨xa21, xn21, xc21⟩, ⟨xa22, xn22, xc22⟩⟩)) (by kernel_rfl) (by kernel_rfl) (wk31.setRow gk28 (Bv.cells ⟨R1.1.up, ⟨xa21, xn21, xc21⟩, ⟨xa22, xn22, xc22⟩⟩)) (run_store_to (cur := Bv.cs bvZ) (vs := Bv.cs ⟨R1.1.up, ⟨xa21, xn21, xc21⟩, ⟨xa22, xn22, xc22⟩⟩) (new := Bv.cs ⟨R1.1.up, ⟨xa21, xn21, xc21⟩, ⟨xa22, xn22, xc22⟩⟩) (HF.out.box 6 _ _ _ rfl) (by kernel_rfl) Try.size25 (Nat.le_of_ble_eq_true (by kernel_rfl)) (Bv.oneL _) (by kernel_rfl)) (by kernel_rfl) ?_
        try simp only [pA, pB, p1, p2, p3]
        have HK0 : Hid (Kept No wk26 (wk31.setRow gk28 (Bv.cells ⟨R1.1.up, ⟨xa21, xn21, xc21⟩, ⟨xa22, xn22, xc22⟩⟩))) := HK0.out.newRow (by rw [HS0.out]; exact hx0_gk28) _
        have HK1 : Hid (Kept No wk27 (wk31.setRow gk28 (Bv.cells ⟨R1.1.up, ⟨xa21, xn21, xc21⟩, ⟨xa22, xn22, xc22⟩⟩))) := HK1.out.newRow (by rw [HS1.out]; exact hx1_gk28) _
        have HF : Hid (Fr No w (wk31.setRow gk28 (Bv.cells ⟨R1.1.up, ⟨xa21, xn21, xc21⟩, ⟨xa22, xn22, xc22⟩⟩)) [(gk1, 26, Bv.cells ⟨bu, ⟨ba, bn, bc⟩, ⟨la, ln, lc⟩⟩), (gk11, 26, Bv.cells ⟨bu, ⟨va, vn, vc⟩, ⟨ua, un, uc⟩⟩), (gk14, 31, Cm.cells ⟨4, 3, 9, ⟨#[]⟩, 0, 0, 0, 0, 0⟩), (gk17, 31, Cm.cells ⟨1, 3, 9, ⟨#[111, 119, 110]⟩, 0, 0, 0, 0, 0⟩), (gk21, 26, Bv.cells ⟨bu + 1, ⟨xa11, xn11, xc11⟩, ⟨xa12, xn12, xc12⟩⟩), (gk23, 36, Av.cells ⟨0, enZ, ⟨xa13, xn13, xc13⟩⟩), (gk28, 26, Bv.cells ⟨R1.1.up, ⟨xa21, xn21, xc21⟩, ⟨xa22, xn22, xc22⟩⟩), (gk30, 36, Av.cells avZ)]) := HF.out.set 6 rfl _
        generalize wk31.setRow gk28 (Bv.cells ⟨R1.1.up, ⟨xa21, xn21, xc21⟩, ⟨xa22, xn22, xc22⟩⟩) = wk32 at HF HK0 HK1 ⊢
        refine wp_storeW 36 _ _ rfl ⟨gk30, 0, none⟩ (.agg (Av.cells ⟨R1.2.er, R1.2.e, ⟨xa23, xn23, xc23⟩⟩)) (by kernel_rfl) (by kernel_rfl) (wk32.setRow gk30 (Av.cells ⟨R1.2.er, R1.2.e, ⟨xa23, xn23, xc23⟩⟩)) (run_store_to (cur := Av.cs avZ) (vs := Av.cs ⟨R1.2.er, R1.2.e, ⟨xa23, xn23, xc23⟩⟩) (new := Av.cs ⟨R1.2.er, R1.2.e, ⟨xa23, xn23, xc23⟩⟩) (HF.out.box 7 _ _ _ rfl) (by kernel_rfl) Try.size56 (Nat.le_of_ble_eq_true (by kernel_rfl)) (Av.oneL _) (by kernel_rfl)) (by kernel_rfl) ?_
        try simp only [pA, pB, p1, p2, p3]
        have HK0 : Hid (Kept No wk26 (wk32.setRow gk30 (Av.cells ⟨R1.2.er, R1.2.e, ⟨xa23, xn23, xc23⟩⟩))) := HK0.out.newRow (by rw [HS0.out]; exact hx0_gk30) _
        have HK1 : Hid (Kept No wk27 (wk32.setRow gk30 (Av.cells ⟨R1.2.er, R1.2.e, ⟨xa23, xn23, xc23⟩⟩))) := HK1.out.newRow (by rw [HS1.out]; exact hx1_gk30) _
        have HF : Hid (Fr No w (wk32.setRow gk30 (Av.cells ⟨R1.2.er, R1.2.e, ⟨xa23, xn23, xc23⟩⟩)) [(gk1, 26, Bv.cells ⟨bu, ⟨ba, bn, bc⟩, ⟨la, ln, lc⟩⟩), (gk11, 26, Bv.cells ⟨bu, ⟨va, vn, vc⟩, ⟨ua, un, uc⟩⟩), (gk14, 31, Cm.cells ⟨4, 3, 9, ⟨#[]⟩, 0, 0, 0, 0, 0⟩), (gk17, 31, Cm.cells ⟨1, 3, 9, ⟨#[111, 119, 110]⟩, 0, 0, 0, 0, 0⟩), (gk21, 26, Bv.cells ⟨bu + 1, ⟨xa11, xn11, xc11⟩, ⟨xa12, xn12, xc12⟩⟩), (gk23, 36, Av.cells ⟨0, enZ, ⟨xa13, xn13, xc13⟩⟩), (gk28, 26, Bv.cells ⟨R1.1.up, ⟨xa21, xn21, xc21⟩, ⟨xa22, xn22, xc22⟩⟩), (gk30, 36, Av.cells ⟨R1.2.er, R1.2.e, ⟨xa23, xn23, xc23⟩⟩)]) := HF.out.set 7 rfl _
        generalize wk32.setRow gk30 (Av.cells ⟨R1.2.er, R1.2.e, ⟨xa23, xn23, xc23⟩⟩) = wk33 at HF HK0 HK1 ⊢
        refine tK (.int .i64 0) ?_
        try simp only [pA, pB, p1, p2, p3]
        refine WL.nil ?_
        try simp only [pA, pB, p1, p2, p3]
        have HKr : Hid (Gx.Rw Gx.DE wk33 w.heap.size ka kc K) := HKrs.out.no HK0.out
        have HKe : Hid (Gx.ErX Gx.DE wk33 lo K) := HKes.out.no HK0.out
        have HLr : Hid (Gx.Rw Gx.DL wk33 w.heap.size pa pc L) := HLrs.out.no HK0.out
        have HLe : Hid (Gx.ErX Gx.DL wk33 lo L) := HLes.out.no HK0.out
        have HAr : Hid (Gx.Rw Gx.DA wk33 w.heap.size aa ac A) := HArs.out.no HK0.out
        have HAe : Hid (Gx.ErX Gx.DA wk33 lo A) := HAes.out.no HK0.out
        have HSz : Hid (SzL lo wk33) := HSzs.out.no HK0.out
        have HBE : Hid (OwE wk33 w.heap.size ⟨ba, bn, bc⟩ bes) := HBEs.out.no HK0.out
        have HBL : Hid (OwL wk33 w.heap.size ⟨la, ln, lc⟩ bls) := HBLs.out.no HK0.out
        have HWE : Hid (OwE wk33 w.heap.size ⟨va, vn, vc⟩ bes) := HWEs.out.no HK0.out
        have HWL : Hid (OwL wk33 w.heap.size ⟨ua, un, uc⟩ bls) := HWLs.out.no HK0.out
        have HX11 : Hid (OwE wk33 t1 ⟨xa11, xn11, xc11⟩ bes) := HX11s.out.no HK0.out
        have HX12 : Hid (OwL wk33 t1 ⟨xa12, xn12, xc12⟩ bls) := HX12s.out.no HK0.out
        have HX13 : Hid (OwE wk33 t1 ⟨xa13, xn13, xc13⟩ bes) := HX13s.out.no HK0.out
        have HX21 : Hid (OwE wk33 t2 ⟨xa21, xn21, xc21⟩ R1.1.es) := HX216.out.no HK1.out
        have HX22 : Hid (OwL wk33 t2 ⟨xa22, xn22, xc22⟩ R1.1.ls) := HX226.out.no HK1.out
        have HX23 : Hid (OwE wk33 t2 ⟨xa23, xn23, xc23⟩ R1.2.l) := HX236.out.no HK1.out
        clear HKrs HKes HLrs HLes HArs HAes HSzs HBEs HBLs HWEs HWLs HX11s HX12s HX13s HX216 HX226 HX236 HK1 HS1 HK0 HS0 hx0_gk28 hx1_gk28 hx0_gk30 hx1_gk30
        clear HAP1
        obtain ⟨a1, E2, L2, u2, hE2, hL2, hREP⟩ := replay4 bu bes bls room HFi.out hbu.2
        have HREP : Hid (∀ (ba : Option Addr) (bn bc : Nat) (la : Option Addr) (ln lc g : Nat) (W : World), RdE W ⟨ba, bn, bc⟩ bes → RdL W ⟨la, ln, lc⟩ bls → Box W g 31 (cmR [⟨4, 3, 9, ⟨#[]⟩, 0, 0, 0, 0, 0⟩, ⟨1, 3, 9, ⟨#[111, 119, 110]⟩, 0, 0, 0, 0, 0⟩, ⟨4, 3, 9, ⟨#[]⟩, 0, 0, 0, 0, 0⟩, ⟨4, 3, 9, ⟨#[]⟩, 0, 0, 0, 0, 0⟩]).toArray → Calls Try.prog 10 #[.agg (Bv.cells ⟨bu, ⟨ba, bn, bc⟩, ⟨la, ln, lc⟩⟩), .int .i64 room, .slice (some ⟨g, 0, none⟩) 4 4] W (RepOw W 0 ⟨u2, E2, L2⟩ [⟨0, enZ, bes⟩, a1, ⟨0, enZ, E2⟩, ⟨0, enZ, E2⟩])) := hREP
        clear hREP
        have HKrs : Hid (Gx.Rw Gx.DE wk33 w.heap.size ka kc K) := HKr
        clear HKr
        have HKes : Hid (Gx.ErX Gx.DE wk33 lo K) := HKe
        clear HKe
        have HLrs : Hid (Gx.Rw Gx.DL wk33 w.heap.size pa pc L) := HLr
        clear HLr
        have HLes : Hid (Gx.ErX Gx.DL wk33 lo L) := HLe
        clear HLe
        have HArs : Hid (Gx.Rw Gx.DA wk33 w.heap.size aa ac A) := HAr
        clear HAr
        have HAes : Hid (Gx.ErX Gx.DA wk33 lo A) := HAe
        clear HAe
        have HSzs : Hid (SzL lo wk33) := HSz
        clear HSz
        have HBEs : Hid (OwE wk33 w.heap.size ⟨ba, bn, bc⟩ bes) := HBE
        clear HBE
        have HBLs : Hid (OwL wk33 w.heap.size ⟨la, ln, lc⟩ bls) := HBL
        clear HBL
        have HWEs : Hid (OwE wk33 w.heap.size ⟨va, vn, vc⟩ bes) := HWE
        clear HWE
        have HWLs : Hid (OwL wk33 w.heap.size ⟨ua, un, uc⟩ bls) := HWL
        clear HWL
        have HX11s : Hid (OwE wk33 t1 ⟨xa11, xn11, xc11⟩ bes) := HX11
        clear HX11
        have HX12s : Hid (OwL wk33 t1 ⟨xa12, xn12, xc12⟩ bls) := HX12
        clear HX12
        have HX13s : Hid (OwE wk33 t1 ⟨xa13, xn13, xc13⟩ bes) := HX13
        clear HX13
        have HX21s : Hid (OwE wk33 t2 ⟨xa21, xn21, xc21⟩ R1.1.es) := HX21
        clear HX21
        have HX22s : Hid (OwL wk33 t2 ⟨xa22, xn22, xc22⟩ R1.1.ls) := HX22
        clear HX22
        have HX23s : Hid (OwE wk33 t2 ⟨xa23, xn23, xc23⟩ R1.2.l) := HX23
        clear HX23
        have HK0 : Hid (Kept No wk33 wk33) := Kept.refl _ _
        obtain ⟨s0, hs0⟩ : ∃ n, wk33.heap.size = n := ⟨_, rfl⟩
        have HS0 : Hid (wk33.heap.size = s0) := hs0
        clear hs0
        go_upto_region 20 with fail
        refine WL.start ?_
        refine tW (.agg (Bv.cells ⟨bu, ⟨ba, bn, bc⟩, ⟨la, ln, lc⟩⟩)) (exec_load 26 _ rfl ⟨gk1, 0, none⟩ (by kernel_rfl) (.agg (Bv.cells ⟨bu, ⟨ba, bn, bc⟩, ⟨la, ln, lc⟩⟩)) (run_load_part (cs := Bv.cs ⟨bu, ⟨ba, bn, bc⟩, ⟨la, ln, lc⟩⟩) (sub := Bv.cs ⟨bu, ⟨ba, bn, bc⟩, ⟨la, ln, lc⟩⟩) (HF.out.box 0 _ _ _ rfl) (Part.all _) Try.und25 rfl Try.size25)) ?_
        try simp only [pA, pB, p1, p2, p3]
        refine tK (.int .i64 room) ?_
        try simp only [pA, pB, p1, p2, p3]
        refine tW (.agg (Cm.cells ⟨4, 3, 9, ⟨#[]⟩, 0, 0, 0, 0, 0⟩)) (exec_load 31 _ rfl ⟨gk14, 0, none⟩ (by kernel_rfl) (.agg (Cm.cells ⟨4, 3, 9, ⟨#[]⟩, 0, 0, 0, 0, 0⟩)) (run_load_part (cs := Cm.cs ⟨4, 3, 9, ⟨#[]⟩, 0, 0, 0, 0, 0⟩) (sub := Cm.cs ⟨4, 3, 9, ⟨#[]⟩, 0, 0, 0, 0, 0⟩) (HF.out.box 2 _ _ _ rfl) (Part.all _) Try.und29 rfl Try.size29)) ?_
        try simp only [pA, pB, p1, p2, p3]
        refine tW (.agg (Cm.cells ⟨1, 3, 9, ⟨#[111, 119, 110]⟩, 0, 0, 0, 0, 0⟩)) (exec_load 31 _ rfl ⟨gk17, 0, none⟩ (by kernel_rfl) (.agg (Cm.cells ⟨1, 3, 9, ⟨#[111, 119, 110]⟩, 0, 0, 0, 0, 0⟩)) (run_load_part (cs := Cm.cs ⟨1, 3, 9, ⟨#[111, 119, 110]⟩, 0, 0, 0, 0, 0⟩) (sub := Cm.cs ⟨1, 3, 9, ⟨#[111, 119, 110]⟩, 0, 0, 0, 0, 0⟩) (HF.out.box 3 _ _ _ rfl) (Part.all _) Try.und29 rfl Try.size29)) ?_
        try simp only [pA, pB, p1, p2, p3]
        refine tW (.agg (Cm.cells ⟨4, 3, 9, ⟨#[]⟩, 0, 0, 0, 0, 0⟩)) (exec_load 31 _ rfl ⟨gk14, 0, none⟩ (by kernel_rfl) (.agg (Cm.cells ⟨4, 3, 9, ⟨#[]⟩, 0, 0, 0, 0, 0⟩)) (run_load_part (cs := Cm.cs ⟨4, 3, 9, ⟨#[]⟩, 0, 0, 0, 0, 0⟩) (sub := Cm.cs ⟨4, 3, 9, ⟨#[]⟩, 0, 0, 0, 0, 0⟩) (HF.out.box 2 _ _ _ rfl) (Part.all _) Try.und29 rfl Try.size29)) ?_
        try simp only [pA, pB, p1, p2, p3]
        refine tW (.agg (Cm.cells ⟨4, 3, 9, ⟨#[]⟩, 0, 0, 0, 0, 0⟩)) (exec_load 31 _ rfl ⟨gk14, 0, none⟩ (by kernel_rfl) (.agg (Cm.cells ⟨4, 3, 9, ⟨#[]⟩, 0, 0, 0, 0, 0⟩)) (run_load_part (cs := Cm.cs ⟨4, 3, 9, ⟨#[]⟩, 0, 0, 0, 0, 0⟩) (sub := Cm.cs ⟨4, 3, 9, ⟨#[]⟩, 0, 0, 0, 0, 0⟩) (HF.out.box 2 _ _ _ rfl) (Part.all _) Try.und29 rfl Try.size29)) ?_
        try simp only [pA, pB, p1, p2, p3]
        refine wp_runW (.slice (some ⟨wk33.heap.size, 0, none⟩) 4 4) (wk33.alloc (.cells ((cmR [⟨4, 3, 9, ⟨#[]⟩, 0, 0, 0, 0, 0⟩, ⟨1, 3, 9, ⟨#[111, 119, 110]⟩, 0, 0, 0, 0, 0⟩, ⟨4, 3, 9, ⟨#[]⟩, 0, 0, 0, 0, 0⟩, ⟨4, 3, 9, ⟨#[]⟩, 0, 0, 0, 0, 0⟩]).toArray) 31)) (exec_sliceN 4 22 31 _ rfl ((cmR [⟨4, 3, 9, ⟨#[]⟩, 0, 0, 0, 0, 0⟩, ⟨1, 3, 9, ⟨#[111, 119, 110]⟩, 0, 0, 0, 0, 0⟩, ⟨4, 3, 9, ⟨#[]⟩, 0, 0, 0, 0, 0⟩, ⟨4, 3, 9, ⟨#[]⟩, 0, 0, 0, 0, 0⟩]).toArray) #[(0, .agg (Cm.cells ⟨4, 3, 9, ⟨#[]⟩, 0, 0, 0, 0, 0⟩)), (1, .agg (Cm.cells ⟨1, 3, 9, ⟨#[111, 119, 110]⟩, 0, 0, 0, 0, 0⟩)), (2, .agg (Cm.cells ⟨4, 3, 9, ⟨#[]⟩, 0, 0, 0, 0, 0⟩)), (3, .agg (Cm.cells ⟨4, 3, 9, ⟨#[]⟩, 0, 0, 0, 0, 0⟩))] (by kernel_rfl) (by kernel_rfl)) (by kernel_rfl) ?_
        try simp only [pA, pB, p1, p2, p3]
        have hx0_gk34 : s0 ≤ wk33.heap.size := by rw [← HS0.out]; exact HK0.out.size
        have HK0 : Hid (Kept No wk33 (wk33.alloc (.cells ((cmR [⟨4, 3, 9, ⟨#[]⟩, 0, 0, 0, 0, 0⟩, ⟨1, 3, 9, ⟨#[111, 119, 110]⟩, 0, 0, 0, 0, 0⟩, ⟨4, 3, 9, ⟨#[]⟩, 0, 0, 0, 0, 0⟩, ⟨4, 3, 9, ⟨#[]⟩, 0, 0, 0, 0, 0⟩]).toArray) 31))) := HK0.out.no ((Kept.refl No _).alloc _)
        have HF : Hid (Fr No w (wk33.alloc (.cells ((cmR [⟨4, 3, 9, ⟨#[]⟩, 0, 0, 0, 0, 0⟩, ⟨1, 3, 9, ⟨#[111, 119, 110]⟩, 0, 0, 0, 0, 0⟩, ⟨4, 3, 9, ⟨#[]⟩, 0, 0, 0, 0, 0⟩, ⟨4, 3, 9, ⟨#[]⟩, 0, 0, 0, 0, 0⟩]).toArray) 31)) [(gk1, 26, Bv.cells ⟨bu, ⟨ba, bn, bc⟩, ⟨la, ln, lc⟩⟩), (gk11, 26, Bv.cells ⟨bu, ⟨va, vn, vc⟩, ⟨ua, un, uc⟩⟩), (gk14, 31, Cm.cells ⟨4, 3, 9, ⟨#[]⟩, 0, 0, 0, 0, 0⟩), (gk17, 31, Cm.cells ⟨1, 3, 9, ⟨#[111, 119, 110]⟩, 0, 0, 0, 0, 0⟩), (gk21, 26, Bv.cells ⟨bu + 1, ⟨xa11, xn11, xc11⟩, ⟨xa12, xn12, xc12⟩⟩), (gk23, 36, Av.cells ⟨0, enZ, ⟨xa13, xn13, xc13⟩⟩), (gk28, 26, Bv.cells ⟨R1.1.up, ⟨xa21, xn21, xc21⟩, ⟨xa22, xn22, xc22⟩⟩), (gk30, 36, Av.cells ⟨R1.2.er, R1.2.e, ⟨xa23, xn23, xc23⟩⟩), (wk33.heap.size, 31, (cmR [⟨4, 3, 9, ⟨#[]⟩, 0, 0, 0, 0, 0⟩, ⟨1, 3, 9, ⟨#[111, 119, 110]⟩, 0, 0, 0, 0, 0⟩, ⟨4, 3, 9, ⟨#[]⟩, 0, 0, 0, 0, 0⟩, ⟨4, 3, 9, ⟨#[]⟩, 0, 0, 0, 0, 0⟩]).toArray)]) := HF.out.alloc _ _
        generalize wk33.alloc (.cells ((cmR [⟨4, 3, 9, ⟨#[]⟩, 0, 0, 0, 0, 0⟩, ⟨1, 3, 9, ⟨#[111, 119, 110]⟩, 0, 0, 0, 0, 0⟩, ⟨4, 3, 9, ⟨#[]⟩, 0, 0, 0, 0, 0⟩, ⟨4, 3, 9, ⟨#[]⟩, 0, 0, 0, 0, 0⟩]).toArray) 31) = wk35 at HF HK0 ⊢
        generalize wk33.heap.size = gk34 at HF hx0_gk34 ⊢
        refine wp_callW 10 #[.agg (Bv.cells ⟨bu, ⟨ba, bn, bc⟩, ⟨la, ln, lc⟩⟩), .int .i64 room, .slice (some ⟨gk34, 0, none⟩) 4 4] (by kernel_rfl) _ (HREP.out ba bn bc la ln lc gk34 _ (HBEs.out.no HK0.out).rd (HBLs.out.no HK0.out).rd (HF.out.box 8 _ _ _ rfl)) (by kernel_rfl) ?_
        have hb_HX11_t3 : ∀ k, At xa11 k → k < wk35.heap.size := fun k e => (HX11s.out.no HK0.out).own.lt e
        have hb_HX12_t3 : ∀ k, At xa12 k → k < wk35.heap.size := fun k e => (HX12s.out.no HK0.out).own.lt e
        have hb_HX13_t3 : ∀ k, At xa13 k → k < wk35.heap.size := fun k e => (HX13s.out.no HK0.out).own.lt e
        have hb_HX21_t3 : ∀ k, At xa21 k → k < wk35.heap.size := fun k e => (HX21s.out.no HK0.out).own.lt e
        have hb_HX22_t3 : ∀ k, At xa22 k → k < wk35.heap.size := fun k e => (HX22s.out.no HK0.out).own.lt e
        have hb_HX23_t3 : ∀ k, At xa23 k → k < wk35.heap.size := fun k e => (HX23s.out.no HK0.out).own.lt e
        have hb_HKe_t3 : ∀ k, Gx.EB K k → k < wk35.heap.size := fun k e => ((HKes.out.no HK0.out).at e).2.1
        have hb_HLe_t3 : ∀ k, Gx.EB L k → k < wk35.heap.size := fun k e => ((HLes.out.no HK0.out).at e).2.1
        have hb_HAe_t3 : ∀ k, Gx.EB A k → k < wk35.heap.size := fun k e => ((HAes.out.no HK0.out).at e).2.1
        have hlo_t3 : lo ≤ wk35.heap.size := (HSzs.out.no HK0.out)
        have hw_t3 : w.heap.size ≤ wk35.heap.size := HF.out.kept.size
        rintro e9 wk36 ⟨⟨zu, ⟨za, zn, zc⟩, ⟨ya, yn, yc⟩⟩, ⟨sa, sn, sk⟩, vs, rfl, -, hse, hsl, has, hap3, hk⟩
        obtain ⟨⟨r0, e0, ⟨f0a, f0n, f0c⟩⟩, v1, ⟨r2, e2, ⟨f2a, f2n, f2c⟩⟩, ⟨r3, e3, ⟨f3a, f3n, f3c⟩⟩, hvs, hsn, ⟨sb, hsb⟩, h0, h2, h3, hd02, hd03, hd23⟩ := has.four
        subst hvs
        have hsn : 4 = sn := hsn
        have hsb : sa = some ⟨sb, 0, none⟩ := hsb
        subst hsn
        subst hsb
        have h30 : ∀ k, At f0a k → ¬ At za k := hap3 0 _ rfl
        have h33 : ∀ k, At f2a k → ¬ At za k := hap3 2 _ rfl
        have h34 : ∀ k, At f3a k → ¬ At za k := hap3 3 _ rfl
        have hd02 : ∀ k, At f0a k → ¬ At f2a k := hd02
        have hd03 : ∀ k, At f0a k → ¬ At f3a k := hd03
        have hd23 : ∀ k, At f2a k → ¬ At f3a k := hd23
        have HK0 : Hid (Kept No wk33 (wk36)) := HK0.out.no hk
        have HF : Hid (Fr No w (wk36) [(gk1, 26, Bv.cells ⟨bu, ⟨ba, bn, bc⟩, ⟨la, ln, lc⟩⟩), (gk11, 26, Bv.cells ⟨bu, ⟨va, vn, vc⟩, ⟨ua, un, uc⟩⟩), (gk14, 31, Cm.cells ⟨4, 3, 9, ⟨#[]⟩, 0, 0, 0, 0, 0⟩), (gk17, 31, Cm.cells ⟨1, 3, 9, ⟨#[111, 119, 110]⟩, 0, 0, 0, 0, 0⟩), (gk21, 26, Bv.cells ⟨bu + 1, ⟨xa11, xn11, xc11⟩, ⟨xa12, xn12, xc12⟩⟩), (gk23, 36, Av.cells ⟨0, enZ, ⟨xa13, xn13, xc13⟩⟩), (gk28, 26, Bv.cells ⟨R1.1.up, ⟨xa21, xn21, xc21⟩, ⟨xa22, xn22, xc22⟩⟩), (gk30, 36, Av.cells ⟨R1.2.er, R1.2.e, ⟨xa23, xn23, xc23⟩⟩), (gk34, 31, (cmR [⟨4, 3, 9, ⟨#[]⟩, 0, 0, 0, 0, 0⟩, ⟨1, 3, 9, ⟨#[111, 119, 110]⟩, 0, 0, 0, 0, 0⟩, ⟨4, 3, 9, ⟨#[]⟩, 0, 0, 0, 0, 0⟩, ⟨4, 3, 9, ⟨#[]⟩, 0, 0, 0, 0, 0⟩]).toArray)]) := HF.out.no hk
        have HX316 : Hid (OwE wk36 wk35.heap.size ⟨za, zn, zc⟩ E2) := hse
        have HX326 : Hid (OwL wk36 wk35.heap.size ⟨ya, yn, yc⟩ L2) := hsl
        have HV6 : Hid (OwA wk36 wk35.heap.size ⟨(some ⟨sb, 0, none⟩), 4, sk⟩ [⟨r0, e0, ⟨f0a, f0n, f0c⟩⟩, v1, ⟨r2, e2, ⟨f2a, f2n, f2c⟩⟩, ⟨r3, e3, ⟨f3a, f3n, f3c⟩⟩]) := ⟨has.own⟩
        have HX306 : Hid (OwE wk36 wk35.heap.size ⟨f0a, f0n, f0c⟩ bes) := h0
        have HX336 : Hid (OwE wk36 wk35.heap.size ⟨f2a, f2n, f2c⟩ E2) := h2
        have HX346 : Hid (OwE wk36 wk35.heap.size ⟨f3a, f3n, f3c⟩ E2) := h3
        clear hk
        generalize wk35.heap.size = t3 at hb_HX11_t3 hb_HX12_t3 hb_HX13_t3 hb_HX21_t3 hb_HX22_t3 hb_HX23_t3 hb_HKe_t3 hb_HLe_t3 hb_HAe_t3 hlo_t3 hw_t3 HX316 HX326 HV6 HX306 HX336 HX346
        have HK1 : Hid (Kept No wk36 wk36) := Kept.refl _ _
        obtain ⟨s1, hs1⟩ : ∃ n, wk36.heap.size = n := ⟨_, rfl⟩
        have HS1 : Hid (wk36.heap.size = s1) := hs1
        clear hs1
        clear hse hsl has hap3 h0 h2 h3
        refine ⟨.tuple #[.agg (Bv.cells ⟨zu, ⟨za, zn, zc⟩, ⟨ya, yn, yc⟩⟩), .slice (some ⟨sb, 0, none⟩) 4 sk, .int .i64 0], rfl, ?_⟩
        try simp only [pA, pB, p1, p2, p3]
        refine tK (.tuple #[.agg (Bv.cells ⟨zu, ⟨za, zn, zc⟩, ⟨ya, yn, yc⟩⟩), .slice (some ⟨sb, 0, none⟩) 4 sk, .int .i64 0]) ?_
        try simp only [pA, pB, p1, p2, p3]
        refine tK (.agg (Bv.cells ⟨zu, ⟨za, zn, zc⟩, ⟨ya, yn, yc⟩⟩)) ?_
        try simp only [pA, pB, p1, p2, p3]
        refine tK (.slice (some ⟨sb, 0, none⟩) 4 sk) ?_
        try simp only [pA, pB, p1, p2, p3]
        refine tK (.int .i64 0) ?_
        try simp only [pA, pB, p1, p2, p3]
        refine wp_runW (.pointer (some ⟨wk36.heap.size, 0, none⟩)) (wk36.alloc (.cells (Bv.cells bvZ) 26)) (exec_alloc 26 rfl (Bv.cells bvZ) zero25) (by kernel_rfl) ?_
        try simp only [pA, pB, p1, p2, p3]
        have hx0_gk37 : s0 ≤ wk36.heap.size := by rw [← HS0.out]; exact HK0.out.size
        have hx1_gk37 : s1 ≤ wk36.heap.size := by rw [← HS1.out]; exact HK1.out.size
        have HK0 : Hid (Kept No wk33 (wk36.alloc (.cells (Bv.cells bvZ) 26))) := HK0.out.no ((Kept.refl No _).alloc _)
        have HK1 : Hid (Kept No wk36 (wk36.alloc (.cells (Bv.cells bvZ) 26))) := HK1.out.no ((Kept.refl No _).alloc _)
        have HF : Hid (Fr No w (wk36.alloc (.cells (Bv.cells bvZ) 26)) [(gk1, 26, Bv.cells ⟨bu, ⟨ba, bn, bc⟩, ⟨la, ln, lc⟩⟩), (gk11, 26, Bv.cells ⟨bu, ⟨va, vn, vc⟩, ⟨ua, un, uc⟩⟩), (gk14, 31, Cm.cells ⟨4, 3, 9, ⟨#[]⟩, 0, 0, 0, 0, 0⟩), (gk17, 31, Cm.cells ⟨1, 3, 9, ⟨#[111, 119, 110]⟩, 0, 0, 0, 0, 0⟩), (gk21, 26, Bv.cells ⟨bu + 1, ⟨xa11, xn11, xc11⟩, ⟨xa12, xn12, xc12⟩⟩), (gk23, 36, Av.cells ⟨0, enZ, ⟨xa13, xn13, xc13⟩⟩), (gk28, 26, Bv.cells ⟨R1.1.up, ⟨xa21, xn21, xc21⟩, ⟨xa22, xn22, xc22⟩⟩), (gk30, 36, Av.cells ⟨R1.2.er, R1.2.e, ⟨xa23, xn23, xc23⟩⟩), (gk34, 31, (cmR [⟨4, 3, 9, ⟨#[]⟩, 0, 0, 0, 0, 0⟩, ⟨1, 3, 9, ⟨#[111, 119, 110]⟩, 0, 0, 0, 0, 0⟩, ⟨4, 3, 9, ⟨#[]⟩, 0, 0, 0, 0, 0⟩, ⟨4, 3, 9, ⟨#[]⟩, 0, 0, 0, 0, 0⟩]).toArray), (wk36.heap.size, 26, Bv.cells bvZ)]) := HF.out.alloc _ _
        generalize wk36.alloc (.cells (Bv.cells bvZ) 26) = wk38 at HF HK0 HK1 ⊢
        generalize wk36.heap.size = gk37 at HF hx0_gk37 hx1_gk37 ⊢
        refine wp_storeW 26 _ _ rfl ⟨gk37, 0, none⟩ (.agg (Bv.cells ⟨zu, ⟨za, zn, zc⟩, ⟨ya, yn, yc⟩⟩)) (by kernel_rfl) (by kernel_rfl) (wk38.setRow gk37 (Bv.cells ⟨zu, ⟨za, zn, zc⟩, ⟨ya, yn, yc⟩⟩)) (run_store_to (cur := Bv.cs bvZ) (vs := Bv.cs ⟨zu, ⟨za, zn, zc⟩, ⟨ya, yn, yc⟩⟩) (new := Bv.cs ⟨zu, ⟨za, zn, zc⟩, ⟨ya, yn, yc⟩⟩) (HF.out.box 9 _ _ _ rfl) (by kernel_rfl) Try.size25 (Nat.le_of_ble_eq_true (by kernel_rfl)) (Bv.oneL _) (by kernel_rfl)) (by kernel_rfl) ?_
        try simp only [pA, pB, p1, p2, p3]
        have HK0 : Hid (Kept No wk33 (wk38.setRow gk37 (Bv.cells ⟨zu, ⟨za, zn, zc⟩, ⟨ya, yn, yc⟩⟩))) := HK0.out.newRow (by rw [HS0.out]; exact hx0_gk37) _
        have HK1 : Hid (Kept No wk36 (wk38.setRow gk37 (Bv.cells ⟨zu, ⟨za, zn, zc⟩, ⟨ya, yn, yc⟩⟩))) := HK1.out.newRow (by rw [HS1.out]; exact hx1_gk37) _
        have HF : Hid (Fr No w (wk38.setRow gk37 (Bv.cells ⟨zu, ⟨za, zn, zc⟩, ⟨ya, yn, yc⟩⟩)) [(gk1, 26, Bv.cells ⟨bu, ⟨ba, bn, bc⟩, ⟨la, ln, lc⟩⟩), (gk11, 26, Bv.cells ⟨bu, ⟨va, vn, vc⟩, ⟨ua, un, uc⟩⟩), (gk14, 31, Cm.cells ⟨4, 3, 9, ⟨#[]⟩, 0, 0, 0, 0, 0⟩), (gk17, 31, Cm.cells ⟨1, 3, 9, ⟨#[111, 119, 110]⟩, 0, 0, 0, 0, 0⟩), (gk21, 26, Bv.cells ⟨bu + 1, ⟨xa11, xn11, xc11⟩, ⟨xa12, xn12, xc12⟩⟩), (gk23, 36, Av.cells ⟨0, enZ, ⟨xa13, xn13, xc13⟩⟩), (gk28, 26, Bv.cells ⟨R1.1.up, ⟨xa21, xn21, xc21⟩, ⟨xa22, xn22, xc22⟩⟩), (gk30, 36, Av.cells ⟨R1.2.er, R1.2.e, ⟨xa23, xn23, xc23⟩⟩), (gk34, 31, (cmR [⟨4, 3, 9, ⟨#[]⟩, 0, 0, 0, 0, 0⟩, ⟨1, 3, 9, ⟨#[111, 119, 110]⟩, 0, 0, 0, 0, 0⟩, ⟨4, 3, 9, ⟨#[]⟩, 0, 0, 0, 0, 0⟩, ⟨4, 3, 9, ⟨#[]⟩, 0, 0, 0, 0, 0⟩]).toArray), (gk37, 26, Bv.cells ⟨zu, ⟨za, zn, zc⟩, ⟨ya, yn, yc⟩⟩)]) := HF.out.set 9 rfl _
        generalize wk38.setRow gk37 (Bv.cells ⟨zu, ⟨za, zn, zc⟩, ⟨ya, yn, yc⟩⟩) = wk39 at HF HK0 HK1 ⊢
        refine tK (.slice (some ⟨sb, 0, none⟩) 4 sk) ?_
        try simp only [pA, pB, p1, p2, p3]
        refine tK (.int .i64 0) ?_
        try simp only [pA, pB, p1, p2, p3]
        refine WL.nil ?_
        try simp only [pA, pB, p1, p2, p3]
        have HKr : Hid (Gx.Rw Gx.DE wk39 w.heap.size ka kc K) := HKrs.out.no HK0.out
        have HKe : Hid (Gx.ErX Gx.DE wk39 lo K) := HKes.out.no HK0.out
        have HLr : Hid (Gx.Rw Gx.DL wk39 w.heap.size pa pc L) := HLrs.out.no HK0.out
        have HLe : Hid (Gx.ErX Gx.DL wk39 lo L) := HLes.out.no HK0.out
        have HAr : Hid (Gx.Rw Gx.DA wk39 w.heap.size aa ac A) := HArs.out.no HK0.out
        have HAe : Hid (Gx.ErX Gx.DA wk39 lo A) := HAes.out.no HK0.out
        have HSz : Hid (SzL lo wk39) := HSzs.out.no HK0.out
        have HBE : Hid (OwE wk39 w.heap.size ⟨ba, bn, bc⟩ bes) := HBEs.out.no HK0.out
        have HBL : Hid (OwL wk39 w.heap.size ⟨la, ln, lc⟩ bls) := HBLs.out.no HK0.out
        have HWE : Hid (OwE wk39 w.heap.size ⟨va, vn, vc⟩ bes) := HWEs.out.no HK0.out
        have HWL : Hid (OwL wk39 w.heap.size ⟨ua, un, uc⟩ bls) := HWLs.out.no HK0.out
        have HX11 : Hid (OwE wk39 t1 ⟨xa11, xn11, xc11⟩ bes) := HX11s.out.no HK0.out
        have HX12 : Hid (OwL wk39 t1 ⟨xa12, xn12, xc12⟩ bls) := HX12s.out.no HK0.out
        have HX13 : Hid (OwE wk39 t1 ⟨xa13, xn13, xc13⟩ bes) := HX13s.out.no HK0.out
        have HX21 : Hid (OwE wk39 t2 ⟨xa21, xn21, xc21⟩ R1.1.es) := HX21s.out.no HK0.out
        have HX22 : Hid (OwL wk39 t2 ⟨xa22, xn22, xc22⟩ R1.1.ls) := HX22s.out.no HK0.out
        have HX23 : Hid (OwE wk39 t2 ⟨xa23, xn23, xc23⟩ R1.2.l) := HX23s.out.no HK0.out
        have HX31 : Hid (OwE wk39 t3 ⟨za, zn, zc⟩ E2) := HX316.out.no HK1.out
        have HX32 : Hid (OwL wk39 t3 ⟨ya, yn, yc⟩ L2) := HX326.out.no HK1.out
        have HV : Hid (OwA wk39 t3 ⟨(some ⟨sb, 0, none⟩), 4, sk⟩ [⟨r0, e0, ⟨f0a, f0n, f0c⟩⟩, v1, ⟨r2, e2, ⟨f2a, f2n, f2c⟩⟩, ⟨r3, e3, ⟨f3a, f3n, f3c⟩⟩]) := HV6.out.no HK1.out
        have HX30 : Hid (OwE wk39 t3 ⟨f0a, f0n, f0c⟩ bes) := HX306.out.no HK1.out
        have HX33 : Hid (OwE wk39 t3 ⟨f2a, f2n, f2c⟩ E2) := HX336.out.no HK1.out
        have HX34 : Hid (OwE wk39 t3 ⟨f3a, f3n, f3c⟩ E2) := HX346.out.no HK1.out
        clear HKrs HKes HLrs HLes HArs HAes HSzs HBEs HBLs HWEs HWLs HX11s HX12s HX13s HX21s HX22s HX23s HX316 HX326 HV6 HX306 HX336 HX346 HK1 HS1 HK0 HS0 hx0_gk34 hx0_gk37 hx1_gk37
        clear HREP
        have HKrs : Hid (Gx.Rw Gx.DE wk39 w.heap.size ka kc K) := HKr
        clear HKr
        have HKes : Hid (Gx.ErX Gx.DE wk39 lo K) := HKe
        clear HKe
        have HLrs : Hid (Gx.Rw Gx.DL wk39 w.heap.size pa pc L) := HLr
        clear HLr
        have HLes : Hid (Gx.ErX Gx.DL wk39 lo L) := HLe
        clear HLe
        have HArs : Hid (Gx.Rw Gx.DA wk39 w.heap.size aa ac A) := HAr
        clear HAr
        have HAes : Hid (Gx.ErX Gx.DA wk39 lo A) := HAe
        clear HAe
        have HSzs : Hid (SzL lo wk39) := HSz
        clear HSz
        have HBEs : Hid (OwE wk39 w.heap.size ⟨ba, bn, bc⟩ bes) := HBE
        clear HBE
        have HBLs : Hid (OwL wk39 w.heap.size ⟨la, ln, lc⟩ bls) := HBL
        clear HBL
        have HWEs : Hid (OwE wk39 w.heap.size ⟨va, vn, vc⟩ bes) := HWE
        clear HWE
        have HWLs : Hid (OwL wk39 w.heap.size ⟨ua, un, uc⟩ bls) := HWL
        clear HWL
        have HX11s : Hid (OwE wk39 t1 ⟨xa11, xn11, xc11⟩ bes) := HX11
        clear HX11
        have HX12s : Hid (OwL wk39 t1 ⟨xa12, xn12, xc12⟩ bls) := HX12
        clear HX12
        have HX13s : Hid (OwE wk39 t1 ⟨xa13, xn13, xc13⟩ bes) := HX13
        clear HX13
        have HX21s : Hid (OwE wk39 t2 ⟨xa21, xn21, xc21⟩ R1.1.es) := HX21
        clear HX21
        have HX22s : Hid (OwL wk39 t2 ⟨xa22, xn22, xc22⟩ R1.1.ls) := HX22
        clear HX22
        have HX23s : Hid (OwE wk39 t2 ⟨xa23, xn23, xc23⟩ R1.2.l) := HX23
        clear HX23
        have HX31s : Hid (OwE wk39 t3 ⟨za, zn, zc⟩ E2) := HX31
        clear HX31
        have HX32s : Hid (OwL wk39 t3 ⟨ya, yn, yc⟩ L2) := HX32
        clear HX32
        have HVs : Hid (OwA wk39 t3 ⟨(some ⟨sb, 0, none⟩), 4, sk⟩ [⟨r0, e0, ⟨f0a, f0n, f0c⟩⟩, v1, ⟨r2, e2, ⟨f2a, f2n, f2c⟩⟩, ⟨r3, e3, ⟨f3a, f3n, f3c⟩⟩]) := HV
        clear HV
        have HX30s : Hid (OwE wk39 t3 ⟨f0a, f0n, f0c⟩ bes) := HX30
        clear HX30
        have HX33s : Hid (OwE wk39 t3 ⟨f2a, f2n, f2c⟩ E2) := HX33
        clear HX33
        have HX34s : Hid (OwE wk39 t3 ⟨f3a, f3n, f3c⟩ E2) := HX34
        clear HX34
        have HK0 : Hid (Kept No wk39 wk39) := Kept.refl _ _
        obtain ⟨s0, hs0⟩ : ∃ n, wk39.heap.size = n := ⟨_, rfl⟩
        have HS0 : Hid (wk39.heap.size = s0) := hs0
        clear hs0
        go_upto_region 21 with fail
        refine WL.start ?_
        refine tW (.agg (Bv.cells ⟨bu, ⟨ba, bn, bc⟩, ⟨la, ln, lc⟩⟩)) (exec_load 26 _ rfl ⟨gk1, 0, none⟩ (by kernel_rfl) (.agg (Bv.cells ⟨bu, ⟨ba, bn, bc⟩, ⟨la, ln, lc⟩⟩)) (run_load_part (cs := Bv.cs ⟨bu, ⟨ba, bn, bc⟩, ⟨la, ln, lc⟩⟩) (sub := Bv.cs ⟨bu, ⟨ba, bn, bc⟩, ⟨la, ln, lc⟩⟩) (HF.out.box 0 _ _ _ rfl) (Part.all _) Try.und25 rfl Try.size25)) ?_
        try simp only [pA, pB, p1, p2, p3]
        refine tK (.int .i64 room) ?_
        try simp only [pA, pB, p1, p2, p3]
        refine wp_callW 10 #[.agg (Bv.cells ⟨bu, ⟨ba, bn, bc⟩, ⟨la, ln, lc⟩⟩), .int .i64 room, .slice none 0 0] (by kernel_rfl) _ (replay0 bu ba bn bc la ln lc bes bls room _ HFi.out (HBEs.out.no HK0.out).rd (HBLs.out.no HK0.out).rd) (by kernel_rfl) ?_
        have hb_HX11_t4 : ∀ k, At xa11 k → k < wk39.heap.size := fun k e => (HX11s.out.no HK0.out).own.lt e
        have hb_HX12_t4 : ∀ k, At xa12 k → k < wk39.heap.size := fun k e => (HX12s.out.no HK0.out).own.lt e
        have hb_HX13_t4 : ∀ k, At xa13 k → k < wk39.heap.size := fun k e => (HX13s.out.no HK0.out).own.lt e
        have hb_HX21_t4 : ∀ k, At xa21 k → k < wk39.heap.size := fun k e => (HX21s.out.no HK0.out).own.lt e
        have hb_HX22_t4 : ∀ k, At xa22 k → k < wk39.heap.size := fun k e => (HX22s.out.no HK0.out).own.lt e
        have hb_HX23_t4 : ∀ k, At xa23 k → k < wk39.heap.size := fun k e => (HX23s.out.no HK0.out).own.lt e
        have hb_HX31_t4 : ∀ k, At za k → k < wk39.heap.size := fun k e => (HX31s.out.no HK0.out).own.lt e
        have hb_HX32_t4 : ∀ k, At ya k → k < wk39.heap.size := fun k e => (HX32s.out.no HK0.out).own.lt e
        have hb_HX30_t4 : ∀ k, At f0a k → k < wk39.heap.size := fun k e => (HX30s.out.no HK0.out).own.lt e
        have hb_HX33_t4 : ∀ k, At f2a k → k < wk39.heap.size := fun k e => (HX33s.out.no HK0.out).own.lt e
        have hb_HX34_t4 : ∀ k, At f3a k → k < wk39.heap.size := fun k e => (HX34s.out.no HK0.out).own.lt e
        have hb_HV_t4 : ∀ k, At (some ⟨sb, 0, none⟩) k → k < wk39.heap.size := fun k e => (HVs.out.no HK0.out).own.lt e
        have hb_HKe_t4 : ∀ k, Gx.EB K k → k < wk39.heap.size := fun k e => ((HKes.out.no HK0.out).at e).2.1
        have hb_HLe_t4 : ∀ k, Gx.EB L k → k < wk39.heap.size := fun k e => ((HLes.out.no HK0.out).at e).2.1
        have hb_HAe_t4 : ∀ k, Gx.EB A k → k < wk39.heap.size := fun k e => ((HAes.out.no HK0.out).at e).2.1
        have hlo_t4 : lo ≤ wk39.heap.size := (HSzs.out.no HK0.out)
        have hw_t4 : w.heap.size ≤ wk39.heap.size := HF.out.kept.size
        rintro e9 wk40 ⟨⟨wu, ⟨wa, wn, wk⟩, ⟨oa, on0, ok0⟩⟩, ⟨na, nn, nk⟩, vs4, rfl, hwu, hse, hsl, has, hap4, hk⟩
        have hnn : 0 = nn := has.la
        subst hnn
        have hwu : bu = wu := hwu.symm
        subst hwu
        have HK0 : Hid (Kept No wk39 (wk40)) := HK0.out.no hk
        have HF : Hid (Fr No w (wk40) [(gk1, 26, Bv.cells ⟨bu, ⟨ba, bn, bc⟩, ⟨la, ln, lc⟩⟩), (gk11, 26, Bv.cells ⟨bu, ⟨va, vn, vc⟩, ⟨ua, un, uc⟩⟩), (gk14, 31, Cm.cells ⟨4, 3, 9, ⟨#[]⟩, 0, 0, 0, 0, 0⟩), (gk17, 31, Cm.cells ⟨1, 3, 9, ⟨#[111, 119, 110]⟩, 0, 0, 0, 0, 0⟩), (gk21, 26, Bv.cells ⟨bu + 1, ⟨xa11, xn11, xc11⟩, ⟨xa12, xn12, xc12⟩⟩), (gk23, 36, Av.cells ⟨0, enZ, ⟨xa13, xn13, xc13⟩⟩), (gk28, 26, Bv.cells ⟨R1.1.up, ⟨xa21, xn21, xc21⟩, ⟨xa22, xn22, xc22⟩⟩), (gk30, 36, Av.cells ⟨R1.2.er, R1.2.e, ⟨xa23, xn23, xc23⟩⟩), (gk34, 31, (cmR [⟨4, 3, 9, ⟨#[]⟩, 0, 0, 0, 0, 0⟩, ⟨1, 3, 9, ⟨#[111, 119, 110]⟩, 0, 0, 0, 0, 0⟩, ⟨4, 3, 9, ⟨#[]⟩, 0, 0, 0, 0, 0⟩, ⟨4, 3, 9, ⟨#[]⟩, 0, 0, 0, 0, 0⟩]).toArray), (gk37, 26, Bv.cells ⟨zu, ⟨za, zn, zc⟩, ⟨ya, yn, yc⟩⟩)]) := HF.out.no hk
        have HX416 : Hid (OwE wk40 wk39.heap.size ⟨wa, wn, wk⟩ bes) := hse
        have HX426 : Hid (OwL wk40 wk39.heap.size ⟨oa, on0, ok0⟩ bls) := hsl
        clear hk
        generalize wk39.heap.size = t4 at hb_HX11_t4 hb_HX12_t4 hb_HX13_t4 hb_HX21_t4 hb_HX22_t4 hb_HX23_t4 hb_HX31_t4 hb_HX32_t4 hb_HX30_t4 hb_HX33_t4 hb_HX34_t4 hb_HV_t4 hb_HKe_t4 hb_HLe_t4 hb_HAe_t4 hlo_t4 hw_t4 HX416 HX426
        have HK1 : Hid (Kept No wk40 wk40) := Kept.refl _ _
        obtain ⟨s1, hs1⟩ : ∃ n, wk40.heap.size = n := ⟨_, rfl⟩
        have HS1 : Hid (wk40.heap.size = s1) := hs1
        clear hs1
        clear hse hsl has hap4
        refine ⟨.tuple #[.agg (Bv.cells ⟨bu, ⟨wa, wn, wk⟩, ⟨oa, on0, ok0⟩⟩), .slice na 0 nk, .int .i64 0], rfl, ?_⟩
        try simp only [pA, pB, p1, p2, p3]
        refine tK (.tuple #[.agg (Bv.cells ⟨bu, ⟨wa, wn, wk⟩, ⟨oa, on0, ok0⟩⟩), .slice na 0 nk, .int .i64 0]) ?_
        try simp only [pA, pB, p1, p2, p3]
        refine tK (.agg (Bv.cells ⟨bu, ⟨wa, wn, wk⟩, ⟨oa, on0, ok0⟩⟩)) ?_
        try simp only [pA, pB, p1, p2, p3]
        refine tK (.slice na 0 nk) ?_
        try simp only [pA, pB, p1, p2, p3]
        refine tK (.int .i64 0) ?_
        try simp only [pA, pB, p1, p2, p3]
        refine wp_runW (.pointer (some ⟨wk40.heap.size, 0, none⟩)) (wk40.alloc (.cells (Bv.cells bvZ) 26)) (exec_alloc 26 rfl (Bv.cells bvZ) zero25) (by kernel_rfl) ?_
        try simp only [pA, pB, p1, p2, p3]
        have hx0_gk41 : s0 ≤ wk40.heap.size := by rw [← HS0.out]; exact HK0.out.size
        have hx1_gk41 : s1 ≤ wk40.heap.size := by rw [← HS1.out]; exact HK1.out.size
        have HK0 : Hid (Kept No wk39 (wk40.alloc (.cells (Bv.cells bvZ) 26))) := HK0.out.no ((Kept.refl No _).alloc _)
        have HK1 : Hid (Kept No wk40 (wk40.alloc (.cells (Bv.cells bvZ) 26))) := HK1.out.no ((Kept.refl No _).alloc _)
        have HF : Hid (Fr No w (wk40.alloc (.cells (Bv.cells bvZ) 26)) [(gk1, 26, Bv.cells ⟨bu, ⟨ba, bn, bc⟩, ⟨la, ln, lc⟩⟩), (gk11, 26, Bv.cells ⟨bu, ⟨va, vn, vc⟩, ⟨ua, un, uc⟩⟩), (gk14, 31, Cm.cells ⟨4, 3, 9, ⟨#[]⟩, 0, 0, 0, 0, 0⟩), (gk17, 31, Cm.cells ⟨1, 3, 9, ⟨#[111, 119, 110]⟩, 0, 0, 0, 0, 0⟩), (gk21, 26, Bv.cells ⟨bu + 1, ⟨xa11, xn11, xc11⟩, ⟨xa12, xn12, xc12⟩⟩), (gk23, 36, Av.cells ⟨0, enZ, ⟨xa13, xn13, xc13⟩⟩), (gk28, 26, Bv.cells ⟨R1.1.up, ⟨xa21, xn21, xc21⟩, ⟨xa22, xn22, xc22⟩⟩), (gk30, 36, Av.cells ⟨R1.2.er, R1.2.e, ⟨xa23, xn23, xc23⟩⟩), (gk34, 31, (cmR [⟨4, 3, 9, ⟨#[]⟩, 0, 0, 0, 0, 0⟩, ⟨1, 3, 9, ⟨#[111, 119, 110]⟩, 0, 0, 0, 0, 0⟩, ⟨4, 3, 9, ⟨#[]⟩, 0, 0, 0, 0, 0⟩, ⟨4, 3, 9, ⟨#[]⟩, 0, 0, 0, 0, 0⟩]).toArray), (gk37, 26, Bv.cells ⟨zu, ⟨za, zn, zc⟩, ⟨ya, yn, yc⟩⟩), (wk40.heap.size, 26, Bv.cells bvZ)]) := HF.out.alloc _ _
        generalize wk40.alloc (.cells (Bv.cells bvZ) 26) = wk42 at HF HK0 HK1 ⊢
        generalize wk40.heap.size = gk41 at HF hx0_gk41 hx1_gk41 ⊢
        refine wp_storeW 26 _ _ rfl ⟨gk41, 0, none⟩ (.agg (Bv.cells ⟨bu, ⟨wa, wn, wk⟩, ⟨oa, on0, ok0⟩⟩)) (by kernel_rfl) (by kernel_rfl) (wk42.setRow gk41 (Bv.cells ⟨bu, ⟨wa, wn, wk⟩, ⟨oa, on0, ok0⟩⟩)) (run_store_to (cur := Bv.cs bvZ) (vs := Bv.cs ⟨bu, ⟨wa, wn, wk⟩, ⟨oa, on0, ok0⟩⟩) (new := Bv.cs ⟨bu, ⟨wa, wn, wk⟩, ⟨oa, on0, ok0⟩⟩) (HF.out.box 10 _ _ _ rfl) (by kernel_rfl) Try.size25 (Nat.le_of_ble_eq_true (by kernel_rfl)) (Bv.oneL _) (by kernel_rfl)) (by kernel_rfl) ?_
        try simp only [pA, pB, p1, p2, p3]
        have HK0 : Hid (Kept No wk39 (wk42.setRow gk41 (Bv.cells ⟨bu, ⟨wa, wn, wk⟩, ⟨oa, on0, ok0⟩⟩))) := HK0.out.newRow (by rw [HS0.out]; exact hx0_gk41) _
        have HK1 : Hid (Kept No wk40 (wk42.setRow gk41 (Bv.cells ⟨bu, ⟨wa, wn, wk⟩, ⟨oa, on0, ok0⟩⟩))) := HK1.out.newRow (by rw [HS1.out]; exact hx1_gk41) _
        have HF : Hid (Fr No w (wk42.setRow gk41 (Bv.cells ⟨bu, ⟨wa, wn, wk⟩, ⟨oa, on0, ok0⟩⟩)) [(gk1, 26, Bv.cells ⟨bu, ⟨ba, bn, bc⟩, ⟨la, ln, lc⟩⟩), (gk11, 26, Bv.cells ⟨bu, ⟨va, vn, vc⟩, ⟨ua, un, uc⟩⟩), (gk14, 31, Cm.cells ⟨4, 3, 9, ⟨#[]⟩, 0, 0, 0, 0, 0⟩), (gk17, 31, Cm.cells ⟨1, 3, 9, ⟨#[111, 119, 110]⟩, 0, 0, 0, 0, 0⟩), (gk21, 26, Bv.cells ⟨bu + 1, ⟨xa11, xn11, xc11⟩, ⟨xa12, xn12, xc12⟩⟩), (gk23, 36, Av.cells ⟨0, enZ, ⟨xa13, xn13, xc13⟩⟩), (gk28, 26, Bv.cells ⟨R1.1.up, ⟨xa21, xn21, xc21⟩, ⟨xa22, xn22, xc22⟩⟩), (gk30, 36, Av.cells ⟨R1.2.er, R1.2.e, ⟨xa23, xn23, xc23⟩⟩), (gk34, 31, (cmR [⟨4, 3, 9, ⟨#[]⟩, 0, 0, 0, 0, 0⟩, ⟨1, 3, 9, ⟨#[111, 119, 110]⟩, 0, 0, 0, 0, 0⟩, ⟨4, 3, 9, ⟨#[]⟩, 0, 0, 0, 0, 0⟩, ⟨4, 3, 9, ⟨#[]⟩, 0, 0, 0, 0, 0⟩]).toArray), (gk37, 26, Bv.cells ⟨zu, ⟨za, zn, zc⟩, ⟨ya, yn, yc⟩⟩), (gk41, 26, Bv.cells ⟨bu, ⟨wa, wn, wk⟩, ⟨oa, on0, ok0⟩⟩)]) := HF.out.set 10 rfl _
        generalize wk42.setRow gk41 (Bv.cells ⟨bu, ⟨wa, wn, wk⟩, ⟨oa, on0, ok0⟩⟩) = wk43 at HF HK0 HK1 ⊢
        refine tK (.slice na 0 nk) ?_
        try simp only [pA, pB, p1, p2, p3]
        refine tK (.int .i64 0) ?_
        try simp only [pA, pB, p1, p2, p3]
        refine WL.nil ?_
        try simp only [pA, pB, p1, p2, p3]
        have HKr : Hid (Gx.Rw Gx.DE wk43 w.heap.size ka kc K) := HKrs.out.no HK0.out
        have HKe : Hid (Gx.ErX Gx.DE wk43 lo K) := HKes.out.no HK0.out
        have HLr : Hid (Gx.Rw Gx.DL wk43 w.heap.size pa pc L) := HLrs.out.no HK0.out
        have HLe : Hid (Gx.ErX Gx.DL wk43 lo L) := HLes.out.no HK0.out
        have HAr : Hid (Gx.Rw Gx.DA wk43 w.heap.size aa ac A) := HArs.out.no HK0.out
        have HAe : Hid (Gx.ErX Gx.DA wk43 lo A) := HAes.out.no HK0.out
        have HSz : Hid (SzL lo wk43) := HSzs.out.no HK0.out
        have HBE : Hid (OwE wk43 w.heap.size ⟨ba, bn, bc⟩ bes) := HBEs.out.no HK0.out
        have HBL : Hid (OwL wk43 w.heap.size ⟨la, ln, lc⟩ bls) := HBLs.out.no HK0.out
        have HWE : Hid (OwE wk43 w.heap.size ⟨va, vn, vc⟩ bes) := HWEs.out.no HK0.out
        have HWL : Hid (OwL wk43 w.heap.size ⟨ua, un, uc⟩ bls) := HWLs.out.no HK0.out
        have HX11 : Hid (OwE wk43 t1 ⟨xa11, xn11, xc11⟩ bes) := HX11s.out.no HK0.out
        have HX12 : Hid (OwL wk43 t1 ⟨xa12, xn12, xc12⟩ bls) := HX12s.out.no HK0.out
        have HX13 : Hid (OwE wk43 t1 ⟨xa13, xn13, xc13⟩ bes) := HX13s.out.no HK0.out
        have HX21 : Hid (OwE wk43 t2 ⟨xa21, xn21, xc21⟩ R1.1.es) := HX21s.out.no HK0.out
        have HX22 : Hid (OwL wk43 t2 ⟨xa22, xn22, xc22⟩ R1.1.ls) := HX22s.out.no HK0.out
        have HX23 : Hid (OwE wk43 t2 ⟨xa23, xn23, xc23⟩ R1.2.l) := HX23s.out.no HK0.out
        have HX31 : Hid (OwE wk43 t3 ⟨za, zn, zc⟩ E2) := HX31s.out.no HK0.out
        have HX32 : Hid (OwL wk43 t3 ⟨ya, yn, yc⟩ L2) := HX32s.out.no HK0.out
        have HV : Hid (OwA wk43 t3 ⟨(some ⟨sb, 0, none⟩), 4, sk⟩ [⟨r0, e0, ⟨f0a, f0n, f0c⟩⟩, v1, ⟨r2, e2, ⟨f2a, f2n, f2c⟩⟩, ⟨r3, e3, ⟨f3a, f3n, f3c⟩⟩]) := HVs.out.no HK0.out
        have HX30 : Hid (OwE wk43 t3 ⟨f0a, f0n, f0c⟩ bes) := HX30s.out.no HK0.out
        have HX33 : Hid (OwE wk43 t3 ⟨f2a, f2n, f2c⟩ E2) := HX33s.out.no HK0.out
        have HX34 : Hid (OwE wk43 t3 ⟨f3a, f3n, f3c⟩ E2) := HX34s.out.no HK0.out
        have HX41 : Hid (OwE wk43 t4 ⟨wa, wn, wk⟩ bes) := HX416.out.no HK1.out
        have HX42 : Hid (OwL wk43 t4 ⟨oa, on0, ok0⟩ bls) := HX426.out.no HK1.out
        clear HKrs HKes HLrs HLes HArs HAes HSzs HBEs HBLs HWEs HWLs HX11s HX12s HX13s HX21s HX22s HX23s HX31s HX32s HVs HX30s HX33s HX34s HX416 HX426 HK1 HS1 HK0 HS0 hx0_gk41 hx1_gk41
        have hx13 : xn13 ≤ 40 := by have h1 : bes.length = xn13 := HX13.out.len; omega
        have hwn : wn ≤ 40 := by have h1 : bes.length = wn := HX41.out.len; omega
        have hon : on0 ≤ 40 := by have h1 : bls.length = on0 := HX42.out.len; omega
        have hf2n : f2n ≤ 41 := by have h1 : E2.length = f2n := HX33.out.len; omega
        have HKrs : Hid (Gx.Rw Gx.DE wk43 w.heap.size ka kc K) := HKr
        clear HKr
        have HKes : Hid (Gx.ErX Gx.DE wk43 lo K) := HKe
        clear HKe
        have HLrs : Hid (Gx.Rw Gx.DL wk43 w.heap.size pa pc L) := HLr
        clear HLr
        have HLes : Hid (Gx.ErX Gx.DL wk43 lo L) := HLe
        clear HLe
        have HArs : Hid (Gx.Rw Gx.DA wk43 w.heap.size aa ac A) := HAr
        clear HAr
        have HAes : Hid (Gx.ErX Gx.DA wk43 lo A) := HAe
        clear HAe
        have HSzs : Hid (SzL lo wk43) := HSz
        clear HSz
        have HBEs : Hid (OwE wk43 w.heap.size ⟨ba, bn, bc⟩ bes) := HBE
        clear HBE
        have HBLs : Hid (OwL wk43 w.heap.size ⟨la, ln, lc⟩ bls) := HBL
        clear HBL
        have HWEs : Hid (OwE wk43 w.heap.size ⟨va, vn, vc⟩ bes) := HWE
        clear HWE
        have HWLs : Hid (OwL wk43 w.heap.size ⟨ua, un, uc⟩ bls) := HWL
        clear HWL
        have HX11s : Hid (OwE wk43 t1 ⟨xa11, xn11, xc11⟩ bes) := HX11
        clear HX11
        have HX12s : Hid (OwL wk43 t1 ⟨xa12, xn12, xc12⟩ bls) := HX12
        clear HX12
        have HX13s : Hid (OwE wk43 t1 ⟨xa13, xn13, xc13⟩ bes) := HX13
        clear HX13
        have HX21s : Hid (OwE wk43 t2 ⟨xa21, xn21, xc21⟩ R1.1.es) := HX21
        clear HX21
        have HX22s : Hid (OwL wk43 t2 ⟨xa22, xn22, xc22⟩ R1.1.ls) := HX22
        clear HX22
        have HX23s : Hid (OwE wk43 t2 ⟨xa23, xn23, xc23⟩ R1.2.l) := HX23
        clear HX23
        have HX31s : Hid (OwE wk43 t3 ⟨za, zn, zc⟩ E2) := HX31
        clear HX31
        have HX32s : Hid (OwL wk43 t3 ⟨ya, yn, yc⟩ L2) := HX32
        clear HX32
        have HVs : Hid (OwA wk43 t3 ⟨(some ⟨sb, 0, none⟩), 4, sk⟩ [⟨r0, e0, ⟨f0a, f0n, f0c⟩⟩, v1, ⟨r2, e2, ⟨f2a, f2n, f2c⟩⟩, ⟨r3, e3, ⟨f3a, f3n, f3c⟩⟩]) := HV
        clear HV
        have HX30s : Hid (OwE wk43 t3 ⟨f0a, f0n, f0c⟩ bes) := HX30
        clear HX30
        have HX33s : Hid (OwE wk43 t3 ⟨f2a, f2n, f2c⟩ E2) := HX33
        clear HX33
        have HX34s : Hid (OwE wk43 t3 ⟨f3a, f3n, f3c⟩ E2) := HX34
        clear HX34
        have HX41s : Hid (OwE wk43 t4 ⟨wa, wn, wk⟩ bes) := HX41
        clear HX41
        have HX42s : Hid (OwL wk43 t4 ⟨oa, on0, ok0⟩ bls) := HX42
        clear HX42
        have HK0 : Hid (Kept No wk43 wk43) := Kept.refl _ _
        obtain ⟨s0, hs0⟩ : ∃ n, wk43.heap.size = n := ⟨_, rfl⟩
        have HS0 : Hid (wk43.heap.size = s0) := hs0
        clear hs0
        go_upto_region 22 with fail
        refine wp_region_held_drew (S := fun w' => Fr No w w' [(gk1, 26, Bv.cells ⟨bu, ⟨ba, bn, bc⟩, ⟨la, ln, lc⟩⟩), (gk11, 26, Bv.cells ⟨bu, ⟨va, vn, vc⟩, ⟨ua, un, uc⟩⟩), (gk14, 31, Cm.cells ⟨4, 3, 9, ⟨#[]⟩, 0, 0, 0, 0, 0⟩), (gk17, 31, Cm.cells ⟨1, 3, 9, ⟨#[111, 119, 110]⟩, 0, 0, 0, 0, 0⟩), (gk21, 26, Bv.cells ⟨bu + 1, ⟨xa11, xn11, xc11⟩, ⟨xa12, xn12, xc12⟩⟩), (gk23, 36, Av.cells ⟨0, enZ, ⟨xa13, xn13, xc13⟩⟩), (gk28, 26, Bv.cells ⟨R1.1.up, ⟨xa21, xn21, xc21⟩, ⟨xa22, xn22, xc22⟩⟩), (gk30, 36, Av.cells ⟨R1.2.er, R1.2.e, ⟨xa23, xn23, xc23⟩⟩), (gk34, 31, (cmR [⟨4, 3, 9, ⟨#[]⟩, 0, 0, 0, 0, 0⟩, ⟨1, 3, 9, ⟨#[111, 119, 110]⟩, 0, 0, 0, 0, 0⟩, ⟨4, 3, 9, ⟨#[]⟩, 0, 0, 0, 0, 0⟩, ⟨4, 3, 9, ⟨#[]⟩, 0, 0, 0, 0, 0⟩]).toArray), (gk37, 26, Bv.cells ⟨zu, ⟨za, zn, zc⟩, ⟨ya, yn, yc⟩⟩), (gk41, 26, Bv.cells ⟨bu, ⟨wa, wn, wk⟩, ⟨oa, on0, ok0⟩⟩)] ∧ OwA w' t3 ⟨(some ⟨sb, 0, none⟩), 4, sk⟩ [⟨r0, e0, ⟨f0a, f0n, f0c⟩⟩, v1, ⟨r2, e2, ⟨f2a, f2n, f2c⟩⟩, ⟨r3, e3, ⟨f3a, f3n, f3c⟩⟩]) rfl ⟨HF.out.drew, HVs.out.no (Kept.refl No _).drew⟩ (fun hH => ?_)
        have HK0 : Hid (Kept No wk43 (wk43.drew)) := HK0.out.no (Kept.refl No _).drew
        have HF : Hid (Fr No w (wk43.drew) [(gk1, 26, Bv.cells ⟨bu, ⟨ba, bn, bc⟩, ⟨la, ln, lc⟩⟩), (gk11, 26, Bv.cells ⟨bu, ⟨va, vn, vc⟩, ⟨ua, un, uc⟩⟩), (gk14, 31, Cm.cells ⟨4, 3, 9, ⟨#[]⟩, 0, 0, 0, 0, 0⟩), (gk17, 31, Cm.cells ⟨1, 3, 9, ⟨#[111, 119, 110]⟩, 0, 0, 0, 0, 0⟩), (gk21, 26, Bv.cells ⟨bu + 1, ⟨xa11, xn11, xc11⟩, ⟨xa12, xn12, xc12⟩⟩), (gk23, 36, Av.cells ⟨0, enZ, ⟨xa13, xn13, xc13⟩⟩), (gk28, 26, Bv.cells ⟨R1.1.up, ⟨xa21, xn21, xc21⟩, ⟨xa22, xn22, xc22⟩⟩), (gk30, 36, Av.cells ⟨R1.2.er, R1.2.e, ⟨xa23, xn23, xc23⟩⟩), (gk34, 31, (cmR [⟨4, 3, 9, ⟨#[]⟩, 0, 0, 0, 0, 0⟩, ⟨1, 3, 9, ⟨#[111, 119, 110]⟩, 0, 0, 0, 0, 0⟩, ⟨4, 3, 9, ⟨#[]⟩, 0, 0, 0, 0, 0⟩, ⟨4, 3, 9, ⟨#[]⟩, 0, 0, 0, 0, 0⟩]).toArray), (gk37, 26, Bv.cells ⟨zu, ⟨za, zn, zc⟩, ⟨ya, yn, yc⟩⟩), (gk41, 26, Bv.cells ⟨bu, ⟨wa, wn, wk⟩, ⟨oa, on0, ok0⟩⟩)]) := HF.out.drew
        generalize wk43.drew = wk44 at HF HK0 hH ⊢
        refine aT (i := 0) (oi := { dst := some 102, op := Op.move (Operand.tmp 21), type := 45, pos := "own.go:125", after := #[], guard := none }) (v := .slice (some ⟨sb, 0, none⟩) 4 sk) (fun _ _ => by kernel_rfl) hH ?_
        try simp only [pA, pB, p1, p2, p3]
        refine aT (i := 1) (oi := { dst := some 103, op := Op.call { callee := Callee.builtin Builtin.len, args := #[Operand.tmp 102], argTypes := #[45] }, type := 3, pos := "own.go:125", after := #[{ on := 0, ground := Ground.data }], guard := none }) (v := .int .i64 ((4 : Nat) : Int)) (fun _ _ => by kernel_rfl) hH ?_
        try simp only [pA, pB, p1, p2, p3]
        refine aT (i := 2) (oi := { dst := some 104, op := Op.binOp BinOp.neq 3 (Operand.tmp 103) (Operand.const (Value.int IntKind.i64 4)) 3, type := 4, pos := "own.go:125", after := #[{ on := 1, ground := Ground.data }], guard := none }) (v := .bool false) (fun w' hw => exec_bin .neq 3 _ _ _ rfl (.int .i64 ((4 : Nat) : Int)) (.int .i64 4) (.bool false) (by kernel_rfl) (by kernel_rfl) (by kernel_rfl) (by kernel_rfl)) hH ?_
        try simp only [pA, pB, p1, p2, p3]
        refine aT (i := 3) (oi := { dst := some 105, op := Op.move (Operand.tmp 104), type := 4, pos := "own.go:125", after := #[{ on := 2, ground := Ground.data }], guard := none }) (v := .bool false) (fun _ _ => by kernel_rfl) hH ?_
        try simp only [pA, pB, p1, p2, p3]
        refine aT (i := 4) (oi := { dst := some 106, op := Op.move (Operand.tmp 24), type := 45, pos := "own.go:125", after := #[{ on := 3, ground := Ground.guard }], guard := some (3, false) }) (v := .slice na 0 nk) (fun _ _ => by kernel_rfl) hH ?_
        try simp only [pA, pB, p1, p2, p3]
        refine aT (i := 5) (oi := { dst := some 107, op := Op.call { callee := Callee.builtin Builtin.len, args := #[Operand.tmp 106], argTypes := #[45] }, type := 3, pos := "own.go:125", after := #[{ on := 4, ground := Ground.data }, { on := 3, ground := Ground.guard }], guard := some (3, false) }) (v := .int .i64 ((0 : Nat) : Int)) (fun _ _ => by kernel_rfl) hH ?_
        try simp only [pA, pB, p1, p2, p3]
        refine aT (i := 6) (oi := { dst := some 108, op := Op.binOp BinOp.neq 3 (Operand.tmp 107) (Operand.const (Value.int IntKind.i64 0)) 3, type := 4, pos := "own.go:125", after := #[{ on := 5, ground := Ground.data }, { on := 3, ground := Ground.guard }], guard := some (3, false) }) (v := .bool false) (fun w' hw => exec_bin .neq 3 _ _ _ rfl (.int .i64 ((0 : Nat) : Int)) (.int .i64 0) (.bool false) (by kernel_rfl) (by kernel_rfl) (by kernel_rfl) (by kernel_rfl)) hH ?_
        try simp only [pA, pB, p1, p2, p3]
        refine aT (i := 7) (oi := { dst := some 109, op := Op.pick (Operand.tmp 105) (Operand.const (Value.bool true)) (Operand.tmp 108), type := 4, pos := "own.go:125", after := #[{ on := 3, ground := Ground.data }, { on := 6, ground := Ground.data }], guard := none }) (v := .bool false) (fun _ _ => by kernel_rfl) hH ?_
        try simp only [pA, pB, p1, p2, p3]
        refine aT (i := 8) (oi := { dst := some 110, op := Op.move (Operand.tmp 109), type := 4, pos := "own.go:125", after := #[{ on := 7, ground := Ground.data }, { on := 3, ground := Ground.chain }], guard := none }) (v := .bool false) (fun _ _ => by kernel_rfl) hH ?_
        try simp only [pA, pB, p1, p2, p3]
        refine aT (i := 9) (oi := { dst := some 111, op := Op.load 26 (Operand.tmp 23), type := 26, pos := "own.go:125", after := #[{ on := 8, ground := Ground.guard }], guard := some (8, false) }) (v := .agg (Bv.cells ⟨bu, ⟨wa, wn, wk⟩, ⟨oa, on0, ok0⟩⟩)) (fun w' hw => exec_load 26 _ rfl ⟨gk41, 0, none⟩ (by kernel_rfl) (.agg (Bv.cells ⟨bu, ⟨wa, wn, wk⟩, ⟨oa, on0, ok0⟩⟩)) (run_load_part (cs := Bv.cs ⟨bu, ⟨wa, wn, wk⟩, ⟨oa, on0, ok0⟩⟩) (sub := Bv.cs ⟨bu, ⟨wa, wn, wk⟩, ⟨oa, on0, ok0⟩⟩) (hw.1.box 10 _ _ _ rfl) (Part.all _) Try.und25 rfl Try.size25)) hH ?_
        try simp only [pA, pB, p1, p2, p3]
        refine aT (i := 10) (oi := { dst := some 112, op := Op.load 26 (Operand.tmp 7), type := 26, pos := "own.go:125", after := #[{ on := 8, ground := Ground.guard }], guard := some (8, false) }) (v := .agg (Bv.cells ⟨bu, ⟨va, vn, vc⟩, ⟨ua, un, uc⟩⟩)) (fun w' hw => exec_load 26 _ rfl ⟨gk11, 0, none⟩ (by kernel_rfl) (.agg (Bv.cells ⟨bu, ⟨va, vn, vc⟩, ⟨ua, un, uc⟩⟩)) (run_load_part (cs := Bv.cs ⟨bu, ⟨va, vn, vc⟩, ⟨ua, un, uc⟩⟩) (sub := Bv.cs ⟨bu, ⟨va, vn, vc⟩, ⟨ua, un, uc⟩⟩) (hw.1.box 1 _ _ _ rfl) (Part.all _) Try.und25 rfl Try.size25)) hH ?_
        try simp only [pA, pB, p1, p2, p3]
        refine any_call (i := 11) (o := { dst := some 113, op := Op.call { callee := Callee.value (Operand.func 11), args := #[Operand.tmp 111, Operand.tmp 112], argTypes := #[26, 26] }, type := 4, pos := "own.go:125", after := #[{ on := 9, ground := Ground.data }, { on := 10, ground := Ground.data }, { on := 8, ground := Ground.chain }, { on := 8, ground := Ground.guard }], guard := some (8, false) }) rfl (by kernel_rfl) (by kernel_rfl) 11 #[.agg (Bv.cells ⟨bu, ⟨wa, wn, wk⟩, ⟨oa, on0, ok0⟩⟩), .agg (Bv.cells ⟨bu, ⟨va, vn, vc⟩, ⟨ua, un, uc⟩⟩)] (by kernel_rfl) _ (sameB_any bu wa wn wk oa on0 ok0 bu va vn vc ua un uc bes bes bls bls _ (HX41s.out.no HK0.out).rd (HWEs.out.no HK0.out).rd (HX42s.out.no HK0.out).rd (HWLs.out.no HK0.out).rd (by omega) (by omega)) ?_
        rintro e wk45 ⟨rfl, hk⟩
        have hH2 : Fr No w wk45 [(gk1, 26, Bv.cells ⟨bu, ⟨ba, bn, bc⟩, ⟨la, ln, lc⟩⟩), (gk11, 26, Bv.cells ⟨bu, ⟨va, vn, vc⟩, ⟨ua, un, uc⟩⟩), (gk14, 31, Cm.cells ⟨4, 3, 9, ⟨#[]⟩, 0, 0, 0, 0, 0⟩), (gk17, 31, Cm.cells ⟨1, 3, 9, ⟨#[111, 119, 110]⟩, 0, 0, 0, 0, 0⟩), (gk21, 26, Bv.cells ⟨bu + 1, ⟨xa11, xn11, xc11⟩, ⟨xa12, xn12, xc12⟩⟩), (gk23, 36, Av.cells ⟨0, enZ, ⟨xa13, xn13, xc13⟩⟩), (gk28, 26, Bv.cells ⟨R1.1.up, ⟨xa21, xn21, xc21⟩, ⟨xa22, xn22, xc22⟩⟩), (gk30, 36, Av.cells ⟨R1.2.er, R1.2.e, ⟨xa23, xn23, xc23⟩⟩), (gk34, 31, (cmR [⟨4, 3, 9, ⟨#[]⟩, 0, 0, 0, 0, 0⟩, ⟨1, 3, 9, ⟨#[111, 119, 110]⟩, 0, 0, 0, 0, 0⟩, ⟨4, 3, 9, ⟨#[]⟩, 0, 0, 0, 0, 0⟩, ⟨4, 3, 9, ⟨#[]⟩, 0, 0, 0, 0, 0⟩]).toArray), (gk37, 26, Bv.cells ⟨zu, ⟨za, zn, zc⟩, ⟨ya, yn, yc⟩⟩), (gk41, 26, Bv.cells ⟨bu, ⟨wa, wn, wk⟩, ⟨oa, on0, ok0⟩⟩)] ∧ OwA wk45 t3 ⟨(some ⟨sb, 0, none⟩), 4, sk⟩ [⟨r0, e0, ⟨f0a, f0n, f0c⟩⟩, v1, ⟨r2, e2, ⟨f2a, f2n, f2c⟩⟩, ⟨r3, e3, ⟨f3a, f3n, f3c⟩⟩] := ⟨hH.1.no hk, hH.2.no hk⟩
        have HK0 : Hid (Kept No wk43 (wk45)) := HK0.out.no hk
        have HF : Hid (Fr No w (wk45) [(gk1, 26, Bv.cells ⟨bu, ⟨ba, bn, bc⟩, ⟨la, ln, lc⟩⟩), (gk11, 26, Bv.cells ⟨bu, ⟨va, vn, vc⟩, ⟨ua, un, uc⟩⟩), (gk14, 31, Cm.cells ⟨4, 3, 9, ⟨#[]⟩, 0, 0, 0, 0, 0⟩), (gk17, 31, Cm.cells ⟨1, 3, 9, ⟨#[111, 119, 110]⟩, 0, 0, 0, 0, 0⟩), (gk21, 26, Bv.cells ⟨bu + 1, ⟨xa11, xn11, xc11⟩, ⟨xa12, xn12, xc12⟩⟩), (gk23, 36, Av.cells ⟨0, enZ, ⟨xa13, xn13, xc13⟩⟩), (gk28, 26, Bv.cells ⟨R1.1.up, ⟨xa21, xn21, xc21⟩, ⟨xa22, xn22, xc22⟩⟩), (gk30, 36, Av.cells ⟨R1.2.er, R1.2.e, ⟨xa23, xn23, xc23⟩⟩), (gk34, 31, (cmR [⟨4, 3, 9, ⟨#[]⟩, 0, 0, 0, 0, 0⟩, ⟨1, 3, 9, ⟨#[111, 119, 110]⟩, 0, 0, 0, 0, 0⟩, ⟨4, 3, 9, ⟨#[]⟩, 0, 0, 0, 0, 0⟩, ⟨4, 3, 9, ⟨#[]⟩, 0, 0, 0, 0, 0⟩]).toArray), (gk37, 26, Bv.cells ⟨zu, ⟨za, zn, zc⟩, ⟨ya, yn, yc⟩⟩), (gk41, 26, Bv.cells ⟨bu, ⟨wa, wn, wk⟩, ⟨oa, on0, ok0⟩⟩)]) := HF.out.no hk
        clear hk
        refine ⟨.bool true, by rw [sameB_refl], hH2, fun hH => ?_⟩
        clear hH2
        try simp only [pA, pB, p1, p2, p3]
        refine aT (i := 12) (oi := { dst := some 114, op := Op.unOp UnOp.not 4 (Operand.tmp 113), type := 4, pos := "own.go:125", after := #[{ on := 11, ground := Ground.data }, { on := 8, ground := Ground.guard }], guard := some (8, false) }) (v := .bool false) (fun _ _ => by kernel_rfl) hH ?_
        try simp only [pA, pB, p1, p2, p3]
        refine aT (i := 13) (oi := { dst := some 115, op := Op.pick (Operand.tmp 110) (Operand.const (Value.bool true)) (Operand.tmp 114), type := 4, pos := "own.go:125", after := #[{ on := 8, ground := Ground.data }, { on := 12, ground := Ground.data }], guard := none }) (v := .bool false) (fun _ _ => by kernel_rfl) hH ?_
        try simp only [pA, pB, p1, p2, p3]
        refine aT (i := 14) (oi := { dst := some 116, op := Op.move (Operand.tmp 115), type := 4, pos := "own.go:125", after := #[{ on := 13, ground := Ground.data }, { on := 11, ground := Ground.chain }], guard := none }) (v := .bool false) (fun _ _ => by kernel_rfl) hH ?_
        try simp only [pA, pB, p1, p2, p3]
        refine aT (i := 15) (oi := { dst := some 117, op := Op.fieldAddr 36 (Operand.tmp 15) 2, type := 0, pos := "own.go:125", after := #[{ on := 14, ground := Ground.guard }], guard := some (14, false) }) (v := .pointer (some ⟨gk23, 5, none⟩)) (fun _ _ => by kernel_rfl) hH ?_
        try simp only [pA, pB, p1, p2, p3]
        refine aT (i := 16) (oi := { dst := some 118, op := Op.load 23 (Operand.tmp 117), type := 23, pos := "own.go:125", after := #[{ on := 15, ground := Ground.data }, { on := 14, ground := Ground.guard }], guard := some (14, false) }) (v := .slice xa13 xn13 xc13) (fun w' hw => exec_load 23 _ rfl ⟨gk23, 5, none⟩ (by kernel_rfl) (.slice xa13 xn13 xc13) (load_one ((hw.1.box 5 _ _ _ rfl).cell 5 |>.trans (by kernel_rfl)) Try.und22 rfl)) hH ?_
        try simp only [pA, pB, p1, p2, p3]
        refine aT (i := 17) (oi := { dst := some 119, op := Op.fieldAddr 26 (Operand.tmp 7) 1, type := 0, pos := "own.go:125", after := #[{ on := 14, ground := Ground.guard }], guard := some (14, false) }) (v := .pointer (some ⟨gk11, 1, none⟩)) (fun _ _ => by kernel_rfl) hH ?_
        try simp only [pA, pB, p1, p2, p3]
        refine aT (i := 18) (oi := { dst := some 120, op := Op.load 23 (Operand.tmp 119), type := 23, pos := "own.go:125", after := #[{ on := 17, ground := Ground.data }, { on := 14, ground := Ground.guard }], guard := some (14, false) }) (v := .slice va vn vc) (fun w' hw => exec_load 23 _ rfl ⟨gk11, 1, none⟩ (by kernel_rfl) (.slice va vn vc) (load_one ((hw.1.box 1 _ _ _ rfl).cell 1 |>.trans (by kernel_rfl)) Try.und22 rfl)) hH ?_
        try simp only [pA, pB, p1, p2, p3]
        refine any_call (i := 19) (o := { dst := some 121, op := Op.call { callee := Callee.value (Operand.func 12), args := #[Operand.tmp 118, Operand.tmp 120], argTypes := #[23, 23] }, type := 4, pos := "own.go:125", after := #[{ on := 16, ground := Ground.data }, { on := 18, ground := Ground.data }, { on := 14, ground := Ground.chain }, { on := 14, ground := Ground.guard }], guard := some (14, false) }) rfl (by kernel_rfl) (by kernel_rfl) 12 #[.slice xa13 xn13 xc13, .slice va vn vc] (by kernel_rfl) _ (sameE_any xa13 xn13 xc13 va vn vc bes bes _ (HX13s.out.no HK0.out).rd (HWEs.out.no HK0.out).rd (by omega)) ?_
        rintro e wk46 ⟨rfl, hk⟩
        have hH2 : Fr No w wk46 [(gk1, 26, Bv.cells ⟨bu, ⟨ba, bn, bc⟩, ⟨la, ln, lc⟩⟩), (gk11, 26, Bv.cells ⟨bu, ⟨va, vn, vc⟩, ⟨ua, un, uc⟩⟩), (gk14, 31, Cm.cells ⟨4, 3, 9, ⟨#[]⟩, 0, 0, 0, 0, 0⟩), (gk17, 31, Cm.cells ⟨1, 3, 9, ⟨#[111, 119, 110]⟩, 0, 0, 0, 0, 0⟩), (gk21, 26, Bv.cells ⟨bu + 1, ⟨xa11, xn11, xc11⟩, ⟨xa12, xn12, xc12⟩⟩), (gk23, 36, Av.cells ⟨0, enZ, ⟨xa13, xn13, xc13⟩⟩), (gk28, 26, Bv.cells ⟨R1.1.up, ⟨xa21, xn21, xc21⟩, ⟨xa22, xn22, xc22⟩⟩), (gk30, 36, Av.cells ⟨R1.2.er, R1.2.e, ⟨xa23, xn23, xc23⟩⟩), (gk34, 31, (cmR [⟨4, 3, 9, ⟨#[]⟩, 0, 0, 0, 0, 0⟩, ⟨1, 3, 9, ⟨#[111, 119, 110]⟩, 0, 0, 0, 0, 0⟩, ⟨4, 3, 9, ⟨#[]⟩, 0, 0, 0, 0, 0⟩, ⟨4, 3, 9, ⟨#[]⟩, 0, 0, 0, 0, 0⟩]).toArray), (gk37, 26, Bv.cells ⟨zu, ⟨za, zn, zc⟩, ⟨ya, yn, yc⟩⟩), (gk41, 26, Bv.cells ⟨bu, ⟨wa, wn, wk⟩, ⟨oa, on0, ok0⟩⟩)] ∧ OwA wk46 t3 ⟨(some ⟨sb, 0, none⟩), 4, sk⟩ [⟨r0, e0, ⟨f0a, f0n, f0c⟩⟩, v1, ⟨r2, e2, ⟨f2a, f2n, f2c⟩⟩, ⟨r3, e3, ⟨f3a, f3n, f3c⟩⟩] := ⟨hH.1.no hk, hH.2.no hk⟩
        have HK0 : Hid (Kept No wk43 (wk46)) := HK0.out.no hk
        have HF : Hid (Fr No w (wk46) [(gk1, 26, Bv.cells ⟨bu, ⟨ba, bn, bc⟩, ⟨la, ln, lc⟩⟩), (gk11, 26, Bv.cells ⟨bu, ⟨va, vn, vc⟩, ⟨ua, un, uc⟩⟩), (gk14, 31, Cm.cells ⟨4, 3, 9, ⟨#[]⟩, 0, 0, 0, 0, 0⟩), (gk17, 31, Cm.cells ⟨1, 3, 9, ⟨#[111, 119, 110]⟩, 0, 0, 0, 0, 0⟩), (gk21, 26, Bv.cells ⟨bu + 1, ⟨xa11, xn11, xc11⟩, ⟨xa12, xn12, xc12⟩⟩), (gk23, 36, Av.cells ⟨0, enZ, ⟨xa13, xn13, xc13⟩⟩), (gk28, 26, Bv.cells ⟨R1.1.up, ⟨xa21, xn21, xc21⟩, ⟨xa22, xn22, xc22⟩⟩), (gk30, 36, Av.cells ⟨R1.2.er, R1.2.e, ⟨xa23, xn23, xc23⟩⟩), (gk34, 31, (cmR [⟨4, 3, 9, ⟨#[]⟩, 0, 0, 0, 0, 0⟩, ⟨1, 3, 9, ⟨#[111, 119, 110]⟩, 0, 0, 0, 0, 0⟩, ⟨4, 3, 9, ⟨#[]⟩, 0, 0, 0, 0, 0⟩, ⟨4, 3, 9, ⟨#[]⟩, 0, 0, 0, 0, 0⟩]).toArray), (gk37, 26, Bv.cells ⟨zu, ⟨za, zn, zc⟩, ⟨ya, yn, yc⟩⟩), (gk41, 26, Bv.cells ⟨bu, ⟨wa, wn, wk⟩, ⟨oa, on0, ok0⟩⟩)]) := HF.out.no hk
        clear hk
        refine ⟨.bool true, by rw [sameE_iff.2 rfl], hH2, fun hH => ?_⟩
        clear hH2
        try simp only [pA, pB, p1, p2, p3]
        refine aT (i := 20) (oi := { dst := some 122, op := Op.unOp UnOp.not 4 (Operand.tmp 121), type := 4, pos := "own.go:125", after := #[{ on := 19, ground := Ground.data }, { on := 14, ground := Ground.guard }], guard := some (14, false) }) (v := .bool false) (fun _ _ => by kernel_rfl) hH ?_
        try simp only [pA, pB, p1, p2, p3]
        refine aT (i := 21) (oi := { dst := some 123, op := Op.pick (Operand.tmp 116) (Operand.const (Value.bool true)) (Operand.tmp 122), type := 4, pos := "own.go:125", after := #[{ on := 14, ground := Ground.data }, { on := 20, ground := Ground.data }], guard := none }) (v := .bool false) (fun _ _ => by kernel_rfl) hH ?_
        try simp only [pA, pB, p1, p2, p3]
        refine aT (i := 22) (oi := { dst := some 124, op := Op.move (Operand.tmp 123), type := 4, pos := "own.go:125", after := #[{ on := 21, ground := Ground.data }, { on := 19, ground := Ground.chain }], guard := none }) (v := .bool false) (fun _ _ => by kernel_rfl) hH ?_
        try simp only [pA, pB, p1, p2, p3]
        refine aT (i := 23) (oi := { dst := some 125, op := Op.move (Operand.tmp 21), type := 45, pos := "own.go:125", after := #[{ on := 22, ground := Ground.guard }], guard := some (22, false) }) (v := .slice (some ⟨sb, 0, none⟩) 4 sk) (fun _ _ => by kernel_rfl) hH ?_
        try simp only [pA, pB, p1, p2, p3]
        refine aT (i := 24) (oi := { dst := some 126, op := Op.indexAddr 45 (Operand.tmp 125) (Operand.const (Value.int IntKind.i64 2)), type := 0, pos := "own.go:125", after := #[{ on := 23, ground := Ground.data }, { on := 22, ground := Ground.guard }], guard := some (22, false) }) (v := .pointer (some ⟨sb, 0 + 2 * 6, none⟩)) (fun w' hw => exec_ixA 45 6 Try.und45e Try.size45e _ _ rfl sb 0 4 sk 2 (by kernel_rfl) (by kernel_rfl) (by omega)) hH ?_
        try simp only [pA, pB, p1, p2, p3]
        refine aT (i := 25) (oi := { dst := some 127, op := Op.fieldAddr 36 (Operand.tmp 126) 2, type := 0, pos := "own.go:125", after := #[{ on := 24, ground := Ground.data }, { on := 22, ground := Ground.guard }], guard := some (22, false) }) (v := .pointer (some ⟨sb, 0 + 2 * 6 + 5, none⟩)) (fun _ _ => by kernel_rfl) hH ?_
        try simp only [pA, pB, p1, p2, p3]
        refine aT (i := 26) (oi := { dst := some 128, op := Op.load 23 (Operand.tmp 127), type := 23, pos := "own.go:125", after := #[{ on := 25, ground := Ground.data }, { on := 22, ground := Ground.guard }], guard := some (22, false) }) (v := .slice f2a f2n f2c) (fun w' hw => exec_load 23 _ rfl ⟨sb, 0 + 2 * 6 + 5, none⟩ (by kernel_rfl) (.slice f2a f2n f2c) (load_one (hw.2.cell (i := 2) rfl) Try.und22 rfl)) hH ?_
        try simp only [pA, pB, p1, p2, p3]
        refine aT (i := 27) (oi := { dst := some 129, op := Op.fieldAddr 26 (Operand.tmp 20) 1, type := 0, pos := "own.go:125", after := #[{ on := 22, ground := Ground.guard }], guard := some (22, false) }) (v := .pointer (some ⟨gk37, 1, none⟩)) (fun _ _ => by kernel_rfl) hH ?_
        try simp only [pA, pB, p1, p2, p3]
        refine aT (i := 28) (oi := { dst := some 130, op := Op.load 23 (Operand.tmp 129), type := 23, pos := "own.go:125", after := #[{ on := 27, ground := Ground.data }, { on := 22, ground := Ground.guard }], guard := some (22, false) }) (v := .slice za zn zc) (fun w' hw => exec_load 23 _ rfl ⟨gk37, 1, none⟩ (by kernel_rfl) (.slice za zn zc) (load_one ((hw.1.box 9 _ _ _ rfl).cell 1 |>.trans (by kernel_rfl)) Try.und22 rfl)) hH ?_
        try simp only [pA, pB, p1, p2, p3]
        refine any_call (i := 29) (o := { dst := some 131, op := Op.call { callee := Callee.value (Operand.func 12), args := #[Operand.tmp 128, Operand.tmp 130], argTypes := #[23, 23] }, type := 4, pos := "own.go:125", after := #[{ on := 26, ground := Ground.data }, { on := 28, ground := Ground.data }, { on := 22, ground := Ground.chain }, { on := 22, ground := Ground.guard }], guard := some (22, false) }) rfl (by kernel_rfl) (by kernel_rfl) 12 #[.slice f2a f2n f2c, .slice za zn zc] (by kernel_rfl) _ (sameE_any f2a f2n f2c za zn zc E2 E2 _ (HX33s.out.no HK0.out).rd (HX31s.out.no HK0.out).rd (by omega)) ?_
        rintro e wk47 ⟨rfl, hk⟩
        have hH2 : Fr No w wk47 [(gk1, 26, Bv.cells ⟨bu, ⟨ba, bn, bc⟩, ⟨la, ln, lc⟩⟩), (gk11, 26, Bv.cells ⟨bu, ⟨va, vn, vc⟩, ⟨ua, un, uc⟩⟩), (gk14, 31, Cm.cells ⟨4, 3, 9, ⟨#[]⟩, 0, 0, 0, 0, 0⟩), (gk17, 31, Cm.cells ⟨1, 3, 9, ⟨#[111, 119, 110]⟩, 0, 0, 0, 0, 0⟩), (gk21, 26, Bv.cells ⟨bu + 1, ⟨xa11, xn11, xc11⟩, ⟨xa12, xn12, xc12⟩⟩), (gk23, 36, Av.cells ⟨0, enZ, ⟨xa13, xn13, xc13⟩⟩), (gk28, 26, Bv.cells ⟨R1.1.up, ⟨xa21, xn21, xc21⟩, ⟨xa22, xn22, xc22⟩⟩), (gk30, 36, Av.cells ⟨R1.2.er, R1.2.e, ⟨xa23, xn23, xc23⟩⟩), (gk34, 31, (cmR [⟨4, 3, 9, ⟨#[]⟩, 0, 0, 0, 0, 0⟩, ⟨1, 3, 9, ⟨#[111, 119, 110]⟩, 0, 0, 0, 0, 0⟩, ⟨4, 3, 9, ⟨#[]⟩, 0, 0, 0, 0, 0⟩, ⟨4, 3, 9, ⟨#[]⟩, 0, 0, 0, 0, 0⟩]).toArray), (gk37, 26, Bv.cells ⟨zu, ⟨za, zn, zc⟩, ⟨ya, yn, yc⟩⟩), (gk41, 26, Bv.cells ⟨bu, ⟨wa, wn, wk⟩, ⟨oa, on0, ok0⟩⟩)] ∧ OwA wk47 t3 ⟨(some ⟨sb, 0, none⟩), 4, sk⟩ [⟨r0, e0, ⟨f0a, f0n, f0c⟩⟩, v1, ⟨r2, e2, ⟨f2a, f2n, f2c⟩⟩, ⟨r3, e3, ⟨f3a, f3n, f3c⟩⟩] := ⟨hH.1.no hk, hH.2.no hk⟩
        have HK0 : Hid (Kept No wk43 (wk47)) := HK0.out.no hk
        have HF : Hid (Fr No w (wk47) [(gk1, 26, Bv.cells ⟨bu, ⟨ba, bn, bc⟩, ⟨la, ln, lc⟩⟩), (gk11, 26, Bv.cells ⟨bu, ⟨va, vn, vc⟩, ⟨ua, un, uc⟩⟩), (gk14, 31, Cm.cells ⟨4, 3, 9, ⟨#[]⟩, 0, 0, 0, 0, 0⟩), (gk17, 31, Cm.cells ⟨1, 3, 9, ⟨#[111, 119, 110]⟩, 0, 0, 0, 0, 0⟩), (gk21, 26, Bv.cells ⟨bu + 1, ⟨xa11, xn11, xc11⟩, ⟨xa12, xn12, xc12⟩⟩), (gk23, 36, Av.cells ⟨0, enZ, ⟨xa13, xn13, xc13⟩⟩), (gk28, 26, Bv.cells ⟨R1.1.up, ⟨xa21, xn21, xc21⟩, ⟨xa22, xn22, xc22⟩⟩), (gk30, 36, Av.cells ⟨R1.2.er, R1.2.e, ⟨xa23, xn23, xc23⟩⟩), (gk34, 31, (cmR [⟨4, 3, 9, ⟨#[]⟩, 0, 0, 0, 0, 0⟩, ⟨1, 3, 9, ⟨#[111, 119, 110]⟩, 0, 0, 0, 0, 0⟩, ⟨4, 3, 9, ⟨#[]⟩, 0, 0, 0, 0, 0⟩, ⟨4, 3, 9, ⟨#[]⟩, 0, 0, 0, 0, 0⟩]).toArray), (gk37, 26, Bv.cells ⟨zu, ⟨za, zn, zc⟩, ⟨ya, yn, yc⟩⟩), (gk41, 26, Bv.cells ⟨bu, ⟨wa, wn, wk⟩, ⟨oa, on0, ok0⟩⟩)]) := HF.out.no hk
        clear hk
        refine ⟨.bool true, by rw [sameE_iff.2 rfl], hH2, fun hH => ?_⟩
        clear hH2
        try simp only [pA, pB, p1, p2, p3]
        refine aT (i := 30) (oi := { dst := some 132, op := Op.unOp UnOp.not 4 (Operand.tmp 131), type := 4, pos := "own.go:125", after := #[{ on := 29, ground := Ground.data }, { on := 22, ground := Ground.guard }], guard := some (22, false) }) (v := .bool false) (fun _ _ => by kernel_rfl) hH ?_
        try simp only [pA, pB, p1, p2, p3]
        refine aT (i := 31) (oi := { dst := some 133, op := Op.pick (Operand.tmp 124) (Operand.const (Value.bool true)) (Operand.tmp 132), type := 4, pos := "own.go:125", after := #[{ on := 22, ground := Ground.data }, { on := 30, ground := Ground.data }], guard := none }) (v := .bool false) (fun _ _ => by kernel_rfl) hH ?_
        try simp only [pA, pB, p1, p2, p3]
        refine wpAnyH_done (by kernel_rfl) ?_ _
        try simp only [pA, pB, p1, p2, p3]
        clear hH
        have HKr : Hid (Gx.Rw Gx.DE wk47 w.heap.size ka kc K) := HKrs.out.no HK0.out
        have HKe : Hid (Gx.ErX Gx.DE wk47 lo K) := HKes.out.no HK0.out
        have HLr : Hid (Gx.Rw Gx.DL wk47 w.heap.size pa pc L) := HLrs.out.no HK0.out
        have HLe : Hid (Gx.ErX Gx.DL wk47 lo L) := HLes.out.no HK0.out
        have HAr : Hid (Gx.Rw Gx.DA wk47 w.heap.size aa ac A) := HArs.out.no HK0.out
        have HAe : Hid (Gx.ErX Gx.DA wk47 lo A) := HAes.out.no HK0.out
        have HSz : Hid (SzL lo wk47) := HSzs.out.no HK0.out
        have HBE : Hid (OwE wk47 w.heap.size ⟨ba, bn, bc⟩ bes) := HBEs.out.no HK0.out
        have HBL : Hid (OwL wk47 w.heap.size ⟨la, ln, lc⟩ bls) := HBLs.out.no HK0.out
        have HWE : Hid (OwE wk47 w.heap.size ⟨va, vn, vc⟩ bes) := HWEs.out.no HK0.out
        have HWL : Hid (OwL wk47 w.heap.size ⟨ua, un, uc⟩ bls) := HWLs.out.no HK0.out
        have HX11 : Hid (OwE wk47 t1 ⟨xa11, xn11, xc11⟩ bes) := HX11s.out.no HK0.out
        have HX12 : Hid (OwL wk47 t1 ⟨xa12, xn12, xc12⟩ bls) := HX12s.out.no HK0.out
        have HX13 : Hid (OwE wk47 t1 ⟨xa13, xn13, xc13⟩ bes) := HX13s.out.no HK0.out
        have HX21 : Hid (OwE wk47 t2 ⟨xa21, xn21, xc21⟩ R1.1.es) := HX21s.out.no HK0.out
        have HX22 : Hid (OwL wk47 t2 ⟨xa22, xn22, xc22⟩ R1.1.ls) := HX22s.out.no HK0.out
        have HX23 : Hid (OwE wk47 t2 ⟨xa23, xn23, xc23⟩ R1.2.l) := HX23s.out.no HK0.out
        have HX31 : Hid (OwE wk47 t3 ⟨za, zn, zc⟩ E2) := HX31s.out.no HK0.out
        have HX32 : Hid (OwL wk47 t3 ⟨ya, yn, yc⟩ L2) := HX32s.out.no HK0.out
        have HV : Hid (OwA wk47 t3 ⟨(some ⟨sb, 0, none⟩), 4, sk⟩ [⟨r0, e0, ⟨f0a, f0n, f0c⟩⟩, v1, ⟨r2, e2, ⟨f2a, f2n, f2c⟩⟩, ⟨r3, e3, ⟨f3a, f3n, f3c⟩⟩]) := HVs.out.no HK0.out
        have HX30 : Hid (OwE wk47 t3 ⟨f0a, f0n, f0c⟩ bes) := HX30s.out.no HK0.out
        have HX33 : Hid (OwE wk47 t3 ⟨f2a, f2n, f2c⟩ E2) := HX33s.out.no HK0.out
        have HX34 : Hid (OwE wk47 t3 ⟨f3a, f3n, f3c⟩ E2) := HX34s.out.no HK0.out
        have HX41 : Hid (OwE wk47 t4 ⟨wa, wn, wk⟩ bes) := HX41s.out.no HK0.out
        have HX42 : Hid (OwL wk47 t4 ⟨oa, on0, ok0⟩ bls) := HX42s.out.no HK0.out
        clear HKrs HKes HLrs HLes HArs HAes HSzs HBEs HBLs HWEs HWLs HX11s HX12s HX13s HX21s HX22s HX23s HX31s HX32s HVs HX30s HX33s HX34s HX41s HX42s HK0 HS0
        go_upto_region 24 with fail
        refine wp_region_held_drew (S := fun w' => Fr No w w' [(gk1, 26, Bv.cells ⟨bu, ⟨ba, bn, bc⟩, ⟨la, ln, lc⟩⟩), (gk11, 26, Bv.cells ⟨bu, ⟨va, vn, vc⟩, ⟨ua, un, uc⟩⟩), (gk14, 31, Cm.cells ⟨4, 3, 9, ⟨#[]⟩, 0, 0, 0, 0, 0⟩), (gk17, 31, Cm.cells ⟨1, 3, 9, ⟨#[111, 119, 110]⟩, 0, 0, 0, 0, 0⟩), (gk21, 26, Bv.cells ⟨bu + 1, ⟨xa11, xn11, xc11⟩, ⟨xa12, xn12, xc12⟩⟩), (gk23, 36, Av.cells ⟨0, enZ, ⟨xa13, xn13, xc13⟩⟩), (gk28, 26, Bv.cells ⟨R1.1.up, ⟨xa21, xn21, xc21⟩, ⟨xa22, xn22, xc22⟩⟩), (gk30, 36, Av.cells ⟨R1.2.er, R1.2.e, ⟨xa23, xn23, xc23⟩⟩), (gk34, 31, (cmR [⟨4, 3, 9, ⟨#[]⟩, 0, 0, 0, 0, 0⟩, ⟨1, 3, 9, ⟨#[111, 119, 110]⟩, 0, 0, 0, 0, 0⟩, ⟨4, 3, 9, ⟨#[]⟩, 0, 0, 0, 0, 0⟩, ⟨4, 3, 9, ⟨#[]⟩, 0, 0, 0, 0, 0⟩]).toArray), (gk37, 26, Bv.cells ⟨zu, ⟨za, zn, zc⟩, ⟨ya, yn, yc⟩⟩), (gk41, 26, Bv.cells ⟨bu, ⟨wa, wn, wk⟩, ⟨oa, on0, ok0⟩⟩)] ∧ OwA w' t3 ⟨(some ⟨sb, 0, none⟩), 4, sk⟩ [⟨r0, e0, ⟨f0a, f0n, f0c⟩⟩, v1, ⟨r2, e2, ⟨f2a, f2n, f2c⟩⟩, ⟨r3, e3, ⟨f3a, f3n, f3c⟩⟩]) rfl ⟨HF.out.drew, HV.out.no (Kept.refl No _).drew⟩ (fun hH => ?_)
        have HKr : Hid (Gx.Rw Gx.DE (wk47.drew) w.heap.size ka kc K) := HKr.out.no (Kept.refl No _).drew
        have HKe : Hid (Gx.ErX Gx.DE (wk47.drew) lo K) := HKe.out.no (Kept.refl No _).drew
        have HLr : Hid (Gx.Rw Gx.DL (wk47.drew) w.heap.size pa pc L) := HLr.out.no (Kept.refl No _).drew
        have HLe : Hid (Gx.ErX Gx.DL (wk47.drew) lo L) := HLe.out.no (Kept.refl No _).drew
        have HAr : Hid (Gx.Rw Gx.DA (wk47.drew) w.heap.size aa ac A) := HAr.out.no (Kept.refl No _).drew
        have HAe : Hid (Gx.ErX Gx.DA (wk47.drew) lo A) := HAe.out.no (Kept.refl No _).drew
        have HSz : Hid (SzL lo (wk47.drew)) := HSz.out.no (Kept.refl No _).drew
        have HBE : Hid (OwE (wk47.drew) w.heap.size ⟨ba, bn, bc⟩ bes) := HBE.out.no (Kept.refl No _).drew
        have HBL : Hid (OwL (wk47.drew) w.heap.size ⟨la, ln, lc⟩ bls) := HBL.out.no (Kept.refl No _).drew
        have HWE : Hid (OwE (wk47.drew) w.heap.size ⟨va, vn, vc⟩ bes) := HWE.out.no (Kept.refl No _).drew
        have HWL : Hid (OwL (wk47.drew) w.heap.size ⟨ua, un, uc⟩ bls) := HWL.out.no (Kept.refl No _).drew
        have HX11 : Hid (OwE (wk47.drew) t1 ⟨xa11, xn11, xc11⟩ bes) := HX11.out.no (Kept.refl No _).drew
        have HX12 : Hid (OwL (wk47.drew) t1 ⟨xa12, xn12, xc12⟩ bls) := HX12.out.no (Kept.refl No _).drew
        have HX13 : Hid (OwE (wk47.drew) t1 ⟨xa13, xn13, xc13⟩ bes) := HX13.out.no (Kept.refl No _).drew
        have HX21 : Hid (OwE (wk47.drew) t2 ⟨xa21, xn21, xc21⟩ R1.1.es) := HX21.out.no (Kept.refl No _).drew
        have HX22 : Hid (OwL (wk47.drew) t2 ⟨xa22, xn22, xc22⟩ R1.1.ls) := HX22.out.no (Kept.refl No _).drew
        have HX23 : Hid (OwE (wk47.drew) t2 ⟨xa23, xn23, xc23⟩ R1.2.l) := HX23.out.no (Kept.refl No _).drew
        have HX31 : Hid (OwE (wk47.drew) t3 ⟨za, zn, zc⟩ E2) := HX31.out.no (Kept.refl No _).drew
        have HX32 : Hid (OwL (wk47.drew) t3 ⟨ya, yn, yc⟩ L2) := HX32.out.no (Kept.refl No _).drew
        have HV : Hid (OwA (wk47.drew) t3 ⟨(some ⟨sb, 0, none⟩), 4, sk⟩ [⟨r0, e0, ⟨f0a, f0n, f0c⟩⟩, v1, ⟨r2, e2, ⟨f2a, f2n, f2c⟩⟩, ⟨r3, e3, ⟨f3a, f3n, f3c⟩⟩]) := HV.out.no (Kept.refl No _).drew
        have HX30 : Hid (OwE (wk47.drew) t3 ⟨f0a, f0n, f0c⟩ bes) := HX30.out.no (Kept.refl No _).drew
        have HX33 : Hid (OwE (wk47.drew) t3 ⟨f2a, f2n, f2c⟩ E2) := HX33.out.no (Kept.refl No _).drew
        have HX34 : Hid (OwE (wk47.drew) t3 ⟨f3a, f3n, f3c⟩ E2) := HX34.out.no (Kept.refl No _).drew
        have HX41 : Hid (OwE (wk47.drew) t4 ⟨wa, wn, wk⟩ bes) := HX41.out.no (Kept.refl No _).drew
        have HX42 : Hid (OwL (wk47.drew) t4 ⟨oa, on0, ok0⟩ bls) := HX42.out.no (Kept.refl No _).drew
        have HF : Hid (Fr No w (wk47.drew) [(gk1, 26, Bv.cells ⟨bu, ⟨ba, bn, bc⟩, ⟨la, ln, lc⟩⟩), (gk11, 26, Bv.cells ⟨bu, ⟨va, vn, vc⟩, ⟨ua, un, uc⟩⟩), (gk14, 31, Cm.cells ⟨4, 3, 9, ⟨#[]⟩, 0, 0, 0, 0, 0⟩), (gk17, 31, Cm.cells ⟨1, 3, 9, ⟨#[111, 119, 110]⟩, 0, 0, 0, 0, 0⟩), (gk21, 26, Bv.cells ⟨bu + 1, ⟨xa11, xn11, xc11⟩, ⟨xa12, xn12, xc12⟩⟩), (gk23, 36, Av.cells ⟨0, enZ, ⟨xa13, xn13, xc13⟩⟩), (gk28, 26, Bv.cells ⟨R1.1.up, ⟨xa21, xn21, xc21⟩, ⟨xa22, xn22, xc22⟩⟩), (gk30, 36, Av.cells ⟨R1.2.er, R1.2.e, ⟨xa23, xn23, xc23⟩⟩), (gk34, 31, (cmR [⟨4, 3, 9, ⟨#[]⟩, 0, 0, 0, 0, 0⟩, ⟨1, 3, 9, ⟨#[111, 119, 110]⟩, 0, 0, 0, 0, 0⟩, ⟨4, 3, 9, ⟨#[]⟩, 0, 0, 0, 0, 0⟩, ⟨4, 3, 9, ⟨#[]⟩, 0, 0, 0, 0, 0⟩]).toArray), (gk37, 26, Bv.cells ⟨zu, ⟨za, zn, zc⟩, ⟨ya, yn, yc⟩⟩), (gk41, 26, Bv.cells ⟨bu, ⟨wa, wn, wk⟩, ⟨oa, on0, ok0⟩⟩)]) := HF.out.drew
        generalize wk47.drew = wk48 at HF HKr HKe HLr HLe HAr HAe HSz HBE HBL HWE HWL HX11 HX12 HX13 HX21 HX22 HX23 HX31 HX32 HV HX30 HX33 HX34 HX41 HX42 hH ⊢
        refine aT (i := 0) (oi := { dst := some 134, op := Op.move (Operand.tmp 10), type := 42, pos := "own.go:128", after := #[], guard := none }) (v := .slice ka (8 * j) kc) (fun _ _ => by kernel_rfl) hH ?_
        try simp only [pA, pB, p1, p2, p3]
        refine aT (i := 1) (oi := { dst := some 135, op := Op.fieldAddr 26 (Operand.tmp 14) 1, type := 0, pos := "own.go:128", after := #[], guard := none }) (v := .pointer (some ⟨gk21, 1, none⟩)) (fun _ _ => by kernel_rfl) hH ?_
        try simp only [pA, pB, p1, p2, p3]
        refine aT (i := 2) (oi := { dst := some 136, op := Op.load 23 (Operand.tmp 135), type := 23, pos := "own.go:128", after := #[{ on := 1, ground := Ground.data }], guard := none }) (v := .slice xa11 xn11 xc11) (fun w' hw => exec_load 23 _ rfl ⟨gk21, 1, none⟩ (by kernel_rfl) (.slice xa11 xn11 xc11) (load_one ((hw.1.box 4 _ _ _ rfl).cell 1 |>.trans (by kernel_rfl)) Try.und22 rfl)) hH ?_
        try simp only [pA, pB, p1, p2, p3]
        refine aT (i := 3) (oi := { dst := some 137, op := Op.fieldAddr 26 (Operand.tmp 17) 1, type := 0, pos := "own.go:128", after := #[], guard := none }) (v := .pointer (some ⟨gk28, 1, none⟩)) (fun _ _ => by kernel_rfl) hH ?_
        try simp only [pA, pB, p1, p2, p3]
        refine aT (i := 4) (oi := { dst := some 138, op := Op.load 23 (Operand.tmp 137), type := 23, pos := "own.go:128", after := #[{ on := 3, ground := Ground.data }], guard := none }) (v := .slice xa21 xn21 xc21) (fun w' hw => exec_load 23 _ rfl ⟨gk28, 1, none⟩ (by kernel_rfl) (.slice xa21 xn21 xc21) (load_one ((hw.1.box 6 _ _ _ rfl).cell 1 |>.trans (by kernel_rfl)) Try.und22 rfl)) hH ?_
        try simp only [pA, pB, p1, p2, p3]
        refine aT (i := 5) (oi := { dst := some 139, op := Op.fieldAddr 26 (Operand.tmp 20) 1, type := 0, pos := "own.go:128", after := #[], guard := none }) (v := .pointer (some ⟨gk37, 1, none⟩)) (fun _ _ => by kernel_rfl) hH ?_
        try simp only [pA, pB, p1, p2, p3]
        refine aT (i := 6) (oi := { dst := some 140, op := Op.load 23 (Operand.tmp 139), type := 23, pos := "own.go:128", after := #[{ on := 5, ground := Ground.data }], guard := none }) (v := .slice za zn zc) (fun w' hw => exec_load 23 _ rfl ⟨gk37, 1, none⟩ (by kernel_rfl) (.slice za zn zc) (load_one ((hw.1.box 9 _ _ _ rfl).cell 1 |>.trans (by kernel_rfl)) Try.und22 rfl)) hH ?_
        try simp only [pA, pB, p1, p2, p3]
        refine aT (i := 7) (oi := { dst := some 141, op := Op.fieldAddr 26 (Operand.tmp 23) 1, type := 0, pos := "own.go:128", after := #[], guard := none }) (v := .pointer (some ⟨gk41, 1, none⟩)) (fun _ _ => by kernel_rfl) hH ?_
        try simp only [pA, pB, p1, p2, p3]
        refine aT (i := 8) (oi := { dst := some 142, op := Op.load 23 (Operand.tmp 141), type := 23, pos := "own.go:128", after := #[{ on := 7, ground := Ground.data }], guard := none }) (v := .slice wa wn wk) (fun w' hw => exec_load 23 _ rfl ⟨gk41, 1, none⟩ (by kernel_rfl) (.slice wa wn wk) (load_one ((hw.1.box 10 _ _ _ rfl).cell 1 |>.trans (by kernel_rfl)) Try.und22 rfl)) hH ?_
        try simp only [pA, pB, p1, p2, p3]
        refine aT (i := 9) (oi := { dst := some 143, op := Op.fieldAddr 36 (Operand.tmp 15) 2, type := 0, pos := "own.go:128", after := #[], guard := none }) (v := .pointer (some ⟨gk23, 5, none⟩)) (fun _ _ => by kernel_rfl) hH ?_
        try simp only [pA, pB, p1, p2, p3]
        refine aT (i := 10) (oi := { dst := some 144, op := Op.load 23 (Operand.tmp 143), type := 23, pos := "own.go:128", after := #[{ on := 9, ground := Ground.data }], guard := none }) (v := .slice xa13 xn13 xc13) (fun w' hw => exec_load 23 _ rfl ⟨gk23, 5, none⟩ (by kernel_rfl) (.slice xa13 xn13 xc13) (load_one ((hw.1.box 5 _ _ _ rfl).cell 5 |>.trans (by kernel_rfl)) Try.und22 rfl)) hH ?_
        try simp only [pA, pB, p1, p2, p3]
        refine aT (i := 11) (oi := { dst := some 145, op := Op.move (Operand.tmp 21), type := 45, pos := "own.go:128", after := #[], guard := none }) (v := .slice (some ⟨sb, 0, none⟩) 4 sk) (fun _ _ => by kernel_rfl) hH ?_
        try simp only [pA, pB, p1, p2, p3]
        refine aT (i := 12) (oi := { dst := some 146, op := Op.indexAddr 45 (Operand.tmp 145) (Operand.const (Value.int IntKind.i64 0)), type := 0, pos := "own.go:128", after := #[{ on := 11, ground := Ground.data }], guard := none }) (v := .pointer (some ⟨sb, 0 + 0 * 6, none⟩)) (fun w' hw => exec_ixA 45 6 Try.und45e Try.size45e _ _ rfl sb 0 4 sk 0 (by kernel_rfl) (by kernel_rfl) (by omega)) hH ?_
        try simp only [pA, pB, p1, p2, p3]
        refine aT (i := 13) (oi := { dst := some 147, op := Op.fieldAddr 36 (Operand.tmp 146) 2, type := 0, pos := "own.go:128", after := #[{ on := 12, ground := Ground.data }], guard := none }) (v := .pointer (some ⟨sb, 0 + 0 * 6 + 5, none⟩)) (fun _ _ => by kernel_rfl) hH ?_
        try simp only [pA, pB, p1, p2, p3]
        refine aT (i := 14) (oi := { dst := some 148, op := Op.load 23 (Operand.tmp 147), type := 23, pos := "own.go:128", after := #[{ on := 13, ground := Ground.data }], guard := none }) (v := .slice f0a f0n f0c) (fun w' hw => exec_load 23 _ rfl ⟨sb, 0 + 0 * 6 + 5, none⟩ (by kernel_rfl) (.slice f0a f0n f0c) (load_one (hw.2.cell (i := 0) rfl) Try.und22 rfl)) hH ?_
        try simp only [pA, pB, p1, p2, p3]
        refine aT (i := 15) (oi := { dst := some 149, op := Op.move (Operand.tmp 21), type := 45, pos := "own.go:128", after := #[], guard := none }) (v := .slice (some ⟨sb, 0, none⟩) 4 sk) (fun _ _ => by kernel_rfl) hH ?_
        try simp only [pA, pB, p1, p2, p3]
        refine aT (i := 16) (oi := { dst := some 150, op := Op.indexAddr 45 (Operand.tmp 149) (Operand.const (Value.int IntKind.i64 2)), type := 0, pos := "own.go:128", after := #[{ on := 15, ground := Ground.data }], guard := none }) (v := .pointer (some ⟨sb, 0 + 2 * 6, none⟩)) (fun w' hw => exec_ixA 45 6 Try.und45e Try.size45e _ _ rfl sb 0 4 sk 2 (by kernel_rfl) (by kernel_rfl) (by omega)) hH ?_
        try simp only [pA, pB, p1, p2, p3]
        refine aT (i := 17) (oi := { dst := some 151, op := Op.fieldAddr 36 (Operand.tmp 150) 2, type := 0, pos := "own.go:128", after := #[{ on := 16, ground := Ground.data }], guard := none }) (v := .pointer (some ⟨sb, 0 + 2 * 6 + 5, none⟩)) (fun _ _ => by kernel_rfl) hH ?_
        try simp only [pA, pB, p1, p2, p3]
        refine aT (i := 18) (oi := { dst := some 152, op := Op.load 23 (Operand.tmp 151), type := 23, pos := "own.go:128", after := #[{ on := 17, ground := Ground.data }], guard := none }) (v := .slice f2a f2n f2c) (fun w' hw => exec_load 23 _ rfl ⟨sb, 0 + 2 * 6 + 5, none⟩ (by kernel_rfl) (.slice f2a f2n f2c) (load_one (hw.2.cell (i := 2) rfl) Try.und22 rfl)) hH ?_
        try simp only [pA, pB, p1, p2, p3]
        refine aT (i := 19) (oi := { dst := some 153, op := Op.move (Operand.tmp 21), type := 45, pos := "own.go:128", after := #[], guard := none }) (v := .slice (some ⟨sb, 0, none⟩) 4 sk) (fun _ _ => by kernel_rfl) hH ?_
        try simp only [pA, pB, p1, p2, p3]
        refine aT (i := 20) (oi := { dst := some 154, op := Op.indexAddr 45 (Operand.tmp 153) (Operand.const (Value.int IntKind.i64 3)), type := 0, pos := "own.go:128", after := #[{ on := 19, ground := Ground.data }], guard := none }) (v := .pointer (some ⟨sb, 0 + 3 * 6, none⟩)) (fun w' hw => exec_ixA 45 6 Try.und45e Try.size45e _ _ rfl sb 0 4 sk 3 (by kernel_rfl) (by kernel_rfl) (by omega)) hH ?_
        try simp only [pA, pB, p1, p2, p3]
        refine aT (i := 21) (oi := { dst := some 155, op := Op.fieldAddr 36 (Operand.tmp 154) 2, type := 0, pos := "own.go:128", after := #[{ on := 20, ground := Ground.data }], guard := none }) (v := .pointer (some ⟨sb, 0 + 3 * 6 + 5, none⟩)) (fun _ _ => by kernel_rfl) hH ?_
        try simp only [pA, pB, p1, p2, p3]
        refine aT (i := 22) (oi := { dst := some 156, op := Op.load 23 (Operand.tmp 155), type := 23, pos := "own.go:128", after := #[{ on := 21, ground := Ground.data }], guard := none }) (v := .slice f3a f3n f3c) (fun w' hw => exec_load 23 _ rfl ⟨sb, 0 + 3 * 6 + 5, none⟩ (by kernel_rfl) (.slice f3a f3n f3c) (load_one (hw.2.cell (i := 3) rfl) Try.und22 rfl)) hH ?_
        try simp only [pA, pB, p1, p2, p3]
        have hs1 : ∀ s ∈ ([⟨xa11, xn11, xc11⟩, ⟨xa21, xn21, xc21⟩, ⟨za, zn, zc⟩, ⟨wa, wn, wk⟩, ⟨xa13, xn13, xc13⟩, ⟨f0a, f0n, f0c⟩, ⟨f2a, f2n, f2c⟩, ⟨f3a, f3n, f3c⟩] : List Sl), Gx.Nw Gx.DE wk48 lo s := fun s hs => by
          simp only [List.mem_cons, List.not_mem_nil, or_false] at hs; rcases hs with rfl | rfl | rfl | rfl | rfl | rfl | rfl | rfl
          · exact Gx.Nw.e HX11.out hlo_t1 (Nat.le_trans hbe (by omega))
          · exact Gx.Nw.e HX21.out hlo_t2 (Nat.le_trans HR1.out.ne (by omega))
          · exact Gx.Nw.e HX31.out hlo_t3 (Nat.le_trans hE2 (by omega))
          · exact Gx.Nw.e HX41.out hlo_t4 (Nat.le_trans hbe (by omega))
          · exact Gx.Nw.e HX13.out hlo_t1 (Nat.le_trans hbe (by omega))
          · exact Gx.Nw.e HX30.out hlo_t3 (Nat.le_trans hbe (by omega))
          · exact Gx.Nw.e HX33.out hlo_t3 (Nat.le_trans hE2 (by omega))
          · exact Gx.Nw.e HX34.out hlo_t3 (Nat.le_trans hE2 (by omega))
        have hpw0 : ∀ s ∈ ([⟨xa21, xn21, xc21⟩, ⟨za, zn, zc⟩, ⟨wa, wn, wk⟩, ⟨xa13, xn13, xc13⟩, ⟨f0a, f0n, f0c⟩, ⟨f2a, f2n, f2c⟩, ⟨f3a, f3n, f3c⟩] : List Sl), ∀ k, At xa11 k → ¬ At s.a k := fun s hs => by
          simp only [List.mem_cons, List.not_mem_nil, or_false] at hs; rcases hs with rfl | rfl | rfl | rfl | rfl | rfl | rfl
          · exact (fun k e f => by have h1 := hb_HX11_t2 k e; have h2 := HX21.out.own.base f; omega)
          · exact (fun k e f => by have h1 := hb_HX11_t3 k e; have h2 := HX31.out.own.base f; omega)
          · exact (fun k e f => by have h1 := hb_HX11_t4 k e; have h2 := HX41.out.own.base f; omega)
          · exact fun k e f => hap1 k f e
          · exact (fun k e f => by have h1 := hb_HX11_t3 k e; have h2 := HX30.out.own.base f; omega)
          · exact (fun k e f => by have h1 := hb_HX11_t3 k e; have h2 := HX33.out.own.base f; omega)
          · exact (fun k e f => by have h1 := hb_HX11_t3 k e; have h2 := HX34.out.own.base f; omega)
        have hpw1 : ∀ s ∈ ([⟨za, zn, zc⟩, ⟨wa, wn, wk⟩, ⟨xa13, xn13, xc13⟩, ⟨f0a, f0n, f0c⟩, ⟨f2a, f2n, f2c⟩, ⟨f3a, f3n, f3c⟩] : List Sl), ∀ k, At xa21 k → ¬ At s.a k := fun s hs => by
          simp only [List.mem_cons, List.not_mem_nil, or_false] at hs; rcases hs with rfl | rfl | rfl | rfl | rfl | rfl
          · exact (fun k e f => by have h1 := hb_HX21_t3 k e; have h2 := HX31.out.own.base f; omega)
          · exact (fun k e f => by have h1 := hb_HX21_t4 k e; have h2 := HX41.out.own.base f; omega)
          · exact (fun k e f => by have h1 := hb_HX13_t2 k f; have h2 := HX21.out.own.base e; omega)
          · exact (fun k e f => by have h1 := hb_HX21_t3 k e; have h2 := HX30.out.own.base f; omega)
          · exact (fun k e f => by have h1 := hb_HX21_t3 k e; have h2 := HX33.out.own.base f; omega)
          · exact (fun k e f => by have h1 := hb_HX21_t3 k e; have h2 := HX34.out.own.base f; omega)
        have hpw2 : ∀ s ∈ ([⟨wa, wn, wk⟩, ⟨xa13, xn13, xc13⟩, ⟨f0a, f0n, f0c⟩, ⟨f2a, f2n, f2c⟩, ⟨f3a, f3n, f3c⟩] : List Sl), ∀ k, At za k → ¬ At s.a k := fun s hs => by
          simp only [List.mem_cons, List.not_mem_nil, or_false] at hs; rcases hs with rfl | rfl | rfl | rfl | rfl
          · exact (fun k e f => by have h1 := hb_HX31_t4 k e; have h2 := HX41.out.own.base f; omega)
          · exact (fun k e f => by have h1 := hb_HX13_t3 k f; have h2 := HX31.out.own.base e; omega)
          · exact fun k e f => h30 k f e
          · exact fun k e f => h33 k f e
          · exact fun k e f => h34 k f e
        have hpw3 : ∀ s ∈ ([⟨xa13, xn13, xc13⟩, ⟨f0a, f0n, f0c⟩, ⟨f2a, f2n, f2c⟩, ⟨f3a, f3n, f3c⟩] : List Sl), ∀ k, At wa k → ¬ At s.a k := fun s hs => by
          simp only [List.mem_cons, List.not_mem_nil, or_false] at hs; rcases hs with rfl | rfl | rfl | rfl
          · exact (fun k e f => by have h1 := hb_HX13_t4 k f; have h2 := HX41.out.own.base e; omega)
          · exact (fun k e f => by have h1 := hb_HX30_t4 k f; have h2 := HX41.out.own.base e; omega)
          · exact (fun k e f => by have h1 := hb_HX33_t4 k f; have h2 := HX41.out.own.base e; omega)
          · exact (fun k e f => by have h1 := hb_HX34_t4 k f; have h2 := HX41.out.own.base e; omega)
        have hpw4 : ∀ s ∈ ([⟨f0a, f0n, f0c⟩, ⟨f2a, f2n, f2c⟩, ⟨f3a, f3n, f3c⟩] : List Sl), ∀ k, At xa13 k → ¬ At s.a k := fun s hs => by
          simp only [List.mem_cons, List.not_mem_nil, or_false] at hs; rcases hs with rfl | rfl | rfl
          · exact (fun k e f => by have h1 := hb_HX13_t3 k e; have h2 := HX30.out.own.base f; omega)
          · exact (fun k e f => by have h1 := hb_HX13_t3 k e; have h2 := HX33.out.own.base f; omega)
          · exact (fun k e f => by have h1 := hb_HX13_t3 k e; have h2 := HX34.out.own.base f; omega)
        have hpw5 : ∀ s ∈ ([⟨f2a, f2n, f2c⟩, ⟨f3a, f3n, f3c⟩] : List Sl), ∀ k, At f0a k → ¬ At s.a k := fun s hs => by
          simp only [List.mem_cons, List.not_mem_nil, or_false] at hs; rcases hs with rfl | rfl
          · exact hd02
          · exact hd03
        have hpw6 : ∀ s ∈ ([⟨f3a, f3n, f3c⟩] : List Sl), ∀ k, At f2a k → ¬ At s.a k := fun s hs => by
          simp only [List.mem_cons, List.not_mem_nil, or_false] at hs; rcases hs with rfl
          · exact hd23
        have hs3 : ∀ s ∈ ([⟨xa11, xn11, xc11⟩, ⟨xa21, xn21, xc21⟩, ⟨za, zn, zc⟩, ⟨wa, wn, wk⟩, ⟨xa13, xn13, xc13⟩, ⟨f0a, f0n, f0c⟩, ⟨f2a, f2n, f2c⟩, ⟨f3a, f3n, f3c⟩] : List Sl), ∀ k, At s.a k → ¬ Gx.EB K k := fun s hs => by
          simp only [List.mem_cons, List.not_mem_nil, or_false] at hs; rcases hs with rfl | rfl | rfl | rfl | rfl | rfl | rfl | rfl
          · exact fun k e f => by have h1 := hb_HKe_t1 k f; have h2 := HX11.out.own.base e; omega
          · exact fun k e f => by have h1 := hb_HKe_t2 k f; have h2 := HX21.out.own.base e; omega
          · exact fun k e f => by have h1 := hb_HKe_t3 k f; have h2 := HX31.out.own.base e; omega
          · exact fun k e f => by have h1 := hb_HKe_t4 k f; have h2 := HX41.out.own.base e; omega
          · exact fun k e f => by have h1 := hb_HKe_t1 k f; have h2 := HX13.out.own.base e; omega
          · exact fun k e f => by have h1 := hb_HKe_t3 k f; have h2 := HX30.out.own.base e; omega
          · exact fun k e f => by have h1 := hb_HKe_t3 k f; have h2 := HX33.out.own.base e; omega
          · exact fun k e f => by have h1 := hb_HKe_t3 k f; have h2 := HX34.out.own.base e; omega
        obtain ⟨a4e, c4e, w4e, hrun4, hR4, hE4, hk4⟩ := Gx.grow_row (D := Gx.DE) 42 Gx.u42x Gx.i23 (8 * j) 8 HKr.out HKe.out hKl [⟨xa11, xn11, xc11⟩, ⟨xa21, xn21, xc21⟩, ⟨za, zn, zc⟩, ⟨wa, wn, wk⟩, ⟨xa13, xn13, xc13⟩, ⟨f0a, f0n, f0c⟩, ⟨f2a, f2n, f2c⟩, ⟨f3a, f3n, f3c⟩] rfl hs1 (List.Pairwise.cons (hpw0) (List.Pairwise.cons (hpw1) (List.Pairwise.cons (hpw2) (List.Pairwise.cons (hpw3) (List.Pairwise.cons (hpw4) (List.Pairwise.cons (hpw5) (List.Pairwise.cons (hpw6) (List.Pairwise.cons (fun s hs => by simp at hs) List.Pairwise.nil)))))))) hs3 HF.out.kept.size (by omega) (by omega)
        clear hs1 hs3 hpw0 hpw1 hpw2 hpw3 hpw4 hpw5 hpw6
        refine any_step (i := 23) (o := { dst := some 157, op := Op.buildSlice 42 8 #[(0, Operand.tmp 136), (1, Operand.tmp 138), (2, Operand.tmp 140), (3, Operand.tmp 142), (4, Operand.tmp 144), (5, Operand.tmp 148), (6, Operand.tmp 152), (7, Operand.tmp 156)], type := 42, pos := "own.go:128", after := #[{ on := 2, ground := Ground.data }, { on := 4, ground := Ground.data }, { on := 6, ground := Ground.data }, { on := 8, ground := Ground.data }, { on := 10, ground := Ground.data }, { on := 14, ground := Ground.data }, { on := 18, ground := Ground.data }, { on := 22, ground := Ground.data }], guard := none }) rfl (by kernel_rfl) (by kernel_rfl) (exec_sliceN 8 42 23 _ rfl ((List.map Sl.v [⟨xa11, xn11, xc11⟩, ⟨xa21, xn21, xc21⟩, ⟨za, zn, zc⟩, ⟨wa, wn, wk⟩, ⟨xa13, xn13, xc13⟩, ⟨f0a, f0n, f0c⟩, ⟨f2a, f2n, f2c⟩, ⟨f3a, f3n, f3c⟩]).toArray) #[(0, .slice xa11 xn11 xc11), (1, .slice xa21 xn21 xc21), (2, .slice za zn zc), (3, .slice wa wn wk), (4, .slice xa13 xn13 xc13), (5, .slice f0a f0n f0c), (6, .slice f2a f2n f2c), (7, .slice f3a f3n f3c)] (by kernel_rfl) (by kernel_rfl)) ⟨hH.1.no ((Kept.refl No _).alloc _), hH.2.no ((Kept.refl No _).alloc _)⟩ (fun hH => ?_)
        try simp only [pA, pB, p1, p2, p3]
        have HLrn : Hid (Gx.Rw Gx.DL w4e w.heap.size pa pc L) := Gx.Rw.kept HLr.out hk4 (fun k e f => Own.apart HLr.out (show Own 23 1 _ w.heap.size ka _ _ _ from HKr.out) (by decide) e f)
        have HLen : Hid (Gx.ErX Gx.DL w4e lo L) := HLe.out.off (show Own 23 1 _ w.heap.size ka _ _ _ from HKr.out) (by decide) hk4
        have HArn : Hid (Gx.Rw Gx.DA w4e w.heap.size aa ac A) := Gx.Rw.kept HAr.out hk4 (fun k e f => Own.apart HAr.out (show Own 23 1 _ w.heap.size ka _ _ _ from HKr.out) (by decide) e f)
        have HAen : Hid (Gx.ErX Gx.DA w4e lo A) := HAe.out.off (show Own 23 1 _ w.heap.size ka _ _ _ from HKr.out) (by decide) hk4
        have HSzn : Hid (SzL lo w4e) := Nat.le_trans HSz.out hk4.size
        have HBEn : Hid (OwE w4e w.heap.size ⟨ba, bn, bc⟩ bes) := HBE.out.kept hk4 (fun k e f => HBE.out.own.apart (show Own 23 1 _ w.heap.size ka _ _ _ from HKr.out) (by decide) e f)
        have HBLn : Hid (OwL w4e w.heap.size ⟨la, ln, lc⟩ bls) := HBL.out.kept hk4 (fun k e f => HBL.out.own.apart (show Own 23 1 _ w.heap.size ka _ _ _ from HKr.out) (by decide) e f)
        have HWEn : Hid (OwE w4e w.heap.size ⟨va, vn, vc⟩ bes) := HWE.out.kept hk4 (fun k e f => HWE.out.own.apart (show Own 23 1 _ w.heap.size ka _ _ _ from HKr.out) (by decide) e f)
        have HWLn : Hid (OwL w4e w.heap.size ⟨ua, un, uc⟩ bls) := HWL.out.kept hk4 (fun k e f => HWL.out.own.apart (show Own 23 1 _ w.heap.size ka _ _ _ from HKr.out) (by decide) e f)
        have HX11n : Hid (OwE w4e t1 ⟨xa11, xn11, xc11⟩ bes) := HX11.out.kept hk4 (fun k e f => HX11.out.own.apart (show Own 23 1 _ w.heap.size ka _ _ _ from HKr.out) (by decide) e f)
        have HX12n : Hid (OwL w4e t1 ⟨xa12, xn12, xc12⟩ bls) := HX12.out.kept hk4 (fun k e f => HX12.out.own.apart (show Own 23 1 _ w.heap.size ka _ _ _ from HKr.out) (by decide) e f)
        have HX13n : Hid (OwE w4e t1 ⟨xa13, xn13, xc13⟩ bes) := HX13.out.kept hk4 (fun k e f => HX13.out.own.apart (show Own 23 1 _ w.heap.size ka _ _ _ from HKr.out) (by decide) e f)
        have HX21n : Hid (OwE w4e t2 ⟨xa21, xn21, xc21⟩ R1.1.es) := HX21.out.kept hk4 (fun k e f => HX21.out.own.apart (show Own 23 1 _ w.heap.size ka _ _ _ from HKr.out) (by decide) e f)
        have HX22n : Hid (OwL w4e t2 ⟨xa22, xn22, xc22⟩ R1.1.ls) := HX22.out.kept hk4 (fun k e f => HX22.out.own.apart (show Own 23 1 _ w.heap.size ka _ _ _ from HKr.out) (by decide) e f)
        have HX23n : Hid (OwE w4e t2 ⟨xa23, xn23, xc23⟩ R1.2.l) := HX23.out.kept hk4 (fun k e f => HX23.out.own.apart (show Own 23 1 _ w.heap.size ka _ _ _ from HKr.out) (by decide) e f)
        have HX31n : Hid (OwE w4e t3 ⟨za, zn, zc⟩ E2) := HX31.out.kept hk4 (fun k e f => HX31.out.own.apart (show Own 23 1 _ w.heap.size ka _ _ _ from HKr.out) (by decide) e f)
        have HX32n : Hid (OwL w4e t3 ⟨ya, yn, yc⟩ L2) := HX32.out.kept hk4 (fun k e f => HX32.out.own.apart (show Own 23 1 _ w.heap.size ka _ _ _ from HKr.out) (by decide) e f)
        have HVn : Hid (OwA w4e t3 ⟨(some ⟨sb, 0, none⟩), 4, sk⟩ [⟨r0, e0, ⟨f0a, f0n, f0c⟩⟩, v1, ⟨r2, e2, ⟨f2a, f2n, f2c⟩⟩, ⟨r3, e3, ⟨f3a, f3n, f3c⟩⟩]) := HV.out.kept hk4 (fun k e f => HV.out.own.apart (show Own 23 1 _ w.heap.size ka _ _ _ from HKr.out) (by decide) e f)
        have HX30n : Hid (OwE w4e t3 ⟨f0a, f0n, f0c⟩ bes) := HX30.out.kept hk4 (fun k e f => HX30.out.own.apart (show Own 23 1 _ w.heap.size ka _ _ _ from HKr.out) (by decide) e f)
        have HX33n : Hid (OwE w4e t3 ⟨f2a, f2n, f2c⟩ E2) := HX33.out.kept hk4 (fun k e f => HX33.out.own.apart (show Own 23 1 _ w.heap.size ka _ _ _ from HKr.out) (by decide) e f)
        have HX34n : Hid (OwE w4e t3 ⟨f3a, f3n, f3c⟩ E2) := HX34.out.kept hk4 (fun k e f => HX34.out.own.apart (show Own 23 1 _ w.heap.size ka _ _ _ from HKr.out) (by decide) e f)
        have HX41n : Hid (OwE w4e t4 ⟨wa, wn, wk⟩ bes) := HX41.out.kept hk4 (fun k e f => HX41.out.own.apart (show Own 23 1 _ w.heap.size ka _ _ _ from HKr.out) (by decide) e f)
        have HX42n : Hid (OwL w4e t4 ⟨oa, on0, ok0⟩ bls) := HX42.out.kept hk4 (fun k e f => HX42.out.own.apart (show Own 23 1 _ w.heap.size ka _ _ _ from HKr.out) (by decide) e f)
        have HFn : Hid (Fr No w w4e [(gk1, 26, Bv.cells ⟨bu, ⟨ba, bn, bc⟩, ⟨la, ln, lc⟩⟩), (gk11, 26, Bv.cells ⟨bu, ⟨va, vn, vc⟩, ⟨ua, un, uc⟩⟩), (gk14, 31, Cm.cells ⟨4, 3, 9, ⟨#[]⟩, 0, 0, 0, 0, 0⟩), (gk17, 31, Cm.cells ⟨1, 3, 9, ⟨#[111, 119, 110]⟩, 0, 0, 0, 0, 0⟩), (gk21, 26, Bv.cells ⟨bu + 1, ⟨xa11, xn11, xc11⟩, ⟨xa12, xn12, xc12⟩⟩), (gk23, 36, Av.cells ⟨0, enZ, ⟨xa13, xn13, xc13⟩⟩), (gk28, 26, Bv.cells ⟨R1.1.up, ⟨xa21, xn21, xc21⟩, ⟨xa22, xn22, xc22⟩⟩), (gk30, 36, Av.cells ⟨R1.2.er, R1.2.e, ⟨xa23, xn23, xc23⟩⟩), (gk34, 31, (cmR [⟨4, 3, 9, ⟨#[]⟩, 0, 0, 0, 0, 0⟩, ⟨1, 3, 9, ⟨#[111, 119, 110]⟩, 0, 0, 0, 0, 0⟩, ⟨4, 3, 9, ⟨#[]⟩, 0, 0, 0, 0, 0⟩, ⟨4, 3, 9, ⟨#[]⟩, 0, 0, 0, 0, 0⟩]).toArray), (gk37, 26, Bv.cells ⟨zu, ⟨za, zn, zc⟩, ⟨ya, yn, yc⟩⟩), (gk41, 26, Bv.cells ⟨bu, ⟨wa, wn, wk⟩, ⟨oa, on0, ok0⟩⟩)]) := HF.out.app (show Own 23 1 _ w.heap.size ka _ _ _ from HKr.out) hk4 (by simp)
        refine any_step (i := 24) (o := { dst := some 158, op := Op.call { callee := Callee.builtin Builtin.append, args := #[Operand.tmp 134, Operand.tmp 157], argTypes := #[42, 42] }, type := 42, pos := "own.go:128", after := #[{ on := 0, ground := Ground.data }, { on := 23, ground := Ground.data }], guard := none }) rfl (by kernel_rfl) (by kernel_rfl) (exec_appN _ _ 42 42 rfl (.slice ka (8 * j) kc) (.slice (some ⟨wk48.heap.size, 0, none⟩) 8 8) (by kernel_rfl) (by kernel_rfl) hrun4) ⟨HFn.out, HVn.out⟩ (fun hH => ?_)
        try simp only [pA, pB, p1, p2, p3]
        clear HF HLr HLe HAr HAe HSz HBE HBL HWE HWL HX11 HX12 HX13 HX21 HX22 HX23 HX31 HX32 HV HX30 HX33 HX34 HX41 HX42
        have HLr : Hid (Gx.Rw Gx.DL w4e w.heap.size pa pc L) := HLrn
        have HLe : Hid (Gx.ErX Gx.DL w4e lo L) := HLen
        have HAr : Hid (Gx.Rw Gx.DA w4e w.heap.size aa ac A) := HArn
        have HAe : Hid (Gx.ErX Gx.DA w4e lo A) := HAen
        have HSz : Hid (SzL lo w4e) := HSzn
        have HBE : Hid (OwE w4e w.heap.size ⟨ba, bn, bc⟩ bes) := HBEn
        have HBL : Hid (OwL w4e w.heap.size ⟨la, ln, lc⟩ bls) := HBLn
        have HWE : Hid (OwE w4e w.heap.size ⟨va, vn, vc⟩ bes) := HWEn
        have HWL : Hid (OwL w4e w.heap.size ⟨ua, un, uc⟩ bls) := HWLn
        have HX11 : Hid (OwE w4e t1 ⟨xa11, xn11, xc11⟩ bes) := HX11n
        have HX12 : Hid (OwL w4e t1 ⟨xa12, xn12, xc12⟩ bls) := HX12n
        have HX13 : Hid (OwE w4e t1 ⟨xa13, xn13, xc13⟩ bes) := HX13n
        have HX21 : Hid (OwE w4e t2 ⟨xa21, xn21, xc21⟩ R1.1.es) := HX21n
        have HX22 : Hid (OwL w4e t2 ⟨xa22, xn22, xc22⟩ R1.1.ls) := HX22n
        have HX23 : Hid (OwE w4e t2 ⟨xa23, xn23, xc23⟩ R1.2.l) := HX23n
        have HX31 : Hid (OwE w4e t3 ⟨za, zn, zc⟩ E2) := HX31n
        have HX32 : Hid (OwL w4e t3 ⟨ya, yn, yc⟩ L2) := HX32n
        have HV : Hid (OwA w4e t3 ⟨(some ⟨sb, 0, none⟩), 4, sk⟩ [⟨r0, e0, ⟨f0a, f0n, f0c⟩⟩, v1, ⟨r2, e2, ⟨f2a, f2n, f2c⟩⟩, ⟨r3, e3, ⟨f3a, f3n, f3c⟩⟩]) := HVn
        have HX30 : Hid (OwE w4e t3 ⟨f0a, f0n, f0c⟩ bes) := HX30n
        have HX33 : Hid (OwE w4e t3 ⟨f2a, f2n, f2c⟩ E2) := HX33n
        have HX34 : Hid (OwE w4e t3 ⟨f3a, f3n, f3c⟩ E2) := HX34n
        have HX41 : Hid (OwE w4e t4 ⟨wa, wn, wk⟩ bes) := HX41n
        have HX42 : Hid (OwL w4e t4 ⟨oa, on0, ok0⟩ bls) := HX42n
        have HF : Hid (Fr No w w4e [(gk1, 26, Bv.cells ⟨bu, ⟨ba, bn, bc⟩, ⟨la, ln, lc⟩⟩), (gk11, 26, Bv.cells ⟨bu, ⟨va, vn, vc⟩, ⟨ua, un, uc⟩⟩), (gk14, 31, Cm.cells ⟨4, 3, 9, ⟨#[]⟩, 0, 0, 0, 0, 0⟩), (gk17, 31, Cm.cells ⟨1, 3, 9, ⟨#[111, 119, 110]⟩, 0, 0, 0, 0, 0⟩), (gk21, 26, Bv.cells ⟨bu + 1, ⟨xa11, xn11, xc11⟩, ⟨xa12, xn12, xc12⟩⟩), (gk23, 36, Av.cells ⟨0, enZ, ⟨xa13, xn13, xc13⟩⟩), (gk28, 26, Bv.cells ⟨R1.1.up, ⟨xa21, xn21, xc21⟩, ⟨xa22, xn22, xc22⟩⟩), (gk30, 36, Av.cells ⟨R1.2.er, R1.2.e, ⟨xa23, xn23, xc23⟩⟩), (gk34, 31, (cmR [⟨4, 3, 9, ⟨#[]⟩, 0, 0, 0, 0, 0⟩, ⟨1, 3, 9, ⟨#[111, 119, 110]⟩, 0, 0, 0, 0, 0⟩, ⟨4, 3, 9, ⟨#[]⟩, 0, 0, 0, 0, 0⟩, ⟨4, 3, 9, ⟨#[]⟩, 0, 0, 0, 0, 0⟩]).toArray), (gk37, 26, Bv.cells ⟨zu, ⟨za, zn, zc⟩, ⟨ya, yn, yc⟩⟩), (gk41, 26, Bv.cells ⟨bu, ⟨wa, wn, wk⟩, ⟨oa, on0, ok0⟩⟩)]) := HFn
        clear HFn HLrn HLen HArn HAen HSzn HBEn HBLn HWEn HWLn HX11n HX12n HX13n HX21n HX22n HX23n HX31n HX32n HVn HX30n HX33n HX34n HX41n HX42n HKr HKe
        have HKr : Hid (Gx.Rw Gx.DE w4e w.heap.size a4e c4e (K ++ [⟨xa11, xn11, xc11⟩, ⟨xa21, xn21, xc21⟩, ⟨za, zn, zc⟩, ⟨wa, wn, wk⟩, ⟨xa13, xn13, xc13⟩, ⟨f0a, f0n, f0c⟩, ⟨f2a, f2n, f2c⟩, ⟨f3a, f3n, f3c⟩])) := hR4
        have HKe : Hid (Gx.ErX Gx.DE w4e lo (K ++ [⟨xa11, xn11, xc11⟩, ⟨xa21, xn21, xc21⟩, ⟨za, zn, zc⟩, ⟨wa, wn, wk⟩, ⟨xa13, xn13, xc13⟩, ⟨f0a, f0n, f0c⟩, ⟨f2a, f2n, f2c⟩, ⟨f3a, f3n, f3c⟩])) := hE4
        clear hR4 hE4 hrun4 hk4
        refine aT (i := 25) (oi := { dst := some 10, op := Op.assign (Operand.tmp 158), type := 42, pos := "own.go:128", after := #[{ on := 24, ground := Ground.data }, { on := 24, ground := Ground.chain }, { on := 0, ground := Ground.phase }, { on := 1, ground := Ground.phase }, { on := 2, ground := Ground.phase }, { on := 3, ground := Ground.phase }, { on := 4, ground := Ground.phase }, { on := 5, ground := Ground.phase }, { on := 6, ground := Ground.phase }, { on := 7, ground := Ground.phase }, { on := 8, ground := Ground.phase }, { on := 9, ground := Ground.phase }, { on := 10, ground := Ground.phase }, { on := 11, ground := Ground.phase }, { on := 12, ground := Ground.phase }, { on := 13, ground := Ground.phase }, { on := 14, ground := Ground.phase }, { on := 15, ground := Ground.phase }, { on := 16, ground := Ground.phase }, { on := 17, ground := Ground.phase }, { on := 18, ground := Ground.phase }, { on := 19, ground := Ground.phase }, { on := 20, ground := Ground.phase }, { on := 21, ground := Ground.phase }, { on := 22, ground := Ground.phase }, { on := 23, ground := Ground.phase }, { on := 24, ground := Ground.phase }], guard := none }) (v := .slice a4e (8 * j + 8) c4e) (fun _ _ => by kernel_rfl) hH ?_
        try simp only [pA, pB, p1, p2, p3]
        refine wpAnyH_done (by kernel_rfl) ?_ _
        try simp only [pA, pB, p1, p2, p3]
        clear hH
        go_upto_region 25 with fail
        refine WL.start ?_
        refine tK (.slice pa (4 * j) pc) ?_
        try simp only [pA, pB, p1, p2, p3]
        refine tK (.pointer (some ⟨gk21, 2, none⟩)) ?_
        try simp only [pA, pB, p1, p2, p3]
        refine tW (.slice xa12 xn12 xc12) (exec_load 24 _ rfl ⟨gk21, 2, none⟩ (by kernel_rfl) (.slice xa12 xn12 xc12) (load_one ((HF.out.box 4 _ _ _ rfl).cell 2 |>.trans (by kernel_rfl)) Try.und23 rfl)) ?_
        try simp only [pA, pB, p1, p2, p3]
        refine tK (.pointer (some ⟨gk28, 2, none⟩)) ?_
        try simp only [pA, pB, p1, p2, p3]
        refine tW (.slice xa22 xn22 xc22) (exec_load 24 _ rfl ⟨gk28, 2, none⟩ (by kernel_rfl) (.slice xa22 xn22 xc22) (load_one ((HF.out.box 6 _ _ _ rfl).cell 2 |>.trans (by kernel_rfl)) Try.und23 rfl)) ?_
        try simp only [pA, pB, p1, p2, p3]
        refine tK (.pointer (some ⟨gk37, 2, none⟩)) ?_
        try simp only [pA, pB, p1, p2, p3]
        refine tW (.slice ya yn yc) (exec_load 24 _ rfl ⟨gk37, 2, none⟩ (by kernel_rfl) (.slice ya yn yc) (load_one ((HF.out.box 9 _ _ _ rfl).cell 2 |>.trans (by kernel_rfl)) Try.und23 rfl)) ?_
        try simp only [pA, pB, p1, p2, p3]
        refine tK (.pointer (some ⟨gk41, 2, none⟩)) ?_
        try simp only [pA, pB, p1, p2, p3]
        refine tW (.slice oa on0 ok0) (exec_load 24 _ rfl ⟨gk41, 2, none⟩ (by kernel_rfl) (.slice oa on0 ok0) (load_one ((HF.out.box 10 _ _ _ rfl).cell 2 |>.trans (by kernel_rfl)) Try.und23 rfl)) ?_
        try simp only [pA, pB, p1, p2, p3]
        have hs1 : ∀ s ∈ ([⟨xa12, xn12, xc12⟩, ⟨xa22, xn22, xc22⟩, ⟨ya, yn, yc⟩, ⟨oa, on0, ok0⟩] : List Sl), Gx.Nw Gx.DL w4e lo s := fun s hs => by
          simp only [List.mem_cons, List.not_mem_nil, or_false] at hs; rcases hs with rfl | rfl | rfl | rfl
          · exact Gx.Nw.l HX12.out hlo_t1 (Nat.le_trans hbl (by omega))
          · exact Gx.Nw.l HX22.out hlo_t2 (Nat.le_trans HR1.out.nl (by omega))
          · exact Gx.Nw.l HX32.out hlo_t3 (Nat.le_trans hL2 (by omega))
          · exact Gx.Nw.l HX42.out hlo_t4 (Nat.le_trans hbl (by omega))
        have hpw0 : ∀ s ∈ ([⟨xa22, xn22, xc22⟩, ⟨ya, yn, yc⟩, ⟨oa, on0, ok0⟩] : List Sl), ∀ k, At xa12 k → ¬ At s.a k := fun s hs => by
          simp only [List.mem_cons, List.not_mem_nil, or_false] at hs; rcases hs with rfl | rfl | rfl
          · exact (fun k e f => by have h1 := hb_HX12_t2 k e; have h2 := HX22.out.own.base f; omega)
          · exact (fun k e f => by have h1 := hb_HX12_t3 k e; have h2 := HX32.out.own.base f; omega)
          · exact (fun k e f => by have h1 := hb_HX12_t4 k e; have h2 := HX42.out.own.base f; omega)
        have hpw1 : ∀ s ∈ ([⟨ya, yn, yc⟩, ⟨oa, on0, ok0⟩] : List Sl), ∀ k, At xa22 k → ¬ At s.a k := fun s hs => by
          simp only [List.mem_cons, List.not_mem_nil, or_false] at hs; rcases hs with rfl | rfl
          · exact (fun k e f => by have h1 := hb_HX22_t3 k e; have h2 := HX32.out.own.base f; omega)
          · exact (fun k e f => by have h1 := hb_HX22_t4 k e; have h2 := HX42.out.own.base f; omega)
        have hpw2 : ∀ s ∈ ([⟨oa, on0, ok0⟩] : List Sl), ∀ k, At ya k → ¬ At s.a k := fun s hs => by
          simp only [List.mem_cons, List.not_mem_nil, or_false] at hs; rcases hs with rfl
          · exact (fun k e f => by have h1 := hb_HX32_t4 k e; have h2 := HX42.out.own.base f; omega)
        have hs3 : ∀ s ∈ ([⟨xa12, xn12, xc12⟩, ⟨xa22, xn22, xc22⟩, ⟨ya, yn, yc⟩, ⟨oa, on0, ok0⟩] : List Sl), ∀ k, At s.a k → ¬ Gx.EB L k := fun s hs => by
          simp only [List.mem_cons, List.not_mem_nil, or_false] at hs; rcases hs with rfl | rfl | rfl | rfl
          · exact fun k e f => by have h1 := hb_HLe_t1 k f; have h2 := HX12.out.own.base e; omega
          · exact fun k e f => by have h1 := hb_HLe_t2 k f; have h2 := HX22.out.own.base e; omega
          · exact fun k e f => by have h1 := hb_HLe_t3 k f; have h2 := HX32.out.own.base e; omega
          · exact fun k e f => by have h1 := hb_HLe_t4 k f; have h2 := HX42.out.own.base e; omega
        obtain ⟨a4l, c4l, w4l, hrun4, hR4, hE4, hk4⟩ := Gx.grow_row (D := Gx.DL) 43 Gx.u43x Gx.i24 (4 * j) 4 HLr.out HLe.out hLl [⟨xa12, xn12, xc12⟩, ⟨xa22, xn22, xc22⟩, ⟨ya, yn, yc⟩, ⟨oa, on0, ok0⟩] rfl hs1 (List.Pairwise.cons (hpw0) (List.Pairwise.cons (hpw1) (List.Pairwise.cons (hpw2) (List.Pairwise.cons (fun s hs => by simp at hs) List.Pairwise.nil)))) hs3 HF.out.kept.size (by omega) (by omega)
        clear hs1 hs3 hpw0 hpw1 hpw2
        refine wp_runW (.slice (some ⟨w4e.heap.size, 0, none⟩) 4 4) (w4e.alloc (.cells ((List.map Sl.v [⟨xa12, xn12, xc12⟩, ⟨xa22, xn22, xc22⟩, ⟨ya, yn, yc⟩, ⟨oa, on0, ok0⟩]).toArray) 24)) (exec_sliceN 4 43 24 _ rfl ((List.map Sl.v [⟨xa12, xn12, xc12⟩, ⟨xa22, xn22, xc22⟩, ⟨ya, yn, yc⟩, ⟨oa, on0, ok0⟩]).toArray) #[(0, .slice xa12 xn12 xc12), (1, .slice xa22 xn22 xc22), (2, .slice ya yn yc), (3, .slice oa on0 ok0)] (by kernel_rfl) (by kernel_rfl)) (by kernel_rfl) ?_
        try simp only [pA, pB, p1, p2, p3]
        have HKrn : Hid (Gx.Rw Gx.DE w4l w.heap.size a4e c4e (K ++ [⟨xa11, xn11, xc11⟩, ⟨xa21, xn21, xc21⟩, ⟨za, zn, zc⟩, ⟨wa, wn, wk⟩, ⟨xa13, xn13, xc13⟩, ⟨f0a, f0n, f0c⟩, ⟨f2a, f2n, f2c⟩, ⟨f3a, f3n, f3c⟩])) := Gx.Rw.kept HKr.out hk4 (fun k e f => Own.apart HKr.out (show Own 24 1 _ w.heap.size pa _ _ _ from HLr.out) (by decide) e f)
        have HKen : Hid (Gx.ErX Gx.DE w4l lo (K ++ [⟨xa11, xn11, xc11⟩, ⟨xa21, xn21, xc21⟩, ⟨za, zn, zc⟩, ⟨wa, wn, wk⟩, ⟨xa13, xn13, xc13⟩, ⟨f0a, f0n, f0c⟩, ⟨f2a, f2n, f2c⟩, ⟨f3a, f3n, f3c⟩])) := HKe.out.off (show Own 24 1 _ w.heap.size pa _ _ _ from HLr.out) (by decide) hk4
        have HArn : Hid (Gx.Rw Gx.DA w4l w.heap.size aa ac A) := Gx.Rw.kept HAr.out hk4 (fun k e f => Own.apart HAr.out (show Own 24 1 _ w.heap.size pa _ _ _ from HLr.out) (by decide) e f)
        have HAen : Hid (Gx.ErX Gx.DA w4l lo A) := HAe.out.off (show Own 24 1 _ w.heap.size pa _ _ _ from HLr.out) (by decide) hk4
        have HSzn : Hid (SzL lo w4l) := Nat.le_trans HSz.out hk4.size
        have HBEn : Hid (OwE w4l w.heap.size ⟨ba, bn, bc⟩ bes) := HBE.out.kept hk4 (fun k e f => HBE.out.own.apart (show Own 24 1 _ w.heap.size pa _ _ _ from HLr.out) (by decide) e f)
        have HBLn : Hid (OwL w4l w.heap.size ⟨la, ln, lc⟩ bls) := HBL.out.kept hk4 (fun k e f => HBL.out.own.apart (show Own 24 1 _ w.heap.size pa _ _ _ from HLr.out) (by decide) e f)
        have HWEn : Hid (OwE w4l w.heap.size ⟨va, vn, vc⟩ bes) := HWE.out.kept hk4 (fun k e f => HWE.out.own.apart (show Own 24 1 _ w.heap.size pa _ _ _ from HLr.out) (by decide) e f)
        have HWLn : Hid (OwL w4l w.heap.size ⟨ua, un, uc⟩ bls) := HWL.out.kept hk4 (fun k e f => HWL.out.own.apart (show Own 24 1 _ w.heap.size pa _ _ _ from HLr.out) (by decide) e f)
        have HX11n : Hid (OwE w4l t1 ⟨xa11, xn11, xc11⟩ bes) := HX11.out.kept hk4 (fun k e f => HX11.out.own.apart (show Own 24 1 _ w.heap.size pa _ _ _ from HLr.out) (by decide) e f)
        have HX12n : Hid (OwL w4l t1 ⟨xa12, xn12, xc12⟩ bls) := HX12.out.kept hk4 (fun k e f => HX12.out.own.apart (show Own 24 1 _ w.heap.size pa _ _ _ from HLr.out) (by decide) e f)
        have HX13n : Hid (OwE w4l t1 ⟨xa13, xn13, xc13⟩ bes) := HX13.out.kept hk4 (fun k e f => HX13.out.own.apart (show Own 24 1 _ w.heap.size pa _ _ _ from HLr.out) (by decide) e f)
        have HX21n : Hid (OwE w4l t2 ⟨xa21, xn21, xc21⟩ R1.1.es) := HX21.out.kept hk4 (fun k e f => HX21.out.own.apart (show Own 24 1 _ w.heap.size pa _ _ _ from HLr.out) (by decide) e f)
        have HX22n : Hid (OwL w4l t2 ⟨xa22, xn22, xc22⟩ R1.1.ls) := HX22.out.kept hk4 (fun k e f => HX22.out.own.apart (show Own 24 1 _ w.heap.size pa _ _ _ from HLr.out) (by decide) e f)
        have HX23n : Hid (OwE w4l t2 ⟨xa23, xn23, xc23⟩ R1.2.l) := HX23.out.kept hk4 (fun k e f => HX23.out.own.apart (show Own 24 1 _ w.heap.size pa _ _ _ from HLr.out) (by decide) e f)
        have HX31n : Hid (OwE w4l t3 ⟨za, zn, zc⟩ E2) := HX31.out.kept hk4 (fun k e f => HX31.out.own.apart (show Own 24 1 _ w.heap.size pa _ _ _ from HLr.out) (by decide) e f)
        have HX32n : Hid (OwL w4l t3 ⟨ya, yn, yc⟩ L2) := HX32.out.kept hk4 (fun k e f => HX32.out.own.apart (show Own 24 1 _ w.heap.size pa _ _ _ from HLr.out) (by decide) e f)
        have HVn : Hid (OwA w4l t3 ⟨(some ⟨sb, 0, none⟩), 4, sk⟩ [⟨r0, e0, ⟨f0a, f0n, f0c⟩⟩, v1, ⟨r2, e2, ⟨f2a, f2n, f2c⟩⟩, ⟨r3, e3, ⟨f3a, f3n, f3c⟩⟩]) := HV.out.kept hk4 (fun k e f => HV.out.own.apart (show Own 24 1 _ w.heap.size pa _ _ _ from HLr.out) (by decide) e f)
        have HX30n : Hid (OwE w4l t3 ⟨f0a, f0n, f0c⟩ bes) := HX30.out.kept hk4 (fun k e f => HX30.out.own.apart (show Own 24 1 _ w.heap.size pa _ _ _ from HLr.out) (by decide) e f)
        have HX33n : Hid (OwE w4l t3 ⟨f2a, f2n, f2c⟩ E2) := HX33.out.kept hk4 (fun k e f => HX33.out.own.apart (show Own 24 1 _ w.heap.size pa _ _ _ from HLr.out) (by decide) e f)
        have HX34n : Hid (OwE w4l t3 ⟨f3a, f3n, f3c⟩ E2) := HX34.out.kept hk4 (fun k e f => HX34.out.own.apart (show Own 24 1 _ w.heap.size pa _ _ _ from HLr.out) (by decide) e f)
        have HX41n : Hid (OwE w4l t4 ⟨wa, wn, wk⟩ bes) := HX41.out.kept hk4 (fun k e f => HX41.out.own.apart (show Own 24 1 _ w.heap.size pa _ _ _ from HLr.out) (by decide) e f)
        have HX42n : Hid (OwL w4l t4 ⟨oa, on0, ok0⟩ bls) := HX42.out.kept hk4 (fun k e f => HX42.out.own.apart (show Own 24 1 _ w.heap.size pa _ _ _ from HLr.out) (by decide) e f)
        have HFn : Hid (Fr No w w4l [(gk1, 26, Bv.cells ⟨bu, ⟨ba, bn, bc⟩, ⟨la, ln, lc⟩⟩), (gk11, 26, Bv.cells ⟨bu, ⟨va, vn, vc⟩, ⟨ua, un, uc⟩⟩), (gk14, 31, Cm.cells ⟨4, 3, 9, ⟨#[]⟩, 0, 0, 0, 0, 0⟩), (gk17, 31, Cm.cells ⟨1, 3, 9, ⟨#[111, 119, 110]⟩, 0, 0, 0, 0, 0⟩), (gk21, 26, Bv.cells ⟨bu + 1, ⟨xa11, xn11, xc11⟩, ⟨xa12, xn12, xc12⟩⟩), (gk23, 36, Av.cells ⟨0, enZ, ⟨xa13, xn13, xc13⟩⟩), (gk28, 26, Bv.cells ⟨R1.1.up, ⟨xa21, xn21, xc21⟩, ⟨xa22, xn22, xc22⟩⟩), (gk30, 36, Av.cells ⟨R1.2.er, R1.2.e, ⟨xa23, xn23, xc23⟩⟩), (gk34, 31, (cmR [⟨4, 3, 9, ⟨#[]⟩, 0, 0, 0, 0, 0⟩, ⟨1, 3, 9, ⟨#[111, 119, 110]⟩, 0, 0, 0, 0, 0⟩, ⟨4, 3, 9, ⟨#[]⟩, 0, 0, 0, 0, 0⟩, ⟨4, 3, 9, ⟨#[]⟩, 0, 0, 0, 0, 0⟩]).toArray), (gk37, 26, Bv.cells ⟨zu, ⟨za, zn, zc⟩, ⟨ya, yn, yc⟩⟩), (gk41, 26, Bv.cells ⟨bu, ⟨wa, wn, wk⟩, ⟨oa, on0, ok0⟩⟩)]) := HF.out.app (show Own 24 1 _ w.heap.size pa _ _ _ from HLr.out) hk4 (by simp)
        refine wp_runW (.slice a4l (4 * j + 4) c4l) w4l (exec_appN _ _ 43 43 rfl (.slice pa (4 * j) pc) (.slice (some ⟨w4e.heap.size, 0, none⟩) 4 4) (by kernel_rfl) (by kernel_rfl) hrun4) (by kernel_rfl) ?_
        try simp only [pA, pB, p1, p2, p3]
        clear HF HKr HKe HAr HAe HSz HBE HBL HWE HWL HX11 HX12 HX13 HX21 HX22 HX23 HX31 HX32 HV HX30 HX33 HX34 HX41 HX42
        have HKr : Hid (Gx.Rw Gx.DE w4l w.heap.size a4e c4e (K ++ [⟨xa11, xn11, xc11⟩, ⟨xa21, xn21, xc21⟩, ⟨za, zn, zc⟩, ⟨wa, wn, wk⟩, ⟨xa13, xn13, xc13⟩, ⟨f0a, f0n, f0c⟩, ⟨f2a, f2n, f2c⟩, ⟨f3a, f3n, f3c⟩])) := HKrn
        have HKe : Hid (Gx.ErX Gx.DE w4l lo (K ++ [⟨xa11, xn11, xc11⟩, ⟨xa21, xn21, xc21⟩, ⟨za, zn, zc⟩, ⟨wa, wn, wk⟩, ⟨xa13, xn13, xc13⟩, ⟨f0a, f0n, f0c⟩, ⟨f2a, f2n, f2c⟩, ⟨f3a, f3n, f3c⟩])) := HKen
        have HAr : Hid (Gx.Rw Gx.DA w4l w.heap.size aa ac A) := HArn
        have HAe : Hid (Gx.ErX Gx.DA w4l lo A) := HAen
        have HSz : Hid (SzL lo w4l) := HSzn
        have HBE : Hid (OwE w4l w.heap.size ⟨ba, bn, bc⟩ bes) := HBEn
        have HBL : Hid (OwL w4l w.heap.size ⟨la, ln, lc⟩ bls) := HBLn
        have HWE : Hid (OwE w4l w.heap.size ⟨va, vn, vc⟩ bes) := HWEn
        have HWL : Hid (OwL w4l w.heap.size ⟨ua, un, uc⟩ bls) := HWLn
        have HX11 : Hid (OwE w4l t1 ⟨xa11, xn11, xc11⟩ bes) := HX11n
        have HX12 : Hid (OwL w4l t1 ⟨xa12, xn12, xc12⟩ bls) := HX12n
        have HX13 : Hid (OwE w4l t1 ⟨xa13, xn13, xc13⟩ bes) := HX13n
        have HX21 : Hid (OwE w4l t2 ⟨xa21, xn21, xc21⟩ R1.1.es) := HX21n
        have HX22 : Hid (OwL w4l t2 ⟨xa22, xn22, xc22⟩ R1.1.ls) := HX22n
        have HX23 : Hid (OwE w4l t2 ⟨xa23, xn23, xc23⟩ R1.2.l) := HX23n
        have HX31 : Hid (OwE w4l t3 ⟨za, zn, zc⟩ E2) := HX31n
        have HX32 : Hid (OwL w4l t3 ⟨ya, yn, yc⟩ L2) := HX32n
        have HV : Hid (OwA w4l t3 ⟨(some ⟨sb, 0, none⟩), 4, sk⟩ [⟨r0, e0, ⟨f0a, f0n, f0c⟩⟩, v1, ⟨r2, e2, ⟨f2a, f2n, f2c⟩⟩, ⟨r3, e3, ⟨f3a, f3n, f3c⟩⟩]) := HVn
        have HX30 : Hid (OwE w4l t3 ⟨f0a, f0n, f0c⟩ bes) := HX30n
        have HX33 : Hid (OwE w4l t3 ⟨f2a, f2n, f2c⟩ E2) := HX33n
        have HX34 : Hid (OwE w4l t3 ⟨f3a, f3n, f3c⟩ E2) := HX34n
        have HX41 : Hid (OwE w4l t4 ⟨wa, wn, wk⟩ bes) := HX41n
        have HX42 : Hid (OwL w4l t4 ⟨oa, on0, ok0⟩ bls) := HX42n
        have HF : Hid (Fr No w w4l [(gk1, 26, Bv.cells ⟨bu, ⟨ba, bn, bc⟩, ⟨la, ln, lc⟩⟩), (gk11, 26, Bv.cells ⟨bu, ⟨va, vn, vc⟩, ⟨ua, un, uc⟩⟩), (gk14, 31, Cm.cells ⟨4, 3, 9, ⟨#[]⟩, 0, 0, 0, 0, 0⟩), (gk17, 31, Cm.cells ⟨1, 3, 9, ⟨#[111, 119, 110]⟩, 0, 0, 0, 0, 0⟩), (gk21, 26, Bv.cells ⟨bu + 1, ⟨xa11, xn11, xc11⟩, ⟨xa12, xn12, xc12⟩⟩), (gk23, 36, Av.cells ⟨0, enZ, ⟨xa13, xn13, xc13⟩⟩), (gk28, 26, Bv.cells ⟨R1.1.up, ⟨xa21, xn21, xc21⟩, ⟨xa22, xn22, xc22⟩⟩), (gk30, 36, Av.cells ⟨R1.2.er, R1.2.e, ⟨xa23, xn23, xc23⟩⟩), (gk34, 31, (cmR [⟨4, 3, 9, ⟨#[]⟩, 0, 0, 0, 0, 0⟩, ⟨1, 3, 9, ⟨#[111, 119, 110]⟩, 0, 0, 0, 0, 0⟩, ⟨4, 3, 9, ⟨#[]⟩, 0, 0, 0, 0, 0⟩, ⟨4, 3, 9, ⟨#[]⟩, 0, 0, 0, 0, 0⟩]).toArray), (gk37, 26, Bv.cells ⟨zu, ⟨za, zn, zc⟩, ⟨ya, yn, yc⟩⟩), (gk41, 26, Bv.cells ⟨bu, ⟨wa, wn, wk⟩, ⟨oa, on0, ok0⟩⟩)]) := HFn
        clear HFn HKrn HKen HArn HAen HSzn HBEn HBLn HWEn HWLn HX11n HX12n HX13n HX21n HX22n HX23n HX31n HX32n HVn HX30n HX33n HX34n HX41n HX42n HLr HLe
        have HLr : Hid (Gx.Rw Gx.DL w4l w.heap.size a4l c4l (L ++ [⟨xa12, xn12, xc12⟩, ⟨xa22, xn22, xc22⟩, ⟨ya, yn, yc⟩, ⟨oa, on0, ok0⟩])) := hR4
        have HLe : Hid (Gx.ErX Gx.DL w4l lo (L ++ [⟨xa12, xn12, xc12⟩, ⟨xa22, xn22, xc22⟩, ⟨ya, yn, yc⟩, ⟨oa, on0, ok0⟩])) := hE4
        clear hR4 hE4 hrun4 hk4
        refine tK (.slice a4l (4 * j + 4) c4l) ?_
        try simp only [pA, pB, p1, p2, p3]
        refine WL.nil ?_
        try simp only [pA, pB, p1, p2, p3]
        go_upto_region 26 with fail
        refine WL.start ?_
        refine tK (.slice aa j ac) ?_
        try simp only [pA, pB, p1, p2, p3]
        refine tK (.slice (some ⟨sb, 0, none⟩) 4 sk) ?_
        try simp only [pA, pB, p1, p2, p3]
        have hs1 : ∀ s ∈ ([⟨(some ⟨sb, 0, none⟩), 4, sk⟩] : List Sl), Gx.Nw Gx.DA w4l lo s := fun s hs => by
          simp only [List.mem_cons, List.not_mem_nil, or_false] at hs; rcases hs with rfl
          · exact Gx.Nw.o HV.out rfl hlo_t3 (show 4 ≤ 1000 by omega)
        have hs3 : ∀ s ∈ ([⟨(some ⟨sb, 0, none⟩), 4, sk⟩] : List Sl), ∀ k, At s.a k → ¬ Gx.EB A k := fun s hs => by
          simp only [List.mem_cons, List.not_mem_nil, or_false] at hs; rcases hs with rfl
          · exact fun k e f => by have h1 := hb_HAe_t3 k f; have h2 := HV.out.own.base e; omega
        obtain ⟨a4a, c4a, w4a, hrun4, hR4, hE4, hk4⟩ := Gx.grow_row (D := Gx.DA) 44 Gx.u44x Gx.i45 (j) 1 HAr.out HAe.out hAl [⟨(some ⟨sb, 0, none⟩), 4, sk⟩] rfl hs1 (List.Pairwise.cons (fun s hs => by simp at hs) List.Pairwise.nil) hs3 HF.out.kept.size (by omega) (by omega)
        clear hs1 hs3 
        refine wp_runW (.slice (some ⟨w4l.heap.size, 0, none⟩) 1 1) (w4l.alloc (.cells ((List.map Sl.v [⟨(some ⟨sb, 0, none⟩), 4, sk⟩]).toArray) 45)) (exec_sliceN 1 44 45 _ rfl ((List.map Sl.v [⟨(some ⟨sb, 0, none⟩), 4, sk⟩]).toArray) #[(0, .slice (some ⟨sb, 0, none⟩) 4 sk)] (by kernel_rfl) (by kernel_rfl)) (by kernel_rfl) ?_
        try simp only [pA, pB, p1, p2, p3]
        have HKrn : Hid (Gx.Rw Gx.DE w4a w.heap.size a4e c4e (K ++ [⟨xa11, xn11, xc11⟩, ⟨xa21, xn21, xc21⟩, ⟨za, zn, zc⟩, ⟨wa, wn, wk⟩, ⟨xa13, xn13, xc13⟩, ⟨f0a, f0n, f0c⟩, ⟨f2a, f2n, f2c⟩, ⟨f3a, f3n, f3c⟩])) := Gx.Rw.kept HKr.out hk4 (fun k e f => Own.apart HKr.out (show Own 45 1 _ w.heap.size aa _ _ _ from HAr.out) (by decide) e f)
        have HKen : Hid (Gx.ErX Gx.DE w4a lo (K ++ [⟨xa11, xn11, xc11⟩, ⟨xa21, xn21, xc21⟩, ⟨za, zn, zc⟩, ⟨wa, wn, wk⟩, ⟨xa13, xn13, xc13⟩, ⟨f0a, f0n, f0c⟩, ⟨f2a, f2n, f2c⟩, ⟨f3a, f3n, f3c⟩])) := HKe.out.off (show Own 45 1 _ w.heap.size aa _ _ _ from HAr.out) (by decide) hk4
        have HLrn : Hid (Gx.Rw Gx.DL w4a w.heap.size a4l c4l (L ++ [⟨xa12, xn12, xc12⟩, ⟨xa22, xn22, xc22⟩, ⟨ya, yn, yc⟩, ⟨oa, on0, ok0⟩])) := Gx.Rw.kept HLr.out hk4 (fun k e f => Own.apart HLr.out (show Own 45 1 _ w.heap.size aa _ _ _ from HAr.out) (by decide) e f)
        have HLen : Hid (Gx.ErX Gx.DL w4a lo (L ++ [⟨xa12, xn12, xc12⟩, ⟨xa22, xn22, xc22⟩, ⟨ya, yn, yc⟩, ⟨oa, on0, ok0⟩])) := HLe.out.off (show Own 45 1 _ w.heap.size aa _ _ _ from HAr.out) (by decide) hk4
        have HSzn : Hid (SzL lo w4a) := Nat.le_trans HSz.out hk4.size
        have HBEn : Hid (OwE w4a w.heap.size ⟨ba, bn, bc⟩ bes) := HBE.out.kept hk4 (fun k e f => HBE.out.own.apart (show Own 45 1 _ w.heap.size aa _ _ _ from HAr.out) (by decide) e f)
        have HBLn : Hid (OwL w4a w.heap.size ⟨la, ln, lc⟩ bls) := HBL.out.kept hk4 (fun k e f => HBL.out.own.apart (show Own 45 1 _ w.heap.size aa _ _ _ from HAr.out) (by decide) e f)
        have HWEn : Hid (OwE w4a w.heap.size ⟨va, vn, vc⟩ bes) := HWE.out.kept hk4 (fun k e f => HWE.out.own.apart (show Own 45 1 _ w.heap.size aa _ _ _ from HAr.out) (by decide) e f)
        have HWLn : Hid (OwL w4a w.heap.size ⟨ua, un, uc⟩ bls) := HWL.out.kept hk4 (fun k e f => HWL.out.own.apart (show Own 45 1 _ w.heap.size aa _ _ _ from HAr.out) (by decide) e f)
        have HX11n : Hid (OwE w4a t1 ⟨xa11, xn11, xc11⟩ bes) := HX11.out.kept hk4 (fun k e f => HX11.out.own.apart (show Own 45 1 _ w.heap.size aa _ _ _ from HAr.out) (by decide) e f)
        have HX12n : Hid (OwL w4a t1 ⟨xa12, xn12, xc12⟩ bls) := HX12.out.kept hk4 (fun k e f => HX12.out.own.apart (show Own 45 1 _ w.heap.size aa _ _ _ from HAr.out) (by decide) e f)
        have HX13n : Hid (OwE w4a t1 ⟨xa13, xn13, xc13⟩ bes) := HX13.out.kept hk4 (fun k e f => HX13.out.own.apart (show Own 45 1 _ w.heap.size aa _ _ _ from HAr.out) (by decide) e f)
        have HX21n : Hid (OwE w4a t2 ⟨xa21, xn21, xc21⟩ R1.1.es) := HX21.out.kept hk4 (fun k e f => HX21.out.own.apart (show Own 45 1 _ w.heap.size aa _ _ _ from HAr.out) (by decide) e f)
        have HX22n : Hid (OwL w4a t2 ⟨xa22, xn22, xc22⟩ R1.1.ls) := HX22.out.kept hk4 (fun k e f => HX22.out.own.apart (show Own 45 1 _ w.heap.size aa _ _ _ from HAr.out) (by decide) e f)
        have HX23n : Hid (OwE w4a t2 ⟨xa23, xn23, xc23⟩ R1.2.l) := HX23.out.kept hk4 (fun k e f => HX23.out.own.apart (show Own 45 1 _ w.heap.size aa _ _ _ from HAr.out) (by decide) e f)
        have HX31n : Hid (OwE w4a t3 ⟨za, zn, zc⟩ E2) := HX31.out.kept hk4 (fun k e f => HX31.out.own.apart (show Own 45 1 _ w.heap.size aa _ _ _ from HAr.out) (by decide) e f)
        have HX32n : Hid (OwL w4a t3 ⟨ya, yn, yc⟩ L2) := HX32.out.kept hk4 (fun k e f => HX32.out.own.apart (show Own 45 1 _ w.heap.size aa _ _ _ from HAr.out) (by decide) e f)
        have HVn : Hid (OwA w4a t3 ⟨(some ⟨sb, 0, none⟩), 4, sk⟩ [⟨r0, e0, ⟨f0a, f0n, f0c⟩⟩, v1, ⟨r2, e2, ⟨f2a, f2n, f2c⟩⟩, ⟨r3, e3, ⟨f3a, f3n, f3c⟩⟩]) := HV.out.kept hk4 (fun k e f => HV.out.own.apart (show Own 45 1 _ w.heap.size aa _ _ _ from HAr.out) (by decide) e f)
        have HX30n : Hid (OwE w4a t3 ⟨f0a, f0n, f0c⟩ bes) := HX30.out.kept hk4 (fun k e f => HX30.out.own.apart (show Own 45 1 _ w.heap.size aa _ _ _ from HAr.out) (by decide) e f)
        have HX33n : Hid (OwE w4a t3 ⟨f2a, f2n, f2c⟩ E2) := HX33.out.kept hk4 (fun k e f => HX33.out.own.apart (show Own 45 1 _ w.heap.size aa _ _ _ from HAr.out) (by decide) e f)
        have HX34n : Hid (OwE w4a t3 ⟨f3a, f3n, f3c⟩ E2) := HX34.out.kept hk4 (fun k e f => HX34.out.own.apart (show Own 45 1 _ w.heap.size aa _ _ _ from HAr.out) (by decide) e f)
        have HX41n : Hid (OwE w4a t4 ⟨wa, wn, wk⟩ bes) := HX41.out.kept hk4 (fun k e f => HX41.out.own.apart (show Own 45 1 _ w.heap.size aa _ _ _ from HAr.out) (by decide) e f)
        have HX42n : Hid (OwL w4a t4 ⟨oa, on0, ok0⟩ bls) := HX42.out.kept hk4 (fun k e f => HX42.out.own.apart (show Own 45 1 _ w.heap.size aa _ _ _ from HAr.out) (by decide) e f)
        have HFn : Hid (Fr No w w4a [(gk1, 26, Bv.cells ⟨bu, ⟨ba, bn, bc⟩, ⟨la, ln, lc⟩⟩), (gk11, 26, Bv.cells ⟨bu, ⟨va, vn, vc⟩, ⟨ua, un, uc⟩⟩), (gk14, 31, Cm.cells ⟨4, 3, 9, ⟨#[]⟩, 0, 0, 0, 0, 0⟩), (gk17, 31, Cm.cells ⟨1, 3, 9, ⟨#[111, 119, 110]⟩, 0, 0, 0, 0, 0⟩), (gk21, 26, Bv.cells ⟨bu + 1, ⟨xa11, xn11, xc11⟩, ⟨xa12, xn12, xc12⟩⟩), (gk23, 36, Av.cells ⟨0, enZ, ⟨xa13, xn13, xc13⟩⟩), (gk28, 26, Bv.cells ⟨R1.1.up, ⟨xa21, xn21, xc21⟩, ⟨xa22, xn22, xc22⟩⟩), (gk30, 36, Av.cells ⟨R1.2.er, R1.2.e, ⟨xa23, xn23, xc23⟩⟩), (gk34, 31, (cmR [⟨4, 3, 9, ⟨#[]⟩, 0, 0, 0, 0, 0⟩, ⟨1, 3, 9, ⟨#[111, 119, 110]⟩, 0, 0, 0, 0, 0⟩, ⟨4, 3, 9, ⟨#[]⟩, 0, 0, 0, 0, 0⟩, ⟨4, 3, 9, ⟨#[]⟩, 0, 0, 0, 0, 0⟩]).toArray), (gk37, 26, Bv.cells ⟨zu, ⟨za, zn, zc⟩, ⟨ya, yn, yc⟩⟩), (gk41, 26, Bv.cells ⟨bu, ⟨wa, wn, wk⟩, ⟨oa, on0, ok0⟩⟩)]) := HF.out.app (show Own 45 1 _ w.heap.size aa _ _ _ from HAr.out) hk4 (by simp)
        refine wp_runW (.slice a4a (j + 1) c4a) w4a (exec_appN _ _ 44 44 rfl (.slice aa j ac) (.slice (some ⟨w4l.heap.size, 0, none⟩) 1 1) (by kernel_rfl) (by kernel_rfl) hrun4) (by kernel_rfl) ?_
        try simp only [pA, pB, p1, p2, p3]
        clear HF HKr HKe HLr HLe HSz HBE HBL HWE HWL HX11 HX12 HX13 HX21 HX22 HX23 HX31 HX32 HV HX30 HX33 HX34 HX41 HX42
        have HKr : Hid (Gx.Rw Gx.DE w4a w.heap.size a4e c4e (K ++ [⟨xa11, xn11, xc11⟩, ⟨xa21, xn21, xc21⟩, ⟨za, zn, zc⟩, ⟨wa, wn, wk⟩, ⟨xa13, xn13, xc13⟩, ⟨f0a, f0n, f0c⟩, ⟨f2a, f2n, f2c⟩, ⟨f3a, f3n, f3c⟩])) := HKrn
        have HKe : Hid (Gx.ErX Gx.DE w4a lo (K ++ [⟨xa11, xn11, xc11⟩, ⟨xa21, xn21, xc21⟩, ⟨za, zn, zc⟩, ⟨wa, wn, wk⟩, ⟨xa13, xn13, xc13⟩, ⟨f0a, f0n, f0c⟩, ⟨f2a, f2n, f2c⟩, ⟨f3a, f3n, f3c⟩])) := HKen
        have HLr : Hid (Gx.Rw Gx.DL w4a w.heap.size a4l c4l (L ++ [⟨xa12, xn12, xc12⟩, ⟨xa22, xn22, xc22⟩, ⟨ya, yn, yc⟩, ⟨oa, on0, ok0⟩])) := HLrn
        have HLe : Hid (Gx.ErX Gx.DL w4a lo (L ++ [⟨xa12, xn12, xc12⟩, ⟨xa22, xn22, xc22⟩, ⟨ya, yn, yc⟩, ⟨oa, on0, ok0⟩])) := HLen
        have HSz : Hid (SzL lo w4a) := HSzn
        have HBE : Hid (OwE w4a w.heap.size ⟨ba, bn, bc⟩ bes) := HBEn
        have HBL : Hid (OwL w4a w.heap.size ⟨la, ln, lc⟩ bls) := HBLn
        have HWE : Hid (OwE w4a w.heap.size ⟨va, vn, vc⟩ bes) := HWEn
        have HWL : Hid (OwL w4a w.heap.size ⟨ua, un, uc⟩ bls) := HWLn
        have HX11 : Hid (OwE w4a t1 ⟨xa11, xn11, xc11⟩ bes) := HX11n
        have HX12 : Hid (OwL w4a t1 ⟨xa12, xn12, xc12⟩ bls) := HX12n
        have HX13 : Hid (OwE w4a t1 ⟨xa13, xn13, xc13⟩ bes) := HX13n
        have HX21 : Hid (OwE w4a t2 ⟨xa21, xn21, xc21⟩ R1.1.es) := HX21n
        have HX22 : Hid (OwL w4a t2 ⟨xa22, xn22, xc22⟩ R1.1.ls) := HX22n
        have HX23 : Hid (OwE w4a t2 ⟨xa23, xn23, xc23⟩ R1.2.l) := HX23n
        have HX31 : Hid (OwE w4a t3 ⟨za, zn, zc⟩ E2) := HX31n
        have HX32 : Hid (OwL w4a t3 ⟨ya, yn, yc⟩ L2) := HX32n
        have HV : Hid (OwA w4a t3 ⟨(some ⟨sb, 0, none⟩), 4, sk⟩ [⟨r0, e0, ⟨f0a, f0n, f0c⟩⟩, v1, ⟨r2, e2, ⟨f2a, f2n, f2c⟩⟩, ⟨r3, e3, ⟨f3a, f3n, f3c⟩⟩]) := HVn
        have HX30 : Hid (OwE w4a t3 ⟨f0a, f0n, f0c⟩ bes) := HX30n
        have HX33 : Hid (OwE w4a t3 ⟨f2a, f2n, f2c⟩ E2) := HX33n
        have HX34 : Hid (OwE w4a t3 ⟨f3a, f3n, f3c⟩ E2) := HX34n
        have HX41 : Hid (OwE w4a t4 ⟨wa, wn, wk⟩ bes) := HX41n
        have HX42 : Hid (OwL w4a t4 ⟨oa, on0, ok0⟩ bls) := HX42n
        have HF : Hid (Fr No w w4a [(gk1, 26, Bv.cells ⟨bu, ⟨ba, bn, bc⟩, ⟨la, ln, lc⟩⟩), (gk11, 26, Bv.cells ⟨bu, ⟨va, vn, vc⟩, ⟨ua, un, uc⟩⟩), (gk14, 31, Cm.cells ⟨4, 3, 9, ⟨#[]⟩, 0, 0, 0, 0, 0⟩), (gk17, 31, Cm.cells ⟨1, 3, 9, ⟨#[111, 119, 110]⟩, 0, 0, 0, 0, 0⟩), (gk21, 26, Bv.cells ⟨bu + 1, ⟨xa11, xn11, xc11⟩, ⟨xa12, xn12, xc12⟩⟩), (gk23, 36, Av.cells ⟨0, enZ, ⟨xa13, xn13, xc13⟩⟩), (gk28, 26, Bv.cells ⟨R1.1.up, ⟨xa21, xn21, xc21⟩, ⟨xa22, xn22, xc22⟩⟩), (gk30, 36, Av.cells ⟨R1.2.er, R1.2.e, ⟨xa23, xn23, xc23⟩⟩), (gk34, 31, (cmR [⟨4, 3, 9, ⟨#[]⟩, 0, 0, 0, 0, 0⟩, ⟨1, 3, 9, ⟨#[111, 119, 110]⟩, 0, 0, 0, 0, 0⟩, ⟨4, 3, 9, ⟨#[]⟩, 0, 0, 0, 0, 0⟩, ⟨4, 3, 9, ⟨#[]⟩, 0, 0, 0, 0, 0⟩]).toArray), (gk37, 26, Bv.cells ⟨zu, ⟨za, zn, zc⟩, ⟨ya, yn, yc⟩⟩), (gk41, 26, Bv.cells ⟨bu, ⟨wa, wn, wk⟩, ⟨oa, on0, ok0⟩⟩)]) := HFn
        clear HFn HKrn HKen HLrn HLen HSzn HBEn HBLn HWEn HWLn HX11n HX12n HX13n HX21n HX22n HX23n HX31n HX32n HVn HX30n HX33n HX34n HX41n HX42n HAr HAe
        have HAr : Hid (Gx.Rw Gx.DA w4a w.heap.size a4a c4a (A ++ [⟨(some ⟨sb, 0, none⟩), 4, sk⟩])) := hR4
        have HAe : Hid (Gx.ErX Gx.DA w4a lo (A ++ [⟨(some ⟨sb, 0, none⟩), 4, sk⟩])) := hE4
        clear hR4 hE4 hrun4 hk4
        refine tK (.slice a4a (j + 1) c4a) ?_
        try simp only [pA, pB, p1, p2, p3]
        refine WL.nil ?_
        try simp only [pA, pB, p1, p2, p3]
        have HF : Hid (Fr No w w4a [(gk1, 26, Bv.cells ⟨bu, ⟨ba, bn, bc⟩, ⟨la, ln, lc⟩⟩), (gk11, 26, Bv.cells ⟨bu, ⟨va, vn, vc⟩, ⟨ua, un, uc⟩⟩), (gk14, 31, Cm.cells ⟨4, 3, 9, ⟨#[]⟩, 0, 0, 0, 0, 0⟩), (gk17, 31, Cm.cells ⟨1, 3, 9, ⟨#[111, 119, 110]⟩, 0, 0, 0, 0, 0⟩)]) := Fr.front (l1 := [(gk1, 26, Bv.cells ⟨bu, ⟨ba, bn, bc⟩, ⟨la, ln, lc⟩⟩), (gk11, 26, Bv.cells ⟨bu, ⟨va, vn, vc⟩, ⟨ua, un, uc⟩⟩), (gk14, 31, Cm.cells ⟨4, 3, 9, ⟨#[]⟩, 0, 0, 0, 0, 0⟩), (gk17, 31, Cm.cells ⟨1, 3, 9, ⟨#[111, 119, 110]⟩, 0, 0, 0, 0, 0⟩)]) (l2 := [(gk21, 26, Bv.cells ⟨bu + 1, ⟨xa11, xn11, xc11⟩, ⟨xa12, xn12, xc12⟩⟩), (gk23, 36, Av.cells ⟨0, enZ, ⟨xa13, xn13, xc13⟩⟩), (gk28, 26, Bv.cells ⟨R1.1.up, ⟨xa21, xn21, xc21⟩, ⟨xa22, xn22, xc22⟩⟩), (gk30, 36, Av.cells ⟨R1.2.er, R1.2.e, ⟨xa23, xn23, xc23⟩⟩), (gk34, 31, (cmR [⟨4, 3, 9, ⟨#[]⟩, 0, 0, 0, 0, 0⟩, ⟨1, 3, 9, ⟨#[111, 119, 110]⟩, 0, 0, 0, 0, 0⟩, ⟨4, 3, 9, ⟨#[]⟩, 0, 0, 0, 0, 0⟩, ⟨4, 3, 9, ⟨#[]⟩, 0, 0, 0, 0, 0⟩]).toArray), (gk37, 26, Bv.cells ⟨zu, ⟨za, zn, zc⟩, ⟨ya, yn, yc⟩⟩), (gk41, 26, Bv.cells ⟨bu, ⟨wa, wn, wk⟩, ⟨oa, on0, ok0⟩⟩)]) HF.out
        go_wp2
        go_roundw
        case rel => exact ⟨j + 1, a4e, c4e, _, a4l, c4l, _, a4a, c4a, _, rfl, rfl, rfl, by go_num, by omega, by rw [List.length_append, hKl]; rfl, by rw [List.length_append, hLl]; rfl, by rw [List.length_append, hAl]; rfl, HKr, HKe, HLr, HLe, HAr, HAe, HSz, HBE, HBL, HWE, HWL, HF⟩
        case measure => simp [intOf]; omega
      · skip
        go_upto_region 16 with fail
        refine WL.start ?_
        refine tK (.int .i64 ((j : Nat) : Int)) ?_
        try simp only [pA, pB, p1, p2, p3]
        refine tW (.bool false) (exec_bin .lss 3 _ _ _ rfl (.int .i64 ((j : Nat) : Int)) (.int .i64 3) (.bool false) (by kernel_rfl) (by kernel_rfl) (by kernel_rfl) (by rw [b_lss, decide_eq_false (by omega)])) ?_
        try simp only [pA, pB, p1, p2, p3]
        refine WL.nil ?_
        try simp only [pA, pB, p1, p2, p3]
        have HKrs : Hid (Gx.Rw Gx.DE wr w.heap.size ka kc K) := HKr
        clear HKr
        have HKes : Hid (Gx.ErX Gx.DE wr lo K) := HKe
        clear HKe
        have HLrs : Hid (Gx.Rw Gx.DL wr w.heap.size pa pc L) := HLr
        clear HLr
        have HLes : Hid (Gx.ErX Gx.DL wr lo L) := HLe
        clear HLe
        have HArs : Hid (Gx.Rw Gx.DA wr w.heap.size aa ac A) := HAr
        clear HAr
        have HAes : Hid (Gx.ErX Gx.DA wr lo A) := HAe
        clear HAe
        have HSzs : Hid (SzL lo wr) := HSz
        clear HSz
        have HBEs : Hid (OwE wr w.heap.size ⟨ba, bn, bc⟩ bes) := HBE
        clear HBE
        have HBLs : Hid (OwL wr w.heap.size ⟨la, ln, lc⟩ bls) := HBL
        clear HBL
        have HWEs : Hid (OwE wr w.heap.size ⟨va, vn, vc⟩ bes) := HWE
        clear HWE
        have HWLs : Hid (OwL wr w.heap.size ⟨ua, un, uc⟩ bls) := HWL
        clear HWL
        have HK0 : Hid (Kept No wr wr) := Kept.refl _ _
        obtain ⟨s0, hs0⟩ : ∃ n, wr.heap.size = n := ⟨_, rfl⟩
        have HS0 : Hid (wr.heap.size = s0) := hs0
        clear hs0
        go_upto_region 27 with fail
        refine WL.start ?_
        refine tW (.agg (Bv.cells ⟨bu, ⟨ba, bn, bc⟩, ⟨la, ln, lc⟩⟩)) (exec_load 26 _ rfl ⟨gk1, 0, none⟩ (by kernel_rfl) (.agg (Bv.cells ⟨bu, ⟨ba, bn, bc⟩, ⟨la, ln, lc⟩⟩)) (run_load_part (cs := Bv.cs ⟨bu, ⟨ba, bn, bc⟩, ⟨la, ln, lc⟩⟩) (sub := Bv.cs ⟨bu, ⟨ba, bn, bc⟩, ⟨la, ln, lc⟩⟩) (HF.out.box 0 _ _ _ rfl) (Part.all _) Try.und25 rfl Try.size25)) ?_
        try simp only [pA, pB, p1, p2, p3]
        refine tW (.agg (Cm.cells ⟨4, 3, 9, ⟨#[]⟩, 0, 0, 0, 0, 0⟩)) (exec_load 31 _ rfl ⟨gk14, 0, none⟩ (by kernel_rfl) (.agg (Cm.cells ⟨4, 3, 9, ⟨#[]⟩, 0, 0, 0, 0, 0⟩)) (run_load_part (cs := Cm.cs ⟨4, 3, 9, ⟨#[]⟩, 0, 0, 0, 0, 0⟩) (sub := Cm.cs ⟨4, 3, 9, ⟨#[]⟩, 0, 0, 0, 0, 0⟩) (HF.out.box 2 _ _ _ rfl) (Part.all _) Try.und29 rfl Try.size29)) ?_
        try simp only [pA, pB, p1, p2, p3]
        refine tK (.int .i64 room) ?_
        try simp only [pA, pB, p1, p2, p3]
        refine wp_callW 6 #[.agg (Bv.cells ⟨bu, ⟨ba, bn, bc⟩, ⟨la, ln, lc⟩⟩), .agg (Cm.cells ⟨4, 3, 9, ⟨#[]⟩, 0, 0, 0, 0, 0⟩), .int .i64 room] (by kernel_rfl) _ (apply_list bu ba bn bc la ln lc bes bls room _ hbu.1 (by omega) (HBEs.out.no HK0.out).rd (HBLs.out.no HK0.out).rd (by omega) (by omega)) (by kernel_rfl) ?_
        have hb_HKe_t5 : ∀ k, Gx.EB K k → k < wr.heap.size := fun k e => ((HKes.out.no HK0.out).at e).2.1
        have hb_HLe_t5 : ∀ k, Gx.EB L k → k < wr.heap.size := fun k e => ((HLes.out.no HK0.out).at e).2.1
        have hb_HAe_t5 : ∀ k, Gx.EB A k → k < wr.heap.size := fun k e => ((HAes.out.no HK0.out).at e).2.1
        have hlo_t5 : lo ≤ wr.heap.size := (HSzs.out.no HK0.out)
        have hw_t5 : w.heap.size ≤ wr.heap.size := HF.out.kept.size
        have hs0_t5 : wr.heap.size ≤ s0 := Nat.le_of_eq HS0.out
        rintro e9 wk49 ⟨⟨xa51, xn51, xc51⟩, ⟨xa52, xn52, xc52⟩, ⟨xa53, xn53, xc53⟩, rfl, hse, hsl, hsx, hap5, hk⟩
        have HK0 : Hid (Kept No wr (wk49)) := HK0.out.no hk
        have HF : Hid (Fr No w (wk49) [(gk1, 26, Bv.cells ⟨bu, ⟨ba, bn, bc⟩, ⟨la, ln, lc⟩⟩), (gk11, 26, Bv.cells ⟨bu, ⟨va, vn, vc⟩, ⟨ua, un, uc⟩⟩), (gk14, 31, Cm.cells ⟨4, 3, 9, ⟨#[]⟩, 0, 0, 0, 0, 0⟩), (gk17, 31, Cm.cells ⟨1, 3, 9, ⟨#[111, 119, 110]⟩, 0, 0, 0, 0, 0⟩)]) := HF.out.no hk
        have HX516 : Hid (OwE wk49 wr.heap.size ⟨xa51, xn51, xc51⟩ bes) := hse
        have HX526 : Hid (OwL wk49 wr.heap.size ⟨xa52, xn52, xc52⟩ bls) := hsl
        have HX536 : Hid (OwE wk49 wr.heap.size ⟨xa53, xn53, xc53⟩ bes) := hsx
        have hap5 : ∀ k, At xa53 k → ¬ At xa51 k := hap5
        clear hse hsl hsx hk
        generalize wr.heap.size = t5 at hb_HKe_t5 hb_HLe_t5 hb_HAe_t5 hlo_t5 hw_t5 hs0_t5 HX516 HX526 HX536
        have HK1 : Hid (Kept No wk49 wk49) := Kept.refl _ _
        obtain ⟨s1, hs1⟩ : ∃ n, wk49.heap.size = n := ⟨_, rfl⟩
        have HS1 : Hid (wk49.heap.size = s1) := hs1
        clear hs1
        refine ⟨.tuple #[.agg (Bv.cells ⟨bu + 1, ⟨xa51, xn51, xc51⟩, ⟨xa52, xn52, xc52⟩⟩), .agg (Av.cells ⟨0, enZ, ⟨xa53, xn53, xc53⟩⟩), .int .i64 0], rfl, ?_⟩
        try simp only [pA, pB, p1, p2, p3]
        refine tK (.tuple #[.agg (Bv.cells ⟨bu + 1, ⟨xa51, xn51, xc51⟩, ⟨xa52, xn52, xc52⟩⟩), .agg (Av.cells ⟨0, enZ, ⟨xa53, xn53, xc53⟩⟩), .int .i64 0]) ?_
        try simp only [pA, pB, p1, p2, p3]
        refine tK (.agg (Bv.cells ⟨bu + 1, ⟨xa51, xn51, xc51⟩, ⟨xa52, xn52, xc52⟩⟩)) ?_
        try simp only [pA, pB, p1, p2, p3]
        refine tK (.agg (Av.cells ⟨0, enZ, ⟨xa53, xn53, xc53⟩⟩)) ?_
        try simp only [pA, pB, p1, p2, p3]
        refine tK (.int .i64 0) ?_
        try simp only [pA, pB, p1, p2, p3]
        refine wp_runW (.pointer (some ⟨wk49.heap.size, 0, none⟩)) (wk49.alloc (.cells (Bv.cells bvZ) 26)) (exec_alloc 26 rfl (Bv.cells bvZ) zero25) (by kernel_rfl) ?_
        try simp only [pA, pB, p1, p2, p3]
        have hx0_gk50 : s0 ≤ wk49.heap.size := by rw [← HS0.out]; exact HK0.out.size
        have hx1_gk50 : s1 ≤ wk49.heap.size := by rw [← HS1.out]; exact HK1.out.size
        have HK0 : Hid (Kept No wr (wk49.alloc (.cells (Bv.cells bvZ) 26))) := HK0.out.no ((Kept.refl No _).alloc _)
        have HK1 : Hid (Kept No wk49 (wk49.alloc (.cells (Bv.cells bvZ) 26))) := HK1.out.no ((Kept.refl No _).alloc _)
        have HF : Hid (Fr No w (wk49.alloc (.cells (Bv.cells bvZ) 26)) [(gk1, 26, Bv.cells ⟨bu, ⟨ba, bn, bc⟩, ⟨la, ln, lc⟩⟩), (gk11, 26, Bv.cells ⟨bu, ⟨va, vn, vc⟩, ⟨ua, un, uc⟩⟩), (gk14, 31, Cm.cells ⟨4, 3, 9, ⟨#[]⟩, 0, 0, 0, 0, 0⟩), (gk17, 31, Cm.cells ⟨1, 3, 9, ⟨#[111, 119, 110]⟩, 0, 0, 0, 0, 0⟩), (wk49.heap.size, 26, Bv.cells bvZ)]) := HF.out.alloc _ _
        generalize wk49.alloc (.cells (Bv.cells bvZ) 26) = wk51 at HF HK0 HK1 ⊢
        generalize wk49.heap.size = gk50 at HF hx0_gk50 hx1_gk50 ⊢
        refine wp_runW (.pointer (some ⟨wk51.heap.size, 0, none⟩)) (wk51.alloc (.cells (Av.cells avZ) 36)) (exec_alloc 36 rfl (Av.cells avZ) zero56) (by kernel_rfl) ?_
        try simp only [pA, pB, p1, p2, p3]
        have hx0_gk52 : s0 ≤ wk51.heap.size := by rw [← HS0.out]; exact HK0.out.size
        have hx1_gk52 : s1 ≤ wk51.heap.size := by rw [← HS1.out]; exact HK1.out.size
        have HK0 : Hid (Kept No wr (wk51.alloc (.cells (Av.cells avZ) 36))) := HK0.out.no ((Kept.refl No _).alloc _)
        have HK1 : Hid (Kept No wk49 (wk51.alloc (.cells (Av.cells avZ) 36))) := HK1.out.no ((Kept.refl No _).alloc _)
        have HF : Hid (Fr No w (wk51.alloc (.cells (Av.cells avZ) 36)) [(gk1, 26, Bv.cells ⟨bu, ⟨ba, bn, bc⟩, ⟨la, ln, lc⟩⟩), (gk11, 26, Bv.cells ⟨bu, ⟨va, vn, vc⟩, ⟨ua, un, uc⟩⟩), (gk14, 31, Cm.cells ⟨4, 3, 9, ⟨#[]⟩, 0, 0, 0, 0, 0⟩), (gk17, 31, Cm.cells ⟨1, 3, 9, ⟨#[111, 119, 110]⟩, 0, 0, 0, 0, 0⟩), (gk50, 26, Bv.cells bvZ), (wk51.heap.size, 36, Av.cells avZ)]) := HF.out.alloc _ _
        generalize wk51.alloc (.cells (Av.cells avZ) 36) = wk53 at HF HK0 HK1 ⊢
        generalize wk51.heap.size = gk52 at HF hx0_gk52 hx1_gk52 ⊢
        refine wp_storeW 26 _ _ rfl ⟨gk50, 0, none⟩ (.agg (Bv.cells ⟨bu + 1, ⟨xa51, xn51, xc51⟩, ⟨xa52, xn52, xc52⟩⟩)) (by kernel_rfl) (by kernel_rfl) (wk53.setRow gk50 (Bv.cells ⟨bu + 1, ⟨xa51, xn51, xc51⟩, ⟨xa52, xn52, xc52⟩⟩)) (run_store_to (cur := Bv.cs bvZ) (vs := Bv.cs ⟨bu + 1, ⟨xa51, xn51, xc51⟩, ⟨xa52, xn52, xc52⟩⟩) (new := Bv.cs ⟨bu + 1, ⟨xa51, xn51, xc51⟩, ⟨xa52, xn52, xc52⟩⟩) (HF.out.box 4 _ _ _ rfl) (by kernel_rfl) Try.size25 (Nat.le_of_ble_eq_true (by kernel_rfl)) (Bv.oneL _) (by kernel_rfl)) (by kernel_rfl) ?_
        try simp only [pA, pB, p1, p2, p3]
        have HK0 : Hid (Kept No wr (wk53.setRow gk50 (Bv.cells ⟨bu + 1, ⟨xa51, xn51, xc51⟩, ⟨xa52, xn52, xc52⟩⟩))) := HK0.out.newRow (by rw [HS0.out]; exact hx0_gk50) _
        have HK1 : Hid (Kept No wk49 (wk53.setRow gk50 (Bv.cells ⟨bu + 1, ⟨xa51, xn51, xc51⟩, ⟨xa52, xn52, xc52⟩⟩))) := HK1.out.newRow (by rw [HS1.out]; exact hx1_gk50) _
        have HF : Hid (Fr No w (wk53.setRow gk50 (Bv.cells ⟨bu + 1, ⟨xa51, xn51, xc51⟩, ⟨xa52, xn52, xc52⟩⟩)) [(gk1, 26, Bv.cells ⟨bu, ⟨ba, bn, bc⟩, ⟨la, ln, lc⟩⟩), (gk11, 26, Bv.cells ⟨bu, ⟨va, vn, vc⟩, ⟨ua, un, uc⟩⟩), (gk14, 31, Cm.cells ⟨4, 3, 9, ⟨#[]⟩, 0, 0, 0, 0, 0⟩), (gk17, 31, Cm.cells ⟨1, 3, 9, ⟨#[111, 119, 110]⟩, 0, 0, 0, 0, 0⟩), (gk50, 26, Bv.cells ⟨bu + 1, ⟨xa51, xn51, xc51⟩, ⟨xa52, xn52, xc52⟩⟩), (gk52, 36, Av.cells avZ)]) := HF.out.set 4 rfl _
        generalize wk53.setRow gk50 (Bv.cells ⟨bu + 1, ⟨xa51, xn51, xc51⟩, ⟨xa52, xn52, xc52⟩⟩) = wk54 at HF HK0 HK1 ⊢
        refine wp_storeW 36 _ _ rfl ⟨gk52, 0, none⟩ (.agg (Av.cells ⟨0, enZ, ⟨xa53, xn53, xc53⟩⟩)) (by kernel_rfl) (by kernel_rfl) (wk54.setRow gk52 (Av.cells ⟨0, enZ, ⟨xa53, xn53, xc53⟩⟩)) (run_store_to (cur := Av.cs avZ) (vs := Av.cs ⟨0, enZ, ⟨xa53, xn53, xc53⟩⟩) (new := Av.cs ⟨0, enZ, ⟨xa53, xn53, xc53⟩⟩) (HF.out.box 5 _ _ _ rfl) (by kernel_rfl) Try.size56 (Nat.le_of_ble_eq_true (by kernel_rfl)) (Av.oneL _) (by kernel_rfl)) (by kernel_rfl) ?_
        try simp only [pA, pB, p1, p2, p3]
        have HK0 : Hid (Kept No wr (wk54.setRow gk52 (Av.cells ⟨0, enZ, ⟨xa53, xn53, xc53⟩⟩))) := HK0.out.newRow (by rw [HS0.out]; exact hx0_gk52) _
        have HK1 : Hid (Kept No wk49 (wk54.setRow gk52 (Av.cells ⟨0, enZ, ⟨xa53, xn53, xc53⟩⟩))) := HK1.out.newRow (by rw [HS1.out]; exact hx1_gk52) _
        have HF : Hid (Fr No w (wk54.setRow gk52 (Av.cells ⟨0, enZ, ⟨xa53, xn53, xc53⟩⟩)) [(gk1, 26, Bv.cells ⟨bu, ⟨ba, bn, bc⟩, ⟨la, ln, lc⟩⟩), (gk11, 26, Bv.cells ⟨bu, ⟨va, vn, vc⟩, ⟨ua, un, uc⟩⟩), (gk14, 31, Cm.cells ⟨4, 3, 9, ⟨#[]⟩, 0, 0, 0, 0, 0⟩), (gk17, 31, Cm.cells ⟨1, 3, 9, ⟨#[111, 119, 110]⟩, 0, 0, 0, 0, 0⟩), (gk50, 26, Bv.cells ⟨bu + 1, ⟨xa51, xn51, xc51⟩, ⟨xa52, xn52, xc52⟩⟩), (gk52, 36, Av.cells ⟨0, enZ, ⟨xa53, xn53, xc53⟩⟩)]) := HF.out.set 5 rfl _
        generalize wk54.setRow gk52 (Av.cells ⟨0, enZ, ⟨xa53, xn53, xc53⟩⟩) = wk55 at HF HK0 HK1 ⊢
        refine tK (.int .i64 0) ?_
        try simp only [pA, pB, p1, p2, p3]
        refine WL.nil ?_
        try simp only [pA, pB, p1, p2, p3]
        have hg27 : t5 ≤ gk52 := Nat.le_trans hs0_t5 hx0_gk52
        have HKr : Hid (Gx.Rw Gx.DE wk55 w.heap.size ka kc K) := HKrs.out.no HK0.out
        have HKe : Hid (Gx.ErX Gx.DE wk55 lo K) := HKes.out.no HK0.out
        have HLr : Hid (Gx.Rw Gx.DL wk55 w.heap.size pa pc L) := HLrs.out.no HK0.out
        have HLe : Hid (Gx.ErX Gx.DL wk55 lo L) := HLes.out.no HK0.out
        have HAr : Hid (Gx.Rw Gx.DA wk55 w.heap.size aa ac A) := HArs.out.no HK0.out
        have HAe : Hid (Gx.ErX Gx.DA wk55 lo A) := HAes.out.no HK0.out
        have HSz : Hid (SzL lo wk55) := HSzs.out.no HK0.out
        have HBE : Hid (OwE wk55 w.heap.size ⟨ba, bn, bc⟩ bes) := HBEs.out.no HK0.out
        have HBL : Hid (OwL wk55 w.heap.size ⟨la, ln, lc⟩ bls) := HBLs.out.no HK0.out
        have HWE : Hid (OwE wk55 w.heap.size ⟨va, vn, vc⟩ bes) := HWEs.out.no HK0.out
        have HWL : Hid (OwL wk55 w.heap.size ⟨ua, un, uc⟩ bls) := HWLs.out.no HK0.out
        have HX51 : Hid (OwE wk55 t5 ⟨xa51, xn51, xc51⟩ bes) := HX516.out.no HK1.out
        have HX52 : Hid (OwL wk55 t5 ⟨xa52, xn52, xc52⟩ bls) := HX526.out.no HK1.out
        have HX53 : Hid (OwE wk55 t5 ⟨xa53, xn53, xc53⟩ bes) := HX536.out.no HK1.out
        clear HKrs HKes HLrs HLes HArs HAes HSzs HBEs HBLs HWEs HWLs HX516 HX526 HX536 HK1 HS1 HK0 HS0 hx0_gk50 hx1_gk50 hx0_gk52 hx1_gk52
        go_upto_region 28 with fail
        refine WL.start ?_
        refine tK (.slice aa j ac) ?_
        try simp only [pA, pB, p1, p2, p3]
        refine wp_callW 13 #[.slice aa j ac] (by kernel_rfl) _ (grownA_x aa j ac w.heap.size lo A _ HAr.out HAe.out hAl (by omega) HSz.out HF.out.kept.size) (by kernel_rfl) ?_
        rintro e9 wk56 ⟨rfl, hk⟩
        have HKrn : Hid (Gx.Rw Gx.DE wk56 w.heap.size ka kc K) := Gx.Rw.kept HKr.out hk (HAe.out.not HKr.out (by decide))
        have HKen : Hid (Gx.ErX Gx.DE wk56 lo K) := HKe.out.kept hk (Gx.ErX.disj HKe.out HAe.out (by decide))
        have HLrn : Hid (Gx.Rw Gx.DL wk56 w.heap.size pa pc L) := Gx.Rw.kept HLr.out hk (HAe.out.not HLr.out (by decide))
        have HLen : Hid (Gx.ErX Gx.DL wk56 lo L) := HLe.out.kept hk (Gx.ErX.disj HLe.out HAe.out (by decide))
        have HSzn : Hid (SzL lo wk56) := Nat.le_trans HSz.out hk.size
        have HBEn : Hid (OwE wk56 w.heap.size ⟨ba, bn, bc⟩ bes) := HBE.out.kept hk (fun k e f => by have h1 := hl_HBE k e; have h2 := (HAe.out.at f).1; omega)
        have HBLn : Hid (OwL wk56 w.heap.size ⟨la, ln, lc⟩ bls) := HBL.out.kept hk (fun k e f => by have h1 := hl_HBL k e; have h2 := (HAe.out.at f).1; omega)
        have HWEn : Hid (OwE wk56 w.heap.size ⟨va, vn, vc⟩ bes) := HWE.out.kept hk (fun k e f => by have h1 := hl_HWE k e; have h2 := (HAe.out.at f).1; omega)
        have HWLn : Hid (OwL wk56 w.heap.size ⟨ua, un, uc⟩ bls) := HWL.out.kept hk (fun k e f => by have h1 := hl_HWL k e; have h2 := (HAe.out.at f).1; omega)
        have HX51n : Hid (OwE wk56 t5 ⟨xa51, xn51, xc51⟩ bes) := HX51.out.kept hk (fun k e f => by have h1 := hb_HAe_t5 k f; have h2 := HX51.out.own.base e; omega)
        have HX52n : Hid (OwL wk56 t5 ⟨xa52, xn52, xc52⟩ bls) := HX52.out.kept hk (fun k e f => by have h1 := hb_HAe_t5 k f; have h2 := HX52.out.own.base e; omega)
        have HX53n : Hid (OwE wk56 t5 ⟨xa53, xn53, xc53⟩ bes) := HX53.out.kept hk (fun k e f => by have h1 := hb_HAe_t5 k f; have h2 := HX53.out.own.base e; omega)
        have hne9 : ∀ y ∈ [(gk1, 26, Bv.cells ⟨bu, ⟨ba, bn, bc⟩, ⟨la, ln, lc⟩⟩), (gk11, 26, Bv.cells ⟨bu, ⟨va, vn, vc⟩, ⟨ua, un, uc⟩⟩), (gk14, 31, Cm.cells ⟨4, 3, 9, ⟨#[]⟩, 0, 0, 0, 0, 0⟩), (gk17, 31, Cm.cells ⟨1, 3, 9, ⟨#[111, 119, 110]⟩, 0, 0, 0, 0, 0⟩), (gk50, 26, Bv.cells ⟨bu + 1, ⟨xa51, xn51, xc51⟩, ⟨xa52, xn52, xc52⟩⟩), (gk52, 36, Av.cells ⟨0, enZ, ⟨xa53, xn53, xc53⟩⟩)], ¬ Gx.EB A y.1 := fun y hy e => by
          simp only [List.mem_cons, List.not_mem_nil, or_false] at hy
          rcases hy with rfl | rfl | rfl | rfl | rfl | rfl
          · obtain ⟨_, _, cur, hb⟩ := HAe.out.at e; exact box_ne (HF.out.box 0 _ _ _ rfl) hb (by decide) rfl
          · obtain ⟨_, _, cur, hb⟩ := HAe.out.at e; exact box_ne (HF.out.box 1 _ _ _ rfl) hb (by decide) rfl
          · obtain ⟨_, _, cur, hb⟩ := HAe.out.at e; exact box_ne (HF.out.box 2 _ _ _ rfl) hb (by decide) rfl
          · obtain ⟨_, _, cur, hb⟩ := HAe.out.at e; exact box_ne (HF.out.box 3 _ _ _ rfl) hb (by decide) rfl
          · obtain ⟨_, _, cur, hb⟩ := HAe.out.at e; exact box_ne (HF.out.box 4 _ _ _ rfl) hb (by decide) rfl
          · have h1 := hb_HAe_t5 _ e; have h1 : gk52 < t5 := h1; omega
        have HFn : Hid (Fr No w wk56 [(gk1, 26, Bv.cells ⟨bu, ⟨ba, bn, bc⟩, ⟨la, ln, lc⟩⟩), (gk11, 26, Bv.cells ⟨bu, ⟨va, vn, vc⟩, ⟨ua, un, uc⟩⟩), (gk14, 31, Cm.cells ⟨4, 3, 9, ⟨#[]⟩, 0, 0, 0, 0, 0⟩), (gk17, 31, Cm.cells ⟨1, 3, 9, ⟨#[111, 119, 110]⟩, 0, 0, 0, 0, 0⟩), (gk50, 26, Bv.cells ⟨bu + 1, ⟨xa51, xn51, xc51⟩, ⟨xa52, xn52, xc52⟩⟩), (gk52, 36, Av.cells ⟨0, enZ, ⟨xa53, xn53, xc53⟩⟩)]) := HF.out.lent hk (fun k e => by have h1 := (HAe.out.at e).1; omega) hne9
        clear HF hk hne9 HAr HAe HKr HKe HLr HLe HSz HBE HBL HWE HWL HX51 HX52 HX53
        have HKr : Hid (Gx.Rw Gx.DE wk56 w.heap.size ka kc K) := HKrn
        have HKe : Hid (Gx.ErX Gx.DE wk56 lo K) := HKen
        have HLr : Hid (Gx.Rw Gx.DL wk56 w.heap.size pa pc L) := HLrn
        have HLe : Hid (Gx.ErX Gx.DL wk56 lo L) := HLen
        have HSz : Hid (SzL lo wk56) := HSzn
        have HBE : Hid (OwE wk56 w.heap.size ⟨ba, bn, bc⟩ bes) := HBEn
        have HBL : Hid (OwL wk56 w.heap.size ⟨la, ln, lc⟩ bls) := HBLn
        have HWE : Hid (OwE wk56 w.heap.size ⟨va, vn, vc⟩ bes) := HWEn
        have HWL : Hid (OwL wk56 w.heap.size ⟨ua, un, uc⟩ bls) := HWLn
        have HX51 : Hid (OwE wk56 t5 ⟨xa51, xn51, xc51⟩ bes) := HX51n
        have HX52 : Hid (OwL wk56 t5 ⟨xa52, xn52, xc52⟩ bls) := HX52n
        have HX53 : Hid (OwE wk56 t5 ⟨xa53, xn53, xc53⟩ bes) := HX53n
        have HF : Hid (Fr No w wk56 [(gk1, 26, Bv.cells ⟨bu, ⟨ba, bn, bc⟩, ⟨la, ln, lc⟩⟩), (gk11, 26, Bv.cells ⟨bu, ⟨va, vn, vc⟩, ⟨ua, un, uc⟩⟩), (gk14, 31, Cm.cells ⟨4, 3, 9, ⟨#[]⟩, 0, 0, 0, 0, 0⟩), (gk17, 31, Cm.cells ⟨1, 3, 9, ⟨#[111, 119, 110]⟩, 0, 0, 0, 0, 0⟩), (gk50, 26, Bv.cells ⟨bu + 1, ⟨xa51, xn51, xc51⟩, ⟨xa52, xn52, xc52⟩⟩), (gk52, 36, Av.cells ⟨0, enZ, ⟨xa53, xn53, xc53⟩⟩)]) := HFn
        clear HFn HKrn HKen HLrn HLen HSzn HBEn HBLn HWEn HWLn HX51n HX52n HX53n
        refine ⟨.bool true, rfl, ?_⟩
        try simp only [pA, pB, p1, p2, p3]
        refine tK (.bool false) ?_
        try simp only [pA, pB, p1, p2, p3]
        refine tK (.bool false) ?_
        try simp only [pA, pB, p1, p2, p3]
        refine tK (.slice ka (8 * j) kc) ?_
        try simp only [pA, pB, p1, p2, p3]
        refine wp_callW 14 #[.slice ka (8 * j) kc] (by kernel_rfl) _ (grownE_x ka (8 * j) kc w.heap.size lo K _ HKr.out HKe.out hKl (by omega) HSz.out HF.out.kept.size) (by kernel_rfl) ?_
        rintro e9 wk57 ⟨rfl, hk⟩
        have HLrn : Hid (Gx.Rw Gx.DL wk57 w.heap.size pa pc L) := Gx.Rw.kept HLr.out hk (HKe.out.not HLr.out (by decide))
        have HLen : Hid (Gx.ErX Gx.DL wk57 lo L) := HLe.out.kept hk (Gx.ErX.disj HLe.out HKe.out (by decide))
        have HSzn : Hid (SzL lo wk57) := Nat.le_trans HSz.out hk.size
        have HBEn : Hid (OwE wk57 w.heap.size ⟨ba, bn, bc⟩ bes) := HBE.out.kept hk (fun k e f => by have h1 := hl_HBE k e; have h2 := (HKe.out.at f).1; omega)
        have HBLn : Hid (OwL wk57 w.heap.size ⟨la, ln, lc⟩ bls) := HBL.out.kept hk (fun k e f => by have h1 := hl_HBL k e; have h2 := (HKe.out.at f).1; omega)
        have HWEn : Hid (OwE wk57 w.heap.size ⟨va, vn, vc⟩ bes) := HWE.out.kept hk (fun k e f => by have h1 := hl_HWE k e; have h2 := (HKe.out.at f).1; omega)
        have HWLn : Hid (OwL wk57 w.heap.size ⟨ua, un, uc⟩ bls) := HWL.out.kept hk (fun k e f => by have h1 := hl_HWL k e; have h2 := (HKe.out.at f).1; omega)
        have HX51n : Hid (OwE wk57 t5 ⟨xa51, xn51, xc51⟩ bes) := HX51.out.kept hk (fun k e f => by have h1 := hb_HKe_t5 k f; have h2 := HX51.out.own.base e; omega)
        have HX52n : Hid (OwL wk57 t5 ⟨xa52, xn52, xc52⟩ bls) := HX52.out.kept hk (fun k e f => by have h1 := hb_HKe_t5 k f; have h2 := HX52.out.own.base e; omega)
        have HX53n : Hid (OwE wk57 t5 ⟨xa53, xn53, xc53⟩ bes) := HX53.out.kept hk (fun k e f => by have h1 := hb_HKe_t5 k f; have h2 := HX53.out.own.base e; omega)
        have hne9 : ∀ y ∈ [(gk1, 26, Bv.cells ⟨bu, ⟨ba, bn, bc⟩, ⟨la, ln, lc⟩⟩), (gk11, 26, Bv.cells ⟨bu, ⟨va, vn, vc⟩, ⟨ua, un, uc⟩⟩), (gk14, 31, Cm.cells ⟨4, 3, 9, ⟨#[]⟩, 0, 0, 0, 0, 0⟩), (gk17, 31, Cm.cells ⟨1, 3, 9, ⟨#[111, 119, 110]⟩, 0, 0, 0, 0, 0⟩), (gk50, 26, Bv.cells ⟨bu + 1, ⟨xa51, xn51, xc51⟩, ⟨xa52, xn52, xc52⟩⟩), (gk52, 36, Av.cells ⟨0, enZ, ⟨xa53, xn53, xc53⟩⟩)], ¬ Gx.EB K y.1 := fun y hy e => by
          simp only [List.mem_cons, List.not_mem_nil, or_false] at hy
          rcases hy with rfl | rfl | rfl | rfl | rfl | rfl
          · obtain ⟨_, _, cur, hb⟩ := HKe.out.at e; exact box_ne (HF.out.box 0 _ _ _ rfl) hb (by decide) rfl
          · obtain ⟨_, _, cur, hb⟩ := HKe.out.at e; exact box_ne (HF.out.box 1 _ _ _ rfl) hb (by decide) rfl
          · obtain ⟨_, _, cur, hb⟩ := HKe.out.at e; exact box_ne (HF.out.box 2 _ _ _ rfl) hb (by decide) rfl
          · obtain ⟨_, _, cur, hb⟩ := HKe.out.at e; exact box_ne (HF.out.box 3 _ _ _ rfl) hb (by decide) rfl
          · obtain ⟨_, _, cur, hb⟩ := HKe.out.at e; exact box_ne (HF.out.box 4 _ _ _ rfl) hb (by decide) rfl
          · obtain ⟨_, _, cur, hb⟩ := HKe.out.at e; exact box_ne (HF.out.box 5 _ _ _ rfl) hb (by decide) rfl
        have HFn : Hid (Fr No w wk57 [(gk1, 26, Bv.cells ⟨bu, ⟨ba, bn, bc⟩, ⟨la, ln, lc⟩⟩), (gk11, 26, Bv.cells ⟨bu, ⟨va, vn, vc⟩, ⟨ua, un, uc⟩⟩), (gk14, 31, Cm.cells ⟨4, 3, 9, ⟨#[]⟩, 0, 0, 0, 0, 0⟩), (gk17, 31, Cm.cells ⟨1, 3, 9, ⟨#[111, 119, 110]⟩, 0, 0, 0, 0, 0⟩), (gk50, 26, Bv.cells ⟨bu + 1, ⟨xa51, xn51, xc51⟩, ⟨xa52, xn52, xc52⟩⟩), (gk52, 36, Av.cells ⟨0, enZ, ⟨xa53, xn53, xc53⟩⟩)]) := HF.out.lent hk (fun k e => by have h1 := (HKe.out.at e).1; omega) hne9
        clear HF hk hne9 HKr HKe HLr HLe HSz HBE HBL HWE HWL HX51 HX52 HX53
        have HLr : Hid (Gx.Rw Gx.DL wk57 w.heap.size pa pc L) := HLrn
        have HLe : Hid (Gx.ErX Gx.DL wk57 lo L) := HLen
        have HSz : Hid (SzL lo wk57) := HSzn
        have HBE : Hid (OwE wk57 w.heap.size ⟨ba, bn, bc⟩ bes) := HBEn
        have HBL : Hid (OwL wk57 w.heap.size ⟨la, ln, lc⟩ bls) := HBLn
        have HWE : Hid (OwE wk57 w.heap.size ⟨va, vn, vc⟩ bes) := HWEn
        have HWL : Hid (OwL wk57 w.heap.size ⟨ua, un, uc⟩ bls) := HWLn
        have HX51 : Hid (OwE wk57 t5 ⟨xa51, xn51, xc51⟩ bes) := HX51n
        have HX52 : Hid (OwL wk57 t5 ⟨xa52, xn52, xc52⟩ bls) := HX52n
        have HX53 : Hid (OwE wk57 t5 ⟨xa53, xn53, xc53⟩ bes) := HX53n
        have HF : Hid (Fr No w wk57 [(gk1, 26, Bv.cells ⟨bu, ⟨ba, bn, bc⟩, ⟨la, ln, lc⟩⟩), (gk11, 26, Bv.cells ⟨bu, ⟨va, vn, vc⟩, ⟨ua, un, uc⟩⟩), (gk14, 31, Cm.cells ⟨4, 3, 9, ⟨#[]⟩, 0, 0, 0, 0, 0⟩), (gk17, 31, Cm.cells ⟨1, 3, 9, ⟨#[111, 119, 110]⟩, 0, 0, 0, 0, 0⟩), (gk50, 26, Bv.cells ⟨bu + 1, ⟨xa51, xn51, xc51⟩, ⟨xa52, xn52, xc52⟩⟩), (gk52, 36, Av.cells ⟨0, enZ, ⟨xa53, xn53, xc53⟩⟩)]) := HFn
        clear HFn HLrn HLen HSzn HBEn HBLn HWEn HWLn HX51n HX52n HX53n
        refine ⟨.bool true, rfl, ?_⟩
        try simp only [pA, pB, p1, p2, p3]
        refine tK (.bool false) ?_
        try simp only [pA, pB, p1, p2, p3]
        refine tK (.bool false) ?_
        try simp only [pA, pB, p1, p2, p3]
        refine tK (.bool false) ?_
        try simp only [pA, pB, p1, p2, p3]
        refine tK (.slice pa (4 * j) pc) ?_
        try simp only [pA, pB, p1, p2, p3]
        refine wp_callW 15 #[.slice pa (4 * j) pc] (by kernel_rfl) _ (grownL_x pa (4 * j) pc w.heap.size lo L _ HLr.out HLe.out hLl (by omega) HSz.out HF.out.kept.size) (by kernel_rfl) ?_
        rintro e9 wk58 ⟨rfl, hk⟩
        have HSzn : Hid (SzL lo wk58) := Nat.le_trans HSz.out hk.size
        have HBEn : Hid (OwE wk58 w.heap.size ⟨ba, bn, bc⟩ bes) := HBE.out.kept hk (fun k e f => by have h1 := hl_HBE k e; have h2 := (HLe.out.at f).1; omega)
        have HBLn : Hid (OwL wk58 w.heap.size ⟨la, ln, lc⟩ bls) := HBL.out.kept hk (fun k e f => by have h1 := hl_HBL k e; have h2 := (HLe.out.at f).1; omega)
        have HWEn : Hid (OwE wk58 w.heap.size ⟨va, vn, vc⟩ bes) := HWE.out.kept hk (fun k e f => by have h1 := hl_HWE k e; have h2 := (HLe.out.at f).1; omega)
        have HWLn : Hid (OwL wk58 w.heap.size ⟨ua, un, uc⟩ bls) := HWL.out.kept hk (fun k e f => by have h1 := hl_HWL k e; have h2 := (HLe.out.at f).1; omega)
        have HX51n : Hid (OwE wk58 t5 ⟨xa51, xn51, xc51⟩ bes) := HX51.out.kept hk (fun k e f => by have h1 := hb_HLe_t5 k f; have h2 := HX51.out.own.base e; omega)
        have HX52n : Hid (OwL wk58 t5 ⟨xa52, xn52, xc52⟩ bls) := HX52.out.kept hk (fun k e f => by have h1 := hb_HLe_t5 k f; have h2 := HX52.out.own.base e; omega)
        have HX53n : Hid (OwE wk58 t5 ⟨xa53, xn53, xc53⟩ bes) := HX53.out.kept hk (fun k e f => by have h1 := hb_HLe_t5 k f; have h2 := HX53.out.own.base e; omega)
        have hne9 : ∀ y ∈ [(gk1, 26, Bv.cells ⟨bu, ⟨ba, bn, bc⟩, ⟨la, ln, lc⟩⟩), (gk11, 26, Bv.cells ⟨bu, ⟨va, vn, vc⟩, ⟨ua, un, uc⟩⟩), (gk14, 31, Cm.cells ⟨4, 3, 9, ⟨#[]⟩, 0, 0, 0, 0, 0⟩), (gk17, 31, Cm.cells ⟨1, 3, 9, ⟨#[111, 119, 110]⟩, 0, 0, 0, 0, 0⟩), (gk50, 26, Bv.cells ⟨bu + 1, ⟨xa51, xn51, xc51⟩, ⟨xa52, xn52, xc52⟩⟩), (gk52, 36, Av.cells ⟨0, enZ, ⟨xa53, xn53, xc53⟩⟩)], ¬ Gx.EB L y.1 := fun y hy e => by
          simp only [List.mem_cons, List.not_mem_nil, or_false] at hy
          rcases hy with rfl | rfl | rfl | rfl | rfl | rfl
          · obtain ⟨_, _, cur, hb⟩ := HLe.out.at e; exact box_ne (HF.out.box 0 _ _ _ rfl) hb (by decide) rfl
          · obtain ⟨_, _, cur, hb⟩ := HLe.out.at e; exact box_ne (HF.out.box 1 _ _ _ rfl) hb (by decide) rfl
          · obtain ⟨_, _, cur, hb⟩ := HLe.out.at e; exact box_ne (HF.out.box 2 _ _ _ rfl) hb (by decide) rfl
          · obtain ⟨_, _, cur, hb⟩ := HLe.out.at e; exact box_ne (HF.out.box 3 _ _ _ rfl) hb (by decide) rfl
          · obtain ⟨_, _, cur, hb⟩ := HLe.out.at e; exact box_ne (HF.out.box 4 _ _ _ rfl) hb (by decide) rfl
          · obtain ⟨_, _, cur, hb⟩ := HLe.out.at e; exact box_ne (HF.out.box 5 _ _ _ rfl) hb (by decide) rfl
        have HFn : Hid (Fr No w wk58 [(gk1, 26, Bv.cells ⟨bu, ⟨ba, bn, bc⟩, ⟨la, ln, lc⟩⟩), (gk11, 26, Bv.cells ⟨bu, ⟨va, vn, vc⟩, ⟨ua, un, uc⟩⟩), (gk14, 31, Cm.cells ⟨4, 3, 9, ⟨#[]⟩, 0, 0, 0, 0, 0⟩), (gk17, 31, Cm.cells ⟨1, 3, 9, ⟨#[111, 119, 110]⟩, 0, 0, 0, 0, 0⟩), (gk50, 26, Bv.cells ⟨bu + 1, ⟨xa51, xn51, xc51⟩, ⟨xa52, xn52, xc52⟩⟩), (gk52, 36, Av.cells ⟨0, enZ, ⟨xa53, xn53, xc53⟩⟩)]) := HF.out.lent hk (fun k e => by have h1 := (HLe.out.at e).1; omega) hne9
        clear HF hk hne9 HLr HLe HSz HBE HBL HWE HWL HX51 HX52 HX53
        have HSz : Hid (SzL lo wk58) := HSzn
        have HBE : Hid (OwE wk58 w.heap.size ⟨ba, bn, bc⟩ bes) := HBEn
        have HBL : Hid (OwL wk58 w.heap.size ⟨la, ln, lc⟩ bls) := HBLn
        have HWE : Hid (OwE wk58 w.heap.size ⟨va, vn, vc⟩ bes) := HWEn
        have HWL : Hid (OwL wk58 w.heap.size ⟨ua, un, uc⟩ bls) := HWLn
        have HX51 : Hid (OwE wk58 t5 ⟨xa51, xn51, xc51⟩ bes) := HX51n
        have HX52 : Hid (OwL wk58 t5 ⟨xa52, xn52, xc52⟩ bls) := HX52n
        have HX53 : Hid (OwE wk58 t5 ⟨xa53, xn53, xc53⟩ bes) := HX53n
        have HF : Hid (Fr No w wk58 [(gk1, 26, Bv.cells ⟨bu, ⟨ba, bn, bc⟩, ⟨la, ln, lc⟩⟩), (gk11, 26, Bv.cells ⟨bu, ⟨va, vn, vc⟩, ⟨ua, un, uc⟩⟩), (gk14, 31, Cm.cells ⟨4, 3, 9, ⟨#[]⟩, 0, 0, 0, 0, 0⟩), (gk17, 31, Cm.cells ⟨1, 3, 9, ⟨#[111, 119, 110]⟩, 0, 0, 0, 0, 0⟩), (gk50, 26, Bv.cells ⟨bu + 1, ⟨xa51, xn51, xc51⟩, ⟨xa52, xn52, xc52⟩⟩), (gk52, 36, Av.cells ⟨0, enZ, ⟨xa53, xn53, xc53⟩⟩)]) := HFn
        clear HFn HSzn HBEn HBLn HWEn HWLn HX51n HX52n HX53n
        refine ⟨.bool true, rfl, ?_⟩
        try simp only [pA, pB, p1, p2, p3]
        refine tK (.bool false) ?_
        try simp only [pA, pB, p1, p2, p3]
        refine tK (.bool false) ?_
        try simp only [pA, pB, p1, p2, p3]
        refine WL.nil ?_
        try simp only [pA, pB, p1, p2, p3]
        have HRi : Hid (RiseE bes) := HFi.out.re
        have hx51 : xn51 ≤ 40 := by have h1 : bes.length = xn51 := HX51.out.len; omega
        have hx53 : xn53 ≤ 40 := by have h1 : bes.length = xn53 := HX53.out.len; omega
        have HSzs : Hid (SzL lo wk58) := HSz
        clear HSz
        have HBEs : Hid (OwE wk58 w.heap.size ⟨ba, bn, bc⟩ bes) := HBE
        clear HBE
        have HBLs : Hid (OwL wk58 w.heap.size ⟨la, ln, lc⟩ bls) := HBL
        clear HBL
        have HWEs : Hid (OwE wk58 w.heap.size ⟨va, vn, vc⟩ bes) := HWE
        clear HWE
        have HWLs : Hid (OwL wk58 w.heap.size ⟨ua, un, uc⟩ bls) := HWL
        clear HWL
        have HX51s : Hid (OwE wk58 t5 ⟨xa51, xn51, xc51⟩ bes) := HX51
        clear HX51
        have HX52s : Hid (OwL wk58 t5 ⟨xa52, xn52, xc52⟩ bls) := HX52
        clear HX52
        have HX53s : Hid (OwE wk58 t5 ⟨xa53, xn53, xc53⟩ bes) := HX53
        clear HX53
        have HK0 : Hid (Kept No wk58 wk58) := Kept.refl _ _
        obtain ⟨s0, hs0⟩ : ∃ n, wk58.heap.size = n := ⟨_, rfl⟩
        have HS0 : Hid (wk58.heap.size = s0) := hs0
        clear hs0
        go_upto_region 30 with fail
        refine WL.start ?_
        refine tW (.agg (Bv.cells ⟨bu, ⟨ba, bn, bc⟩, ⟨la, ln, lc⟩⟩)) (exec_load 26 _ rfl ⟨gk1, 0, none⟩ (by kernel_rfl) (.agg (Bv.cells ⟨bu, ⟨ba, bn, bc⟩, ⟨la, ln, lc⟩⟩)) (run_load_part (cs := Bv.cs ⟨bu, ⟨ba, bn, bc⟩, ⟨la, ln, lc⟩⟩) (sub := Bv.cs ⟨bu, ⟨ba, bn, bc⟩, ⟨la, ln, lc⟩⟩) (HF.out.box 0 _ _ _ rfl) (Part.all _) Try.und25 rfl Try.size25)) ?_
        try simp only [pA, pB, p1, p2, p3]
        refine tW (.agg (Bv.cells ⟨bu, ⟨va, vn, vc⟩, ⟨ua, un, uc⟩⟩)) (exec_load 26 _ rfl ⟨gk11, 0, none⟩ (by kernel_rfl) (.agg (Bv.cells ⟨bu, ⟨va, vn, vc⟩, ⟨ua, un, uc⟩⟩)) (run_load_part (cs := Bv.cs ⟨bu, ⟨va, vn, vc⟩, ⟨ua, un, uc⟩⟩) (sub := Bv.cs ⟨bu, ⟨va, vn, vc⟩, ⟨ua, un, uc⟩⟩) (HF.out.box 1 _ _ _ rfl) (Part.all _) Try.und25 rfl Try.size25)) ?_
        try simp only [pA, pB, p1, p2, p3]
        refine wp_callW 11 #[.agg (Bv.cells ⟨bu, ⟨ba, bn, bc⟩, ⟨la, ln, lc⟩⟩), .agg (Bv.cells ⟨bu, ⟨va, vn, vc⟩, ⟨ua, un, uc⟩⟩)] (by kernel_rfl) _ (sameB_any bu ba bn bc la ln lc bu va vn vc ua un uc bes bes bls bls _ (HBEs.out.no HK0.out).rd (HWEs.out.no HK0.out).rd (HBLs.out.no HK0.out).rd (HWLs.out.no HK0.out).rd (by omega) (by omega)) (by kernel_rfl) ?_
        rintro e wk59 ⟨rfl, hk⟩
        have HK0 : Hid (Kept No wk58 (wk59)) := HK0.out.no hk
        have HF : Hid (Fr No w (wk59) [(gk1, 26, Bv.cells ⟨bu, ⟨ba, bn, bc⟩, ⟨la, ln, lc⟩⟩), (gk11, 26, Bv.cells ⟨bu, ⟨va, vn, vc⟩, ⟨ua, un, uc⟩⟩), (gk14, 31, Cm.cells ⟨4, 3, 9, ⟨#[]⟩, 0, 0, 0, 0, 0⟩), (gk17, 31, Cm.cells ⟨1, 3, 9, ⟨#[111, 119, 110]⟩, 0, 0, 0, 0, 0⟩), (gk50, 26, Bv.cells ⟨bu + 1, ⟨xa51, xn51, xc51⟩, ⟨xa52, xn52, xc52⟩⟩), (gk52, 36, Av.cells ⟨0, enZ, ⟨xa53, xn53, xc53⟩⟩)]) := HF.out.no hk
        clear hk
        refine ⟨.bool true, by rw [sameB_refl], ?_⟩
        try simp only [pA, pB, p1, p2, p3]
        refine tK (.bool true) ?_
        try simp only [pA, pB, p1, p2, p3]
        refine tK (.pointer (some ⟨gk52, 5, none⟩)) ?_
        try simp only [pA, pB, p1, p2, p3]
        refine tW (.slice xa53 xn53 xc53) (exec_load 23 _ rfl ⟨gk52, 5, none⟩ (by kernel_rfl) (.slice xa53 xn53 xc53) (load_one ((HF.out.box 5 _ _ _ rfl).cell 5 |>.trans (by kernel_rfl)) Try.und22 rfl)) ?_
        try simp only [pA, pB, p1, p2, p3]
        refine tK (.pointer (some ⟨gk11, 1, none⟩)) ?_
        try simp only [pA, pB, p1, p2, p3]
        refine tW (.slice va vn vc) (exec_load 23 _ rfl ⟨gk11, 1, none⟩ (by kernel_rfl) (.slice va vn vc) (load_one ((HF.out.box 1 _ _ _ rfl).cell 1 |>.trans (by kernel_rfl)) Try.und22 rfl)) ?_
        try simp only [pA, pB, p1, p2, p3]
        refine wp_callW 12 #[.slice xa53 xn53 xc53, .slice va vn vc] (by kernel_rfl) _ (sameE_any xa53 xn53 xc53 va vn vc bes bes _ (HX53s.out.no HK0.out).rd (HWEs.out.no HK0.out).rd (by omega)) (by kernel_rfl) ?_
        rintro e wk60 ⟨rfl, hk⟩
        have HK0 : Hid (Kept No wk58 (wk60)) := HK0.out.no hk
        have HF : Hid (Fr No w (wk60) [(gk1, 26, Bv.cells ⟨bu, ⟨ba, bn, bc⟩, ⟨la, ln, lc⟩⟩), (gk11, 26, Bv.cells ⟨bu, ⟨va, vn, vc⟩, ⟨ua, un, uc⟩⟩), (gk14, 31, Cm.cells ⟨4, 3, 9, ⟨#[]⟩, 0, 0, 0, 0, 0⟩), (gk17, 31, Cm.cells ⟨1, 3, 9, ⟨#[111, 119, 110]⟩, 0, 0, 0, 0, 0⟩), (gk50, 26, Bv.cells ⟨bu + 1, ⟨xa51, xn51, xc51⟩, ⟨xa52, xn52, xc52⟩⟩), (gk52, 36, Av.cells ⟨0, enZ, ⟨xa53, xn53, xc53⟩⟩)]) := HF.out.no hk
        clear hk
        refine ⟨.bool true, by rw [sameE_iff.2 rfl], ?_⟩
        try simp only [pA, pB, p1, p2, p3]
        refine tK (.bool true) ?_
        try simp only [pA, pB, p1, p2, p3]
        refine tK (.bool true) ?_
        try simp only [pA, pB, p1, p2, p3]
        refine tK (.pointer (some ⟨gk50, 1, none⟩)) ?_
        try simp only [pA, pB, p1, p2, p3]
        refine tW (.slice xa51 xn51 xc51) (exec_load 23 _ rfl ⟨gk50, 1, none⟩ (by kernel_rfl) (.slice xa51 xn51 xc51) (load_one ((HF.out.box 4 _ _ _ rfl).cell 1 |>.trans (by kernel_rfl)) Try.und22 rfl)) ?_
        try simp only [pA, pB, p1, p2, p3]
        refine tK (.pointer (some ⟨gk11, 1, none⟩)) ?_
        try simp only [pA, pB, p1, p2, p3]
        refine tW (.slice va vn vc) (exec_load 23 _ rfl ⟨gk11, 1, none⟩ (by kernel_rfl) (.slice va vn vc) (load_one ((HF.out.box 1 _ _ _ rfl).cell 1 |>.trans (by kernel_rfl)) Try.und22 rfl)) ?_
        try simp only [pA, pB, p1, p2, p3]
        refine wp_callW 12 #[.slice xa51 xn51 xc51, .slice va vn vc] (by kernel_rfl) _ (sameE_any xa51 xn51 xc51 va vn vc bes bes _ (HX51s.out.no HK0.out).rd (HWEs.out.no HK0.out).rd (by omega)) (by kernel_rfl) ?_
        rintro e wk61 ⟨rfl, hk⟩
        have HK0 : Hid (Kept No wk58 (wk61)) := HK0.out.no hk
        have HF : Hid (Fr No w (wk61) [(gk1, 26, Bv.cells ⟨bu, ⟨ba, bn, bc⟩, ⟨la, ln, lc⟩⟩), (gk11, 26, Bv.cells ⟨bu, ⟨va, vn, vc⟩, ⟨ua, un, uc⟩⟩), (gk14, 31, Cm.cells ⟨4, 3, 9, ⟨#[]⟩, 0, 0, 0, 0, 0⟩), (gk17, 31, Cm.cells ⟨1, 3, 9, ⟨#[111, 119, 110]⟩, 0, 0, 0, 0, 0⟩), (gk50, 26, Bv.cells ⟨bu + 1, ⟨xa51, xn51, xc51⟩, ⟨xa52, xn52, xc52⟩⟩), (gk52, 36, Av.cells ⟨0, enZ, ⟨xa53, xn53, xc53⟩⟩)]) := HF.out.no hk
        clear hk
        refine ⟨.bool true, by rw [sameE_iff.2 rfl], ?_⟩
        try simp only [pA, pB, p1, p2, p3]
        refine tK (.bool true) ?_
        try simp only [pA, pB, p1, p2, p3]
        refine tK (.bool true) ?_
        try simp only [pA, pB, p1, p2, p3]
        refine tW (.agg (Bv.cells ⟨bu, ⟨va, vn, vc⟩, ⟨ua, un, uc⟩⟩)) (exec_load 26 _ rfl ⟨gk11, 0, none⟩ (by kernel_rfl) (.agg (Bv.cells ⟨bu, ⟨va, vn, vc⟩, ⟨ua, un, uc⟩⟩)) (run_load_part (cs := Bv.cs ⟨bu, ⟨va, vn, vc⟩, ⟨ua, un, uc⟩⟩) (sub := Bv.cs ⟨bu, ⟨va, vn, vc⟩, ⟨ua, un, uc⟩⟩) (HF.out.box 1 _ _ _ rfl) (Part.all _) Try.und25 rfl Try.size25)) ?_
        try simp only [pA, pB, p1, p2, p3]
        refine tK (.int .i64 room) ?_
        try simp only [pA, pB, p1, p2, p3]
        refine wp_callW 16 #[.agg (Bv.cells ⟨bu, ⟨va, vn, vc⟩, ⟨ua, un, uc⟩⟩), .int .i64 room] (by kernel_rfl) _ (moved_any bu va vn vc ua un uc bes bls room _ (HWEs.out.no HK0.out).rd (HWLs.out.no HK0.out).rd HRi.out hbu.1 (by omega) (by omega) (by omega)) (by kernel_rfl) ?_
        rintro e wk62 ⟨rfl, hk⟩
        have HK0 : Hid (Kept No wk58 (wk62)) := HK0.out.no hk
        have HF : Hid (Fr No w (wk62) [(gk1, 26, Bv.cells ⟨bu, ⟨ba, bn, bc⟩, ⟨la, ln, lc⟩⟩), (gk11, 26, Bv.cells ⟨bu, ⟨va, vn, vc⟩, ⟨ua, un, uc⟩⟩), (gk14, 31, Cm.cells ⟨4, 3, 9, ⟨#[]⟩, 0, 0, 0, 0, 0⟩), (gk17, 31, Cm.cells ⟨1, 3, 9, ⟨#[111, 119, 110]⟩, 0, 0, 0, 0, 0⟩), (gk50, 26, Bv.cells ⟨bu + 1, ⟨xa51, xn51, xc51⟩, ⟨xa52, xn52, xc52⟩⟩), (gk52, 36, Av.cells ⟨0, enZ, ⟨xa53, xn53, xc53⟩⟩)]) := HF.out.no hk
        clear hk
        refine ⟨.bool true, rfl, ?_⟩
        try simp only [pA, pB, p1, p2, p3]
        refine tK (.bool true) ?_
        try simp only [pA, pB, p1, p2, p3]
        refine tK (.bool true) ?_
        try simp only [pA, pB, p1, p2, p3]
        refine wp_callW 8 #[] (by kernel_rfl) _ (head_any _) (by kernel_rfl) ?_
        rintro e wk63 ⟨rfl, hk⟩
        have HK0 : Hid (Kept No wk58 (wk63)) := HK0.out.no hk
        have HF : Hid (Fr No w (wk63) [(gk1, 26, Bv.cells ⟨bu, ⟨ba, bn, bc⟩, ⟨la, ln, lc⟩⟩), (gk11, 26, Bv.cells ⟨bu, ⟨va, vn, vc⟩, ⟨ua, un, uc⟩⟩), (gk14, 31, Cm.cells ⟨4, 3, 9, ⟨#[]⟩, 0, 0, 0, 0, 0⟩), (gk17, 31, Cm.cells ⟨1, 3, 9, ⟨#[111, 119, 110]⟩, 0, 0, 0, 0, 0⟩), (gk50, 26, Bv.cells ⟨bu + 1, ⟨xa51, xn51, xc51⟩, ⟨xa52, xn52, xc52⟩⟩), (gk52, 36, Av.cells ⟨0, enZ, ⟨xa53, xn53, xc53⟩⟩)]) := HF.out.no hk
        clear hk
        refine ⟨.bool true, rfl, ?_⟩
        try simp only [pA, pB, p1, p2, p3]
        refine tK (.bool true) ?_
        try simp only [pA, pB, p1, p2, p3]
        refine tK (.bool true) ?_
        try simp only [pA, pB, p1, p2, p3]
        refine WL.nil ?_
        try simp only [pA, pB, p1, p2, p3]
        go_wp2
        rw [HC.out]
        exact ⟨rfl, HF.out.kept⟩

end Go.Proofs.Ytfemlnfknebalab
