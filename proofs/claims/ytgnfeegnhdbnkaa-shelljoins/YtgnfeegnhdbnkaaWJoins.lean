import Derived.Test.YtgnfeegnhdbnkaaSa
import Derived.Lib.SmallJoins
namespace Go.Proofs.Ytgnfeegnhdbnkaa
open Go.RowKit Go.Lib
set_option linter.unusedVariables false
set_option linter.unusedSimpArgs false

theorem exec_convW {o : Oper} {a : Act} {w w' : World} (x : Operand) (s t : TypeId) (ho : o.op = .convert s t x) (vx v : Value) (hx : a.eval x = vx) (hrun : (convert s t vx).run Try.prog w = .ok v w') : (execOp a.eval o).run Try.prog w = .ok (.value v) w' := by
  simp [execOp, ho, hx, hrun, Result.andThen]
theorem num_x (w : World) : Nums .u8 (w.alloc (.cells #[.int .u8 120] 5 (1, 2))) (some ⟨w.heap.size, 0, none⟩) ([120].map bi) := by
  intro i hi
  have hi : i < 1 := hi
  obtain rfl : i = 0 := by omega
  refine ⟨w.heap.size, 0, rfl, ?_⟩
  rw [World.cell?_alloc_mark w #[.int .u8 120] 5 (1, 2) (0 + 0)]
  rfl
theorem b_gtr3 (x y : Int) (w : World) : (binOp .gtr 3 (.int .i64 x) (.int .i64 y)).run Try.prog w = .ok (.bool (decide (y < x))) w := by kernel_rfl
set_option maxRecDepth 100000 in
set_option maxHeartbeats 4000000 in
theorem joinsWalk (a : Option Addr) (xs : List (List UInt8)) (cap : Nat) (cm : List UInt8) (w : World) (hW : Wds w a xs) : Calls Try.prog 5 #[.slice a xs.length cap, .string (bs cm)] w (fun e w' => e = .returned (.bool true) ∧ Kept No w w') := by
  obtain ⟨C, hC⟩ : ∃ C : Ending → World → Prop, C = (fun e w' => e = .returned (.bool true) ∧ Kept No w w') := ⟨_, rfl⟩
  have HC : Hid (C = (fun e w' => e = .returned (.bool true) ∧ Kept No w w')) := hC
  rw [← hC]
  clear hC
  have HB : Hid (Wds w a xs) := hW
  have HK : Hid (Kept No w w) := Kept.refl _ _
  clear hW
  go_enter Try.func5, Try.ntmps5
  go_wp2
  go_loopw [5, 6, 7] (fun v5 v6 v7 wr => ∃ (m : Nat) (ln : List UInt8), v5 = .string (bs ln) ∧ v6 = .int .i64 ((m : Nat) : Int) ∧ v7 = .int .i64 ((m : Nat) : Int) ∧ Hid (m ≤ xs.length) ∧ Hid (ln = lineL (xs.take m)) ∧ Hid (ln.length ≤ 40000) ∧ Hid (m ≤ ln.length) ∧ Hid (Kept No w wr)) (fun _ _ v7 _ => xs.length - (intOf v7).toNat)
  case atStart => exact ⟨0, [], rfl, by go_num, by go_num, Nat.zero_le _, rfl, (by decide : (0 : Nat) ≤ 40000), Nat.zero_le _, HK⟩
  case round =>
    clear HK
    obtain ⟨m, ln, rfl, rfl, rfl, HMx, HLn0, HLn, HMl, HK⟩ := hrel
    by_cases hp : m < xs.length
    · have hcm : ((m : Nat) : Int) < ((xs.length : Nat) : Int) := by omega
      by_cases hq : ln.length < 20000
      · have hcq : ((ln.length : Nat) : Int) < 20000 := by omega
        obtain ⟨x, hx⟩ : ∃ x, xs[m]? = some x := ⟨_, List.getElem?_eq_getElem hp⟩
        have HX0 : Hid (xs[m]? = some x) := hx
        obtain ⟨gw, ow, ba, bc, ha, hcl, hle, hnm⟩ := (HB.out.no HK.out) m x hx
        subst ha
        have HCell : Hid (wr.cell? ⟨gw, ow + m * 1, none⟩ = some (.slice ba x.length bc)) := hcl
        have HLe : Hid (x.length ≤ bc) := hle
        have HNx : Hid (Nums .u8 wr ba (x.map bi)) := hnm
        have HPp : Hid (m < xs.length) := hp
        have HQq : Hid (ln.length < 20000) := hq
        have HI : Hid (m < xs.length ∧ m ≤ 100000000000000) := ⟨hp, by have h1 := HMl.out; have h2 := HLn.out; omega⟩
        clear hx hcl hle hnm hp hq
        by_cases hbig : 4000 < x.length
        · skip
          have hbi : (4000 : Int) < ((x.length : Nat) : Int) := by omega
          obtain ⟨y, hy⟩ : ∃ y, y = x.take 4000 := ⟨_, rfl⟩
          have hyl : y.length = 4000 := by rw [hy, List.length_take]; omega
          have HLk : Hid (y.length = 4000) := hyl
          have HYx : Hid (x.take 4000 = y) := hy.symm
          have HBb : Hid (Nums .u8 wr ba (y.map bi)) := by rw [hy]; exact HNx.out.take _
          have HBl : Hid (y.length ≤ 4000 ∧ ln.length < 20000) := ⟨by rw [hyl]; omega, HQq.out⟩
          clear hy hyl hbig
          go_upto_region 4 with fail
          refine WL.start ?_
          refine tK (.int .i64 ((m : Nat) : Int)) ?_
          try simp only [pA, pB, p1, p2, p3]
          refine tK (.slice (some ⟨gw, ow, none⟩) xs.length cap) ?_
          try simp only [pA, pB, p1, p2, p3]
          refine tK (.int .i64 ((xs.length : Nat) : Int)) ?_
          try simp only [pA, pB, p1, p2, p3]
          refine tW (.bool true) (exec_bin .lss 3 _ _ _ rfl (.int .i64 ((m : Nat) : Int)) (.int .i64 ((xs.length : Nat) : Int)) (.bool true) (by kernel_rfl) (by kernel_rfl) (by kernel_rfl) (by rw [b_lss, decide_eq_true hcm])) ?_
          try simp only [pA, pB, p1, p2, p3]
          refine tK (.bool true) ?_
          try simp only [pA, pB, p1, p2, p3]
          refine tK (.string (bs ln)) ?_
          try simp only [pA, pB, p1, p2, p3]
          refine tK (.int .i64 ((ln.length : Nat) : Int)) ?_
          try simp only [pA, pB, p1, p2, p3]
          refine tW (.bool true) (exec_bin .lss 3 _ _ _ rfl (.int .i64 ((ln.length : Nat) : Int)) (.int .i64 20000) (.bool true) (by kernel_rfl) (by kernel_rfl) (by kernel_rfl) (by rw [b_lss, decide_eq_true hcq])) ?_
          try simp only [pA, pB, p1, p2, p3]
          refine tK (.bool true) ?_
          try simp only [pA, pB, p1, p2, p3]
          refine WL.nil ?_
          try simp only [pA, pB, p1, p2, p3]
          go_upto_region 6 with fail
          refine WL.start ?_
          refine tK (.slice (some ⟨gw, ow, none⟩) xs.length cap) ?_
          try simp only [pA, pB, p1, p2, p3]
          refine tK (.int .i64 ((m : Nat) : Int)) ?_
          try simp only [pA, pB, p1, p2, p3]
          refine tW (.pointer (some ⟨gw, ow + m * 1, none⟩)) (exec_ixA 33 1 E33 F33 _ _ rfl gw ow xs.length cap m (by kernel_rfl) (by kernel_rfl) (by have := HPp.out; omega)) ?_
          try simp only [pA, pB, p1, p2, p3]
          refine tW (.slice ba x.length bc) (exec_load 30 _ rfl ⟨gw, ow + m * 1, none⟩ (by kernel_rfl) (.slice ba x.length bc) (load_one HCell.out U30 rfl)) ?_
          try simp only [pA, pB, p1, p2, p3]
          refine tK (.slice ba x.length bc) ?_
          try simp only [pA, pB, p1, p2, p3]
          refine WL.nil ?_
          try simp only [pA, pB, p1, p2, p3]
          go_upto_region 7 with fail
          refine WL.start ?_
          refine tK (.slice ba x.length bc) ?_
          try simp only [pA, pB, p1, p2, p3]
          refine tK (.int .i64 ((x.length : Nat) : Int)) ?_
          try simp only [pA, pB, p1, p2, p3]
          refine tW (.bool true) (exec_bin .gtr 3 _ _ _ rfl (.int .i64 ((x.length : Nat) : Int)) (.int .i64 4000) (.bool true) (by kernel_rfl) (by kernel_rfl) (by kernel_rfl) (by rw [b_gtr3, decide_eq_true hbi])) ?_
          try simp only [pA, pB, p1, p2, p3]
          refine WL.nil ?_
          try simp only [pA, pB, p1, p2, p3]
          go_upto_region 8 with fail
          refine WL.start ?_
          refine tK (.slice ba x.length bc) ?_
          try simp only [pA, pB, p1, p2, p3]
          refine tW (.slice ba y.length bc) ((by rw [HLk.out]; exact exec_slT 30 5 E30 F30 _ _ rfl ba x.length bc 4000 (by kernel_rfl) (by kernel_rfl) (by have := HLe.out; omega))) ?_
          try simp only [pA, pB, p1, p2, p3]
          refine tK (.slice ba y.length bc) ?_
          try simp only [pA, pB, p1, p2, p3]
          refine WL.nil ?_
          try simp only [pA, pB, p1, p2, p3]
          go_upto_region 9 with fail
          refine WL.start ?_
          refine tK (.string (bs ln)) ?_
          try simp only [pA, pB, p1, p2, p3]
          refine tW (.string (bs (ln ++ [32]))) (exec_bin .add 9 _ _ _ rfl (.string (bs ln)) (.string ⟨#[32]⟩) (.string (bs (ln ++ [32]))) (by kernel_rfl) (by kernel_rfl) (by kernel_rfl) (b_addS ln ([32]) (by have h1 := HBl.out; first | (simp; omega) | (have h2 := quoteL_len y; simp; omega)) _)) ?_
          try simp only [pA, pB, p1, p2, p3]
          refine tK (.slice ba y.length bc) ?_
          try simp only [pA, pB, p1, p2, p3]
          refine wp_callW 10 #[.slice ba y.length bc] (by kernel_rfl) _ (quote_any ba y bc wr (by have := HBl.out; omega) HBb.out) (by kernel_rfl) ?_
          rintro e w_0 ⟨rfl, hk⟩
          have HBb : Hid (Nums .u8 w_0 ba (y.map bi)) := HBb.out.no hk
          have HK : Hid (Kept No w w_0) := HK.out.then hk
          clear hk
          refine ⟨.string (bs (quoteL y)), rfl, ?_⟩
          try simp only [pA, pB, p1, p2, p3]
          refine tW (.string (bs ((ln ++ [32]) ++ (quoteL y)))) (exec_bin .add 9 _ _ _ rfl (.string (bs (ln ++ [32]))) (.string (bs (quoteL y))) (.string (bs ((ln ++ [32]) ++ (quoteL y)))) (by kernel_rfl) (by kernel_rfl) (by kernel_rfl) (b_addS (ln ++ [32]) (quoteL y) (by have h1 := HBl.out; first | (simp; omega) | (have h2 := quoteL_len y; simp; omega)) _)) ?_
          try simp only [pA, pB, p1, p2, p3]
          refine tK (.string (bs ((ln ++ [32]) ++ (quoteL y)))) ?_
          try simp only [pA, pB, p1, p2, p3]
          refine WL.nil ?_
          try simp only [pA, pB, p1, p2, p3]
          go_upto_region 10 with fail
          refine WL.start ?_
          refine tK (.int .i64 ((m : Nat) : Int)) ?_
          try simp only [pA, pB, p1, p2, p3]
          refine tW (.int .i64 ((m + 1 : Nat) : Int)) (exec_bin .add 3 _ _ _ rfl (.int .i64 ((m : Nat) : Int)) (.int .i64 1) (.int .i64 ((m + 1 : Nat) : Int)) (by kernel_rfl) (by kernel_rfl) (by kernel_rfl) (b_add1 m (by have := HI.out; omega) _)) ?_
          try simp only [pA, pB, p1, p2, p3]
          refine tK (.int .i64 ((m + 1 : Nat) : Int)) ?_
          try simp only [pA, pB, p1, p2, p3]
          refine WL.nil ?_
          try simp only [pA, pB, p1, p2, p3]
          go_upto_region 5 with fail
          refine WL.start ?_
          refine tK (.int .i64 ((m : Nat) : Int)) ?_
          try simp only [pA, pB, p1, p2, p3]
          refine tW (.int .i64 ((m + 1 : Nat) : Int)) (exec_bin .add 3 _ _ _ rfl (.int .i64 ((m : Nat) : Int)) (.int .i64 1) (.int .i64 ((m + 1 : Nat) : Int)) (by kernel_rfl) (by kernel_rfl) (by kernel_rfl) (b_add1 m (by have := HI.out; omega) _)) ?_
          try simp only [pA, pB, p1, p2, p3]
          refine tK (.int .i64 ((m + 1 : Nat) : Int)) ?_
          try simp only [pA, pB, p1, p2, p3]
          refine WL.nil ?_
          try simp only [pA, pB, p1, p2, p3]
          go_wp2
          go_roundw
          case rel => exact ⟨m + 1, ln ++ [32] ++ quoteL y, by rfl, by go_num, by go_num, HPp.out, by show _ = _; rw [lineL_step HX0.out, HYx.out, HLn0.out], (by have h1 := HBl.out; have h2 := quoteL_len y; show (ln ++ [32] ++ quoteL y).length ≤ 40000; simp; omega), (by have h1 := HMl.out; show m + 1 ≤ (ln ++ [32] ++ quoteL y).length; simp; omega), HK⟩
          case measure => have := HPp.out; simp [intOf]; omega
        · skip
          have hbi : ¬ (4000 : Int) < ((x.length : Nat) : Int) := by omega
          have HYx : Hid (x.take 4000 = x) := List.take_of_length_le (by omega)
          have HBb : Hid (Nums .u8 wr ba (x.map bi)) := HNx.out
          have HBl : Hid (x.length ≤ 4000 ∧ ln.length < 20000) := ⟨by omega, HQq.out⟩
          clear hbig
          go_upto_region 4 with fail
          refine WL.start ?_
          refine tK (.int .i64 ((m : Nat) : Int)) ?_
          try simp only [pA, pB, p1, p2, p3]
          refine tK (.slice (some ⟨gw, ow, none⟩) xs.length cap) ?_
          try simp only [pA, pB, p1, p2, p3]
          refine tK (.int .i64 ((xs.length : Nat) : Int)) ?_
          try simp only [pA, pB, p1, p2, p3]
          refine tW (.bool true) (exec_bin .lss 3 _ _ _ rfl (.int .i64 ((m : Nat) : Int)) (.int .i64 ((xs.length : Nat) : Int)) (.bool true) (by kernel_rfl) (by kernel_rfl) (by kernel_rfl) (by rw [b_lss, decide_eq_true hcm])) ?_
          try simp only [pA, pB, p1, p2, p3]
          refine tK (.bool true) ?_
          try simp only [pA, pB, p1, p2, p3]
          refine tK (.string (bs ln)) ?_
          try simp only [pA, pB, p1, p2, p3]
          refine tK (.int .i64 ((ln.length : Nat) : Int)) ?_
          try simp only [pA, pB, p1, p2, p3]
          refine tW (.bool true) (exec_bin .lss 3 _ _ _ rfl (.int .i64 ((ln.length : Nat) : Int)) (.int .i64 20000) (.bool true) (by kernel_rfl) (by kernel_rfl) (by kernel_rfl) (by rw [b_lss, decide_eq_true hcq])) ?_
          try simp only [pA, pB, p1, p2, p3]
          refine tK (.bool true) ?_
          try simp only [pA, pB, p1, p2, p3]
          refine WL.nil ?_
          try simp only [pA, pB, p1, p2, p3]
          go_upto_region 6 with fail
          refine WL.start ?_
          refine tK (.slice (some ⟨gw, ow, none⟩) xs.length cap) ?_
          try simp only [pA, pB, p1, p2, p3]
          refine tK (.int .i64 ((m : Nat) : Int)) ?_
          try simp only [pA, pB, p1, p2, p3]
          refine tW (.pointer (some ⟨gw, ow + m * 1, none⟩)) (exec_ixA 33 1 E33 F33 _ _ rfl gw ow xs.length cap m (by kernel_rfl) (by kernel_rfl) (by have := HPp.out; omega)) ?_
          try simp only [pA, pB, p1, p2, p3]
          refine tW (.slice ba x.length bc) (exec_load 30 _ rfl ⟨gw, ow + m * 1, none⟩ (by kernel_rfl) (.slice ba x.length bc) (load_one HCell.out U30 rfl)) ?_
          try simp only [pA, pB, p1, p2, p3]
          refine tK (.slice ba x.length bc) ?_
          try simp only [pA, pB, p1, p2, p3]
          refine WL.nil ?_
          try simp only [pA, pB, p1, p2, p3]
          go_upto_region 7 with fail
          refine WL.start ?_
          refine tK (.slice ba x.length bc) ?_
          try simp only [pA, pB, p1, p2, p3]
          refine tK (.int .i64 ((x.length : Nat) : Int)) ?_
          try simp only [pA, pB, p1, p2, p3]
          refine tW (.bool false) (exec_bin .gtr 3 _ _ _ rfl (.int .i64 ((x.length : Nat) : Int)) (.int .i64 4000) (.bool false) (by kernel_rfl) (by kernel_rfl) (by kernel_rfl) (by rw [b_gtr3, decide_eq_false hbi])) ?_
          try simp only [pA, pB, p1, p2, p3]
          refine WL.nil ?_
          try simp only [pA, pB, p1, p2, p3]
          go_upto_region 9 with fail
          refine WL.start ?_
          refine tK (.string (bs ln)) ?_
          try simp only [pA, pB, p1, p2, p3]
          refine tW (.string (bs (ln ++ [32]))) (exec_bin .add 9 _ _ _ rfl (.string (bs ln)) (.string ⟨#[32]⟩) (.string (bs (ln ++ [32]))) (by kernel_rfl) (by kernel_rfl) (by kernel_rfl) (b_addS ln ([32]) (by have h1 := HBl.out; first | (simp; omega) | (have h2 := quoteL_len x; simp; omega)) _)) ?_
          try simp only [pA, pB, p1, p2, p3]
          refine tK (.slice ba x.length bc) ?_
          try simp only [pA, pB, p1, p2, p3]
          refine wp_callW 10 #[.slice ba x.length bc] (by kernel_rfl) _ (quote_any ba x bc wr (by have := HBl.out; omega) HBb.out) (by kernel_rfl) ?_
          rintro e w_1 ⟨rfl, hk⟩
          have HBb : Hid (Nums .u8 w_1 ba (x.map bi)) := HBb.out.no hk
          have HK : Hid (Kept No w w_1) := HK.out.then hk
          clear hk
          refine ⟨.string (bs (quoteL x)), rfl, ?_⟩
          try simp only [pA, pB, p1, p2, p3]
          refine tW (.string (bs ((ln ++ [32]) ++ (quoteL x)))) (exec_bin .add 9 _ _ _ rfl (.string (bs (ln ++ [32]))) (.string (bs (quoteL x))) (.string (bs ((ln ++ [32]) ++ (quoteL x)))) (by kernel_rfl) (by kernel_rfl) (by kernel_rfl) (b_addS (ln ++ [32]) (quoteL x) (by have h1 := HBl.out; first | (simp; omega) | (have h2 := quoteL_len x; simp; omega)) _)) ?_
          try simp only [pA, pB, p1, p2, p3]
          refine tK (.string (bs ((ln ++ [32]) ++ (quoteL x)))) ?_
          try simp only [pA, pB, p1, p2, p3]
          refine WL.nil ?_
          try simp only [pA, pB, p1, p2, p3]
          go_upto_region 10 with fail
          refine WL.start ?_
          refine tK (.int .i64 ((m : Nat) : Int)) ?_
          try simp only [pA, pB, p1, p2, p3]
          refine tW (.int .i64 ((m + 1 : Nat) : Int)) (exec_bin .add 3 _ _ _ rfl (.int .i64 ((m : Nat) : Int)) (.int .i64 1) (.int .i64 ((m + 1 : Nat) : Int)) (by kernel_rfl) (by kernel_rfl) (by kernel_rfl) (b_add1 m (by have := HI.out; omega) _)) ?_
          try simp only [pA, pB, p1, p2, p3]
          refine tK (.int .i64 ((m + 1 : Nat) : Int)) ?_
          try simp only [pA, pB, p1, p2, p3]
          refine WL.nil ?_
          try simp only [pA, pB, p1, p2, p3]
          go_upto_region 5 with fail
          refine WL.start ?_
          refine tK (.int .i64 ((m : Nat) : Int)) ?_
          try simp only [pA, pB, p1, p2, p3]
          refine tW (.int .i64 ((m + 1 : Nat) : Int)) (exec_bin .add 3 _ _ _ rfl (.int .i64 ((m : Nat) : Int)) (.int .i64 1) (.int .i64 ((m + 1 : Nat) : Int)) (by kernel_rfl) (by kernel_rfl) (by kernel_rfl) (b_add1 m (by have := HI.out; omega) _)) ?_
          try simp only [pA, pB, p1, p2, p3]
          refine tK (.int .i64 ((m + 1 : Nat) : Int)) ?_
          try simp only [pA, pB, p1, p2, p3]
          refine WL.nil ?_
          try simp only [pA, pB, p1, p2, p3]
          go_wp2
          go_roundw
          case rel => exact ⟨m + 1, ln ++ [32] ++ quoteL x, by rfl, by go_num, by go_num, HPp.out, by show _ = _; rw [lineL_step HX0.out, HYx.out, HLn0.out], (by have h1 := HBl.out; have h2 := quoteL_len x; show (ln ++ [32] ++ quoteL x).length ≤ 40000; simp; omega), (by have h1 := HMl.out; show m + 1 ≤ (ln ++ [32] ++ quoteL x).length; simp; omega), HK⟩
          case measure => have := HPp.out; simp [intOf]; omega
      · have hcq : ¬ ((ln.length : Nat) : Int) < 20000 := by omega
        have HMi : Hid (m ≤ 100000000000) := show m ≤ 100000000000 by have h1 := HMl.out; have h2 := HLn.out; omega
        have HMm : Hid (m ≤ xs.length) := HMx
        obtain ⟨ys, hys⟩ : ∃ ys, ys = (xs.take m).map (fun x => x.take 4000) := ⟨_, rfl⟩
        have HYs : Hid (ys = (xs.take m).map (fun x => x.take 4000)) := hys
        have hyl : ys.length = m := by rw [hys, List.length_map, List.length_take]; have := HMx.out; omega
        have HYl : Hid (ys.length = m) := hyl
        have hym : (((ys.length : Nat) : Int) == ((m : Nat) : Int)) = true := by rw [hyl]; simp
        clear hys hyl
        by_cases hcb : 1000 < cm.length
        · skip
          have hbi : (1000 : Int) < ((cm.length : Nat) : Int) := by omega
          have HCl : Hid ((cm.take 1000).length ≤ 1000) := by show _ ≤ _; rw [List.length_take]; omega
          have HBl : Hid (ln.length ≤ 40000 ∧ (cm.take 1000).length ≤ 1000) := ⟨HLn.out, HCl.out⟩
          have HZ : Hid (wordsOf (ln ++ [9, 35] ++ (cm.take 1000)) = some ys) := by show _ = _; rw [HYs.out, HLn0.out]; exact words_line _ _
          go_upto_region 4 with fail
          refine WL.start ?_
          refine tK (.int .i64 ((m : Nat) : Int)) ?_
          try simp only [pA, pB, p1, p2, p3]
          refine tK (.slice a xs.length cap) ?_
          try simp only [pA, pB, p1, p2, p3]
          refine tK (.int .i64 ((xs.length : Nat) : Int)) ?_
          try simp only [pA, pB, p1, p2, p3]
          refine tW (.bool true) (exec_bin .lss 3 _ _ _ rfl (.int .i64 ((m : Nat) : Int)) (.int .i64 ((xs.length : Nat) : Int)) (.bool true) (by kernel_rfl) (by kernel_rfl) (by kernel_rfl) (by rw [b_lss, decide_eq_true hcm])) ?_
          try simp only [pA, pB, p1, p2, p3]
          refine tK (.bool true) ?_
          try simp only [pA, pB, p1, p2, p3]
          refine tK (.string (bs ln)) ?_
          try simp only [pA, pB, p1, p2, p3]
          refine tK (.int .i64 ((ln.length : Nat) : Int)) ?_
          try simp only [pA, pB, p1, p2, p3]
          refine tW (.bool false) (exec_bin .lss 3 _ _ _ rfl (.int .i64 ((ln.length : Nat) : Int)) (.int .i64 20000) (.bool false) (by kernel_rfl) (by kernel_rfl) (by kernel_rfl) (by rw [b_lss, decide_eq_false hcq])) ?_
          try simp only [pA, pB, p1, p2, p3]
          refine tK (.bool false) ?_
          try simp only [pA, pB, p1, p2, p3]
          refine WL.nil ?_
          try simp only [pA, pB, p1, p2, p3]
          go_upto_region 11 with fail
          refine WL.start ?_
          refine tK (.string (bs cm)) ?_
          try simp only [pA, pB, p1, p2, p3]
          refine tK (.int .i64 ((cm.length : Nat) : Int)) ?_
          try simp only [pA, pB, p1, p2, p3]
          refine tW (.bool true) (exec_bin .gtr 3 _ _ _ rfl (.int .i64 ((cm.length : Nat) : Int)) (.int .i64 1000) (.bool true) (by kernel_rfl) (by kernel_rfl) (by kernel_rfl) (by rw [b_gtr3, decide_eq_true hbi])) ?_
          try simp only [pA, pB, p1, p2, p3]
          refine WL.nil ?_
          try simp only [pA, pB, p1, p2, p3]
          go_upto_region 12 with fail
          refine WL.start ?_
          refine tK (.string (bs cm)) ?_
          try simp only [pA, pB, p1, p2, p3]
          refine tW (.string (bs (cm.take 1000))) (exec_slS _ _ rfl cm 1000 (by kernel_rfl) (by kernel_rfl) (by omega)) ?_
          try simp only [pA, pB, p1, p2, p3]
          refine tK (.string (bs (cm.take 1000))) ?_
          try simp only [pA, pB, p1, p2, p3]
          refine WL.nil ?_
          try simp only [pA, pB, p1, p2, p3]
          go_upto_region 13 with fail
          refine WL.start ?_
          refine tK (.string (bs ln)) ?_
          try simp only [pA, pB, p1, p2, p3]
          refine tW (.string (bs (ln ++ [9, 35]))) (exec_bin .add 9 _ _ _ rfl (.string (bs ln)) (.string ⟨#[9, 35]⟩) (.string (bs (ln ++ [9, 35]))) (by kernel_rfl) (by kernel_rfl) (by kernel_rfl) (b_addS ln ([9, 35]) (by have h1 := HBl.out; first | (simp; omega) | (have h2 := quoteL_len []; simp; omega)) _)) ?_
          try simp only [pA, pB, p1, p2, p3]
          refine tK (.string (bs (cm.take 1000))) ?_
          try simp only [pA, pB, p1, p2, p3]
          refine tW (.string (bs ((ln ++ [9, 35]) ++ (cm.take 1000)))) (exec_bin .add 9 _ _ _ rfl (.string (bs (ln ++ [9, 35]))) (.string (bs (cm.take 1000))) (.string (bs ((ln ++ [9, 35]) ++ (cm.take 1000)))) (by kernel_rfl) (by kernel_rfl) (by kernel_rfl) (b_addS (ln ++ [9, 35]) (cm.take 1000) (by have h1 := HBl.out; first | (simp; omega) | (have h2 := quoteL_len []; simp; omega)) _)) ?_
          try simp only [pA, pB, p1, p2, p3]
          refine wp_callW 7 #[.string (bs ((ln ++ [9, 35]) ++ (cm.take 1000)))] (by kernel_rfl) _ (words_any ((ln ++ [9, 35]) ++ (cm.take 1000)) (by have h1 := HLn.out; have h2 := HCl.out; simp; omega) wr) (by kernel_rfl) ?_
          rintro e w_2 ⟨hws, hk⟩
          rw [HZ.out] at hws
          obtain ⟨ao, co, rfl, ho⟩ := hws.ss
          clear hws
          have HK : Hid (Kept No w w_2) := HK.out.then hk
          have HO : Hid (Own 9 1 w_2 wr.heap.size ao co ys.length (ys.map strV)) := ho
          obtain ⟨nb, hnb⟩ : ∃ n, n = wr.heap.size := ⟨_, rfl⟩
          rw [← hnb] at HO
          clear hk ho hnb
          refine ⟨.tuple #[.slice ao ys.length co, .int .i64 0], rfl, ?_⟩
          try simp only [pA, pB, p1, p2, p3]
          refine tK (.tuple #[.slice ao ys.length co, .int .i64 0]) ?_
          try simp only [pA, pB, p1, p2, p3]
          refine tK (.slice ao ys.length co) ?_
          try simp only [pA, pB, p1, p2, p3]
          refine tK (.int .i64 0) ?_
          try simp only [pA, pB, p1, p2, p3]
          refine tK (.slice ao ys.length co) ?_
          try simp only [pA, pB, p1, p2, p3]
          refine tK (.int .i64 0) ?_
          try simp only [pA, pB, p1, p2, p3]
          refine WL.nil ?_
          try simp only [pA, pB, p1, p2, p3]
          go_upto_region 14 with fail
          refine WL.start ?_
          refine tK (.int .i64 0) ?_
          try simp only [pA, pB, p1, p2, p3]
          refine tK (.bool false) ?_
          try simp only [pA, pB, p1, p2, p3]
          refine tK (.bool false) ?_
          try simp only [pA, pB, p1, p2, p3]
          refine tK (.slice ao ys.length co) ?_
          try simp only [pA, pB, p1, p2, p3]
          refine tK (.int .i64 ((ys.length : Nat) : Int)) ?_
          try simp only [pA, pB, p1, p2, p3]
          refine tK (.int .i64 ((m : Nat) : Int)) ?_
          try simp only [pA, pB, p1, p2, p3]
          refine tW (.bool false) (exec_bin .neq 3 _ _ _ rfl (.int .i64 ((ys.length : Nat) : Int)) (.int .i64 ((m : Nat) : Int)) (.bool false) (by kernel_rfl) (by kernel_rfl) (by kernel_rfl) (by rw [b_neq3, hym]; rfl)) ?_
          try simp only [pA, pB, p1, p2, p3]
          refine tK (.bool false) ?_
          try simp only [pA, pB, p1, p2, p3]
          refine WL.nil ?_
          try simp only [pA, pB, p1, p2, p3]
          go_upto_region 16 with fail
          refine WL.start ?_
          refine tK (.int .i64 0) ?_
          try simp only [pA, pB, p1, p2, p3]
          refine WL.nil ?_
          try simp only [pA, pB, p1, p2, p3]
          clear hym
          go_wp2
          go_loopw [11] (fun v11 wr => ∃ i : Nat, v11 = .int .i64 ((i : Nat) : Int) ∧ Hid (i ≤ m) ∧ Hid (Own 9 1 wr nb ao co ys.length (ys.map strV)) ∧ Hid (Kept No w wr)) (fun v11 _ => m - (intOf v11).toNat)
          case atStart => exact ⟨0, by go_num, Nat.zero_le _, HO, HK⟩
          case round =>
            clear HO HK
            obtain ⟨i, rfl, HIm, HO, HK⟩ := hrel
            by_cases hp2 : i < m
            · have hcm2 : ((i : Nat) : Int) < ((m : Nat) : Int) := by omega
              obtain ⟨gy, rfl⟩ := HO.out.some_of (by have := HYl.out; omega)
              obtain ⟨x, hx⟩ : ∃ x, xs[i]? = some x := ⟨_, List.getElem?_eq_getElem (by have := HMm.out; omega)⟩
              have HX0 : Hid (xs[i]? = some x) := hx
              have HYi0 : Hid (ys[i]? = some (x.take 4000)) := by show _ = _; rw [HYs.out, List.getElem?_map, List.getElem?_take, if_pos hp2, hx]; rfl
              obtain ⟨gw, ow, ba, bc, ha, hcl, hle, hnm⟩ := (HB.out.no HK.out) i x hx
              subst ha
              have HCell : Hid (wr.cell? ⟨gw, ow + i * 1, none⟩ = some (.slice ba x.length bc)) := hcl
              have HLe : Hid (x.length ≤ bc) := hle
              have HNx : Hid (Nums .u8 wr ba (x.map bi)) := hnm
              have HPm : Hid (i < m) := hp2
              have HPp : Hid (i < m ∧ i < xs.length) := ⟨hp2, by have := HMm.out; omega⟩
              have HI : Hid (i ≤ 100000000000000) := show i ≤ 100000000000000 by have := HMi.out; omega
              clear hx hcl hle hnm hp2
              by_cases hbig : 4000 < x.length
              · skip
                have hbi2 : (4000 : Int) < ((x.length : Nat) : Int) := by omega
                obtain ⟨y, hy⟩ : ∃ y, y = x.take 4000 := ⟨_, rfl⟩
                have hyl : y.length = 4000 := by rw [hy, List.length_take]; omega
                have HLk : Hid (y.length = 4000) := hyl
                have HBb : Hid (Nums .u8 wr ba (y.map bi)) := by rw [hy]; exact HNx.out.take _
                have HYi : Hid ((ys.map strV)[0 + i * 1]? = some (strV y)) := by show _ = _; rw [Nat.zero_add, Nat.mul_one, List.getElem?_map, HYi0.out, hy]; rfl
                clear hy hyl hbig
                go_upto_region 17 with fail
                refine WL.start ?_
                refine tK (.int .i64 ((i : Nat) : Int)) ?_
                try simp only [pA, pB, p1, p2, p3]
                refine tK (.int .i64 ((m : Nat) : Int)) ?_
                try simp only [pA, pB, p1, p2, p3]
                refine tW (.bool true) (exec_bin .lss 3 _ _ _ rfl (.int .i64 ((i : Nat) : Int)) (.int .i64 ((m : Nat) : Int)) (.bool true) (by kernel_rfl) (by kernel_rfl) (by kernel_rfl) (by rw [b_lss, decide_eq_true hcm2])) ?_
                try simp only [pA, pB, p1, p2, p3]
                refine WL.nil ?_
                try simp only [pA, pB, p1, p2, p3]
                go_upto_region 19 with fail
                refine WL.start ?_
                refine tK (.slice (some ⟨gw, ow, none⟩) xs.length cap) ?_
                try simp only [pA, pB, p1, p2, p3]
                refine tK (.int .i64 ((i : Nat) : Int)) ?_
                try simp only [pA, pB, p1, p2, p3]
                refine tW (.pointer (some ⟨gw, ow + i * 1, none⟩)) (exec_ixA 33 1 E33 F33 _ _ rfl gw ow xs.length cap i (by kernel_rfl) (by kernel_rfl) (by have := HPp.out; omega)) ?_
                try simp only [pA, pB, p1, p2, p3]
                refine tW (.slice ba x.length bc) (exec_load 30 _ rfl ⟨gw, ow + i * 1, none⟩ (by kernel_rfl) (.slice ba x.length bc) (load_one HCell.out U30 rfl)) ?_
                try simp only [pA, pB, p1, p2, p3]
                refine tK (.slice ba x.length bc) ?_
                try simp only [pA, pB, p1, p2, p3]
                refine WL.nil ?_
                try simp only [pA, pB, p1, p2, p3]
                go_upto_region 20 with fail
                refine WL.start ?_
                refine tK (.slice ba x.length bc) ?_
                try simp only [pA, pB, p1, p2, p3]
                refine tK (.int .i64 ((x.length : Nat) : Int)) ?_
                try simp only [pA, pB, p1, p2, p3]
                refine tW (.bool true) (exec_bin .gtr 3 _ _ _ rfl (.int .i64 ((x.length : Nat) : Int)) (.int .i64 4000) (.bool true) (by kernel_rfl) (by kernel_rfl) (by kernel_rfl) (by rw [b_gtr3, decide_eq_true hbi2])) ?_
                try simp only [pA, pB, p1, p2, p3]
                refine WL.nil ?_
                try simp only [pA, pB, p1, p2, p3]
                go_upto_region 21 with fail
                refine WL.start ?_
                refine tK (.slice ba x.length bc) ?_
                try simp only [pA, pB, p1, p2, p3]
                refine tW (.slice ba y.length bc) ((by rw [HLk.out]; exact exec_slT 30 5 E30 F30 _ _ rfl ba x.length bc 4000 (by kernel_rfl) (by kernel_rfl) (by have := HLe.out; omega))) ?_
                try simp only [pA, pB, p1, p2, p3]
                refine tK (.slice ba y.length bc) ?_
                try simp only [pA, pB, p1, p2, p3]
                refine WL.nil ?_
                try simp only [pA, pB, p1, p2, p3]
                go_upto_region 22 with fail
                have HO : Hid (Own 9 1 wr.drew nb (some ⟨gy, 0, none⟩) co ys.length (ys.map strV)) := HO.out.no (Kept.refl No _).drew
                have HK : Hid (Kept No w wr.drew) := HK.out.drew
                have HBb : Hid (Nums .u8 wr.drew ba (y.map bi)) := HBb.out.no (Kept.refl No _).drew
                refine wp_region_held_drew (S := fun w' => Own 9 1 w' nb (some ⟨gy, 0, none⟩) co ys.length (ys.map strV) ∧ Nums .u8 w' ba (y.map bi)) rfl ⟨HO.out, HBb.out⟩ (fun hH => ?_)
                generalize wr.drew = wk4 at HO HK HBb hH ⊢
                refine aT (i := 0) (oi := { dst := some 75, op := Op.move (Operand.tmp 9), type := 22, pos := "law.go:91", after := #[], guard := none }) (v := .slice (some ⟨gy, 0, none⟩) ys.length co) (fun _ _ => by kernel_rfl) hH ?_
                try simp only [pA, pB, p1, p2, p3]
                refine aT (i := 1) (oi := { dst := some 76, op := Op.move (Operand.tmp 11), type := 3, pos := "law.go:91", after := #[], guard := none }) (v := .int .i64 ((i : Nat) : Int)) (fun _ _ => by kernel_rfl) hH ?_
                try simp only [pA, pB, p1, p2, p3]
                refine aT (i := 2) (oi := { dst := some 77, op := Op.indexAddr 22 (Operand.tmp 75) (Operand.tmp 76), type := 0, pos := "law.go:91", after := #[{ on := 0, ground := Ground.data }, { on := 1, ground := Ground.data }], guard := none }) (v := .pointer (some ⟨gy, 0 + i * 1, none⟩)) (fun w' hw => exec_ixA 22 1 E22 F22 _ _ rfl gy 0 ys.length co i (by kernel_rfl) (by kernel_rfl) (by have := HYl.out; have := HPp.out; omega)) hH ?_
                try simp only [pA, pB, p1, p2, p3]
                refine aT (i := 3) (oi := { dst := some 78, op := Op.load 9 (Operand.tmp 77), type := 9, pos := "law.go:91", after := #[{ on := 2, ground := Ground.data }], guard := none }) (v := .string (bs y)) (fun w' hw => exec_load 9 _ rfl ⟨gy, 0 + i * 1, none⟩ (by kernel_rfl) (.string (bs y)) (load_one (hw.1.cellAt (i := 0 + i * 1) HYi.out) U9 rfl)) hH ?_
                try simp only [pA, pB, p1, p2, p3]
                refine aT (i := 4) (oi := { dst := some 79, op := Op.move (Operand.tmp 12), type := 30, pos := "law.go:91", after := #[], guard := none }) (v := .slice ba y.length bc) (fun _ _ => by kernel_rfl) hH ?_
                try simp only [pA, pB, p1, p2, p3]
                refine aT (i := 5) (oi := { dst := some 80, op := Op.convert 30 9 (Operand.tmp 79), type := 9, pos := "law.go:91", after := #[{ on := 4, ground := Ground.data }], guard := none }) (v := .string (bs y)) (fun w' hw => exec_conv _ 30 9 rfl _ _ (by kernel_rfl) (run_convR (cap := bc) hw.2 rfl)) hH ?_
                try simp only [pA, pB, p1, p2, p3]
                refine aT (i := 6) (oi := { dst := some 81, op := Op.binOp BinOp.neq 9 (Operand.tmp 78) (Operand.tmp 80) 9, type := 4, pos := "law.go:91", after := #[{ on := 3, ground := Ground.data }, { on := 5, ground := Ground.data }], guard := none }) (v := .bool false) (fun w' hw => exec_bin .neq 9 _ _ _ rfl (.string (bs y)) (.string (bs y)) (.bool false) (by kernel_rfl) (by kernel_rfl) (by kernel_rfl) (by rw [b_neqS]; simp)) hH ?_
                try simp only [pA, pB, p1, p2, p3]
                refine wpAnyH_done (by kernel_rfl) ?_ _
                try simp only [pA, pB, p1, p2, p3]
                clear hH
                go_upto_region 18 with fail
                refine WL.start ?_
                refine tK (.int .i64 ((i : Nat) : Int)) ?_
                try simp only [pA, pB, p1, p2, p3]
                refine tW (.int .i64 ((i + 1 : Nat) : Int)) (exec_bin .add 3 _ _ _ rfl (.int .i64 ((i : Nat) : Int)) (.int .i64 1) (.int .i64 ((i + 1 : Nat) : Int)) (by kernel_rfl) (by kernel_rfl) (by kernel_rfl) (b_add1 i (by have := HI.out; omega) _)) ?_
                try simp only [pA, pB, p1, p2, p3]
                refine tK (.int .i64 ((i + 1 : Nat) : Int)) ?_
                try simp only [pA, pB, p1, p2, p3]
                refine WL.nil ?_
                try simp only [pA, pB, p1, p2, p3]
                go_wp2
                go_roundw
                case rel => exact ⟨i + 1, by go_num, HPm.out, HO, HK⟩
                case measure => have := HPm.out; simp [intOf]; omega
              · skip
                have hbi2 : ¬ (4000 : Int) < ((x.length : Nat) : Int) := by omega
                have HBb : Hid (Nums .u8 wr ba (x.map bi)) := HNx.out
                have HYi : Hid ((ys.map strV)[0 + i * 1]? = some (strV x)) := by show _ = _; rw [Nat.zero_add, Nat.mul_one, List.getElem?_map, HYi0.out, List.take_of_length_le (by omega)]; rfl
                clear hbig
                go_upto_region 17 with fail
                refine WL.start ?_
                refine tK (.int .i64 ((i : Nat) : Int)) ?_
                try simp only [pA, pB, p1, p2, p3]
                refine tK (.int .i64 ((m : Nat) : Int)) ?_
                try simp only [pA, pB, p1, p2, p3]
                refine tW (.bool true) (exec_bin .lss 3 _ _ _ rfl (.int .i64 ((i : Nat) : Int)) (.int .i64 ((m : Nat) : Int)) (.bool true) (by kernel_rfl) (by kernel_rfl) (by kernel_rfl) (by rw [b_lss, decide_eq_true hcm2])) ?_
                try simp only [pA, pB, p1, p2, p3]
                refine WL.nil ?_
                try simp only [pA, pB, p1, p2, p3]
                go_upto_region 19 with fail
                refine WL.start ?_
                refine tK (.slice (some ⟨gw, ow, none⟩) xs.length cap) ?_
                try simp only [pA, pB, p1, p2, p3]
                refine tK (.int .i64 ((i : Nat) : Int)) ?_
                try simp only [pA, pB, p1, p2, p3]
                refine tW (.pointer (some ⟨gw, ow + i * 1, none⟩)) (exec_ixA 33 1 E33 F33 _ _ rfl gw ow xs.length cap i (by kernel_rfl) (by kernel_rfl) (by have := HPp.out; omega)) ?_
                try simp only [pA, pB, p1, p2, p3]
                refine tW (.slice ba x.length bc) (exec_load 30 _ rfl ⟨gw, ow + i * 1, none⟩ (by kernel_rfl) (.slice ba x.length bc) (load_one HCell.out U30 rfl)) ?_
                try simp only [pA, pB, p1, p2, p3]
                refine tK (.slice ba x.length bc) ?_
                try simp only [pA, pB, p1, p2, p3]
                refine WL.nil ?_
                try simp only [pA, pB, p1, p2, p3]
                go_upto_region 20 with fail
                refine WL.start ?_
                refine tK (.slice ba x.length bc) ?_
                try simp only [pA, pB, p1, p2, p3]
                refine tK (.int .i64 ((x.length : Nat) : Int)) ?_
                try simp only [pA, pB, p1, p2, p3]
                refine tW (.bool false) (exec_bin .gtr 3 _ _ _ rfl (.int .i64 ((x.length : Nat) : Int)) (.int .i64 4000) (.bool false) (by kernel_rfl) (by kernel_rfl) (by kernel_rfl) (by rw [b_gtr3, decide_eq_false hbi2])) ?_
                try simp only [pA, pB, p1, p2, p3]
                refine WL.nil ?_
                try simp only [pA, pB, p1, p2, p3]
                go_upto_region 22 with fail
                have HO : Hid (Own 9 1 wr.drew nb (some ⟨gy, 0, none⟩) co ys.length (ys.map strV)) := HO.out.no (Kept.refl No _).drew
                have HK : Hid (Kept No w wr.drew) := HK.out.drew
                have HBb : Hid (Nums .u8 wr.drew ba (x.map bi)) := HBb.out.no (Kept.refl No _).drew
                refine wp_region_held_drew (S := fun w' => Own 9 1 w' nb (some ⟨gy, 0, none⟩) co ys.length (ys.map strV) ∧ Nums .u8 w' ba (x.map bi)) rfl ⟨HO.out, HBb.out⟩ (fun hH => ?_)
                generalize wr.drew = wk5 at HO HK HBb hH ⊢
                refine aT (i := 0) (oi := { dst := some 75, op := Op.move (Operand.tmp 9), type := 22, pos := "law.go:91", after := #[], guard := none }) (v := .slice (some ⟨gy, 0, none⟩) ys.length co) (fun _ _ => by kernel_rfl) hH ?_
                try simp only [pA, pB, p1, p2, p3]
                refine aT (i := 1) (oi := { dst := some 76, op := Op.move (Operand.tmp 11), type := 3, pos := "law.go:91", after := #[], guard := none }) (v := .int .i64 ((i : Nat) : Int)) (fun _ _ => by kernel_rfl) hH ?_
                try simp only [pA, pB, p1, p2, p3]
                refine aT (i := 2) (oi := { dst := some 77, op := Op.indexAddr 22 (Operand.tmp 75) (Operand.tmp 76), type := 0, pos := "law.go:91", after := #[{ on := 0, ground := Ground.data }, { on := 1, ground := Ground.data }], guard := none }) (v := .pointer (some ⟨gy, 0 + i * 1, none⟩)) (fun w' hw => exec_ixA 22 1 E22 F22 _ _ rfl gy 0 ys.length co i (by kernel_rfl) (by kernel_rfl) (by have := HYl.out; have := HPp.out; omega)) hH ?_
                try simp only [pA, pB, p1, p2, p3]
                refine aT (i := 3) (oi := { dst := some 78, op := Op.load 9 (Operand.tmp 77), type := 9, pos := "law.go:91", after := #[{ on := 2, ground := Ground.data }], guard := none }) (v := .string (bs x)) (fun w' hw => exec_load 9 _ rfl ⟨gy, 0 + i * 1, none⟩ (by kernel_rfl) (.string (bs x)) (load_one (hw.1.cellAt (i := 0 + i * 1) HYi.out) U9 rfl)) hH ?_
                try simp only [pA, pB, p1, p2, p3]
                refine aT (i := 4) (oi := { dst := some 79, op := Op.move (Operand.tmp 12), type := 30, pos := "law.go:91", after := #[], guard := none }) (v := .slice ba x.length bc) (fun _ _ => by kernel_rfl) hH ?_
                try simp only [pA, pB, p1, p2, p3]
                refine aT (i := 5) (oi := { dst := some 80, op := Op.convert 30 9 (Operand.tmp 79), type := 9, pos := "law.go:91", after := #[{ on := 4, ground := Ground.data }], guard := none }) (v := .string (bs x)) (fun w' hw => exec_conv _ 30 9 rfl _ _ (by kernel_rfl) (run_convR (cap := bc) hw.2 rfl)) hH ?_
                try simp only [pA, pB, p1, p2, p3]
                refine aT (i := 6) (oi := { dst := some 81, op := Op.binOp BinOp.neq 9 (Operand.tmp 78) (Operand.tmp 80) 9, type := 4, pos := "law.go:91", after := #[{ on := 3, ground := Ground.data }, { on := 5, ground := Ground.data }], guard := none }) (v := .bool false) (fun w' hw => exec_bin .neq 9 _ _ _ rfl (.string (bs x)) (.string (bs x)) (.bool false) (by kernel_rfl) (by kernel_rfl) (by kernel_rfl) (by rw [b_neqS]; simp)) hH ?_
                try simp only [pA, pB, p1, p2, p3]
                refine wpAnyH_done (by kernel_rfl) ?_ _
                try simp only [pA, pB, p1, p2, p3]
                clear hH
                go_upto_region 18 with fail
                refine WL.start ?_
                refine tK (.int .i64 ((i : Nat) : Int)) ?_
                try simp only [pA, pB, p1, p2, p3]
                refine tW (.int .i64 ((i + 1 : Nat) : Int)) (exec_bin .add 3 _ _ _ rfl (.int .i64 ((i : Nat) : Int)) (.int .i64 1) (.int .i64 ((i + 1 : Nat) : Int)) (by kernel_rfl) (by kernel_rfl) (by kernel_rfl) (b_add1 i (by have := HI.out; omega) _)) ?_
                try simp only [pA, pB, p1, p2, p3]
                refine tK (.int .i64 ((i + 1 : Nat) : Int)) ?_
                try simp only [pA, pB, p1, p2, p3]
                refine WL.nil ?_
                try simp only [pA, pB, p1, p2, p3]
                go_wp2
                go_roundw
                case rel => exact ⟨i + 1, by go_num, HPm.out, HO, HK⟩
                case measure => have := HPm.out; simp [intOf]; omega
            · have hcm2 : ¬ ((i : Nat) : Int) < ((m : Nat) : Int) := by omega
              go_upto_region 17 with fail
              refine WL.start ?_
              refine tK (.int .i64 ((i : Nat) : Int)) ?_
              try simp only [pA, pB, p1, p2, p3]
              refine tK (.int .i64 ((m : Nat) : Int)) ?_
              try simp only [pA, pB, p1, p2, p3]
              refine tW (.bool false) (exec_bin .lss 3 _ _ _ rfl (.int .i64 ((i : Nat) : Int)) (.int .i64 ((m : Nat) : Int)) (.bool false) (by kernel_rfl) (by kernel_rfl) (by kernel_rfl) (by rw [b_lss, decide_eq_false hcm2])) ?_
              try simp only [pA, pB, p1, p2, p3]
              refine WL.nil ?_
              try simp only [pA, pB, p1, p2, p3]
              go_upto_region 24 with fail
              refine WL.start ?_
              refine wp_runW (.slice (some ⟨wr.heap.size, 0, none⟩) 1 1) (wr.alloc (.cells #[.int .u8 120] 5)) (exec_built (by kernel_rfl)) (by kernel_rfl) ?_
              try simp only [pA, pB, p1, p2, p3]
              refine wp_runW (.slice (some ⟨wr.heap.size, 0, none⟩) 1 1) (wr.alloc (.cells #[.int .u8 120] 5 (1, 2))) (exec_convW _ 30 30 rfl _ _ (by kernel_rfl) (Go.Lib.run_convert_bytes_const wr 30 5 #[.int .u8 120] 1 1 U30 U5)) (by kernel_rfl) ?_
              try simp only [pA, pB, p1, p2, p3]
              have HK : Hid (Kept No w (wr.alloc (.cells #[.int .u8 120] 5 (1, 2)))) := HK.out.alloc _
              have HXx : Hid (Nums .u8 (wr.alloc (.cells #[.int .u8 120] 5 (1, 2))) (some ⟨wr.heap.size, 0, none⟩) ([120].map bi)) := num_x _
              have HO : Hid (Own 9 1 (wr.alloc (.cells #[.int .u8 120] 5 (1, 2))) nb ao co ys.length (ys.map strV)) := HO.out.no ((Kept.refl No _).alloc _)
              generalize wr.alloc (.cells #[.int .u8 120] 5 (1, 2)) = W24 at HK HXx HO ⊢
              generalize wr.heap.size = g24 at HXx ⊢
              refine wp_callW 10 #[.slice (some ⟨g24, 0, none⟩) 1 1] (by kernel_rfl) _ (quote_any (some ⟨g24, 0, none⟩) [120] 1 W24 (by decide) HXx.out) (by kernel_rfl) ?_
              rintro e w_5 ⟨rfl, hk⟩
              have HK : Hid (Kept No w w_5) := HK.out.then hk
              clear hk
              refine ⟨.string (bs (quoteL [120])), rfl, ?_⟩
              try simp only [pA, pB, p1, p2, p3]
              refine tW (.bool true) (exec_bin .eql 9 _ _ _ rfl (.string (bs (quoteL [120]))) (.string ⟨#[34, 120, 34]⟩) (.bool true) (by kernel_rfl) (by kernel_rfl) (by kernel_rfl) ((b_eqlS (quoteL [120]) [34, 120, 34] _).trans (by rw [quote_x]; rfl))) ?_
              try simp only [pA, pB, p1, p2, p3]
              refine tK (.bool true) ?_
              try simp only [pA, pB, p1, p2, p3]
              refine WL.nil ?_
              try simp only [pA, pB, p1, p2, p3]
              go_wp2
              rw [HC.out]
              exact ⟨rfl, HK.out⟩
        · skip
          have hbi : ¬ (1000 : Int) < ((cm.length : Nat) : Int) := by omega
          have HCl : Hid (cm.length ≤ 1000) := by show _ ≤ _; omega
          have HBl : Hid (ln.length ≤ 40000 ∧ cm.length ≤ 1000) := ⟨HLn.out, HCl.out⟩
          have HZ : Hid (wordsOf (ln ++ [9, 35] ++ cm) = some ys) := by show _ = _; rw [HYs.out, HLn0.out]; exact words_line _ _
          go_upto_region 4 with fail
          refine WL.start ?_
          refine tK (.int .i64 ((m : Nat) : Int)) ?_
          try simp only [pA, pB, p1, p2, p3]
          refine tK (.slice a xs.length cap) ?_
          try simp only [pA, pB, p1, p2, p3]
          refine tK (.int .i64 ((xs.length : Nat) : Int)) ?_
          try simp only [pA, pB, p1, p2, p3]
          refine tW (.bool true) (exec_bin .lss 3 _ _ _ rfl (.int .i64 ((m : Nat) : Int)) (.int .i64 ((xs.length : Nat) : Int)) (.bool true) (by kernel_rfl) (by kernel_rfl) (by kernel_rfl) (by rw [b_lss, decide_eq_true hcm])) ?_
          try simp only [pA, pB, p1, p2, p3]
          refine tK (.bool true) ?_
          try simp only [pA, pB, p1, p2, p3]
          refine tK (.string (bs ln)) ?_
          try simp only [pA, pB, p1, p2, p3]
          refine tK (.int .i64 ((ln.length : Nat) : Int)) ?_
          try simp only [pA, pB, p1, p2, p3]
          refine tW (.bool false) (exec_bin .lss 3 _ _ _ rfl (.int .i64 ((ln.length : Nat) : Int)) (.int .i64 20000) (.bool false) (by kernel_rfl) (by kernel_rfl) (by kernel_rfl) (by rw [b_lss, decide_eq_false hcq])) ?_
          try simp only [pA, pB, p1, p2, p3]
          refine tK (.bool false) ?_
          try simp only [pA, pB, p1, p2, p3]
          refine WL.nil ?_
          try simp only [pA, pB, p1, p2, p3]
          go_upto_region 11 with fail
          refine WL.start ?_
          refine tK (.string (bs cm)) ?_
          try simp only [pA, pB, p1, p2, p3]
          refine tK (.int .i64 ((cm.length : Nat) : Int)) ?_
          try simp only [pA, pB, p1, p2, p3]
          refine tW (.bool false) (exec_bin .gtr 3 _ _ _ rfl (.int .i64 ((cm.length : Nat) : Int)) (.int .i64 1000) (.bool false) (by kernel_rfl) (by kernel_rfl) (by kernel_rfl) (by rw [b_gtr3, decide_eq_false hbi])) ?_
          try simp only [pA, pB, p1, p2, p3]
          refine WL.nil ?_
          try simp only [pA, pB, p1, p2, p3]
          go_upto_region 13 with fail
          refine WL.start ?_
          refine tK (.string (bs ln)) ?_
          try simp only [pA, pB, p1, p2, p3]
          refine tW (.string (bs (ln ++ [9, 35]))) (exec_bin .add 9 _ _ _ rfl (.string (bs ln)) (.string ⟨#[9, 35]⟩) (.string (bs (ln ++ [9, 35]))) (by kernel_rfl) (by kernel_rfl) (by kernel_rfl) (b_addS ln ([9, 35]) (by have h1 := HBl.out; first | (simp; omega) | (have h2 := quoteL_len []; simp; omega)) _)) ?_
          try simp only [pA, pB, p1, p2, p3]
          refine tK (.string (bs cm)) ?_
          try simp only [pA, pB, p1, p2, p3]
          refine tW (.string (bs ((ln ++ [9, 35]) ++ cm))) (exec_bin .add 9 _ _ _ rfl (.string (bs (ln ++ [9, 35]))) (.string (bs cm)) (.string (bs ((ln ++ [9, 35]) ++ cm))) (by kernel_rfl) (by kernel_rfl) (by kernel_rfl) (b_addS (ln ++ [9, 35]) cm (by have h1 := HBl.out; first | (simp; omega) | (have h2 := quoteL_len []; simp; omega)) _)) ?_
          try simp only [pA, pB, p1, p2, p3]
          refine wp_callW 7 #[.string (bs ((ln ++ [9, 35]) ++ cm))] (by kernel_rfl) _ (words_any ((ln ++ [9, 35]) ++ cm) (by have h1 := HLn.out; have h2 := HCl.out; simp; omega) wr) (by kernel_rfl) ?_
          rintro e w_6 ⟨hws, hk⟩
          rw [HZ.out] at hws
          obtain ⟨ao, co, rfl, ho⟩ := hws.ss
          clear hws
          have HK : Hid (Kept No w w_6) := HK.out.then hk
          have HO : Hid (Own 9 1 w_6 wr.heap.size ao co ys.length (ys.map strV)) := ho
          obtain ⟨nb, hnb⟩ : ∃ n, n = wr.heap.size := ⟨_, rfl⟩
          rw [← hnb] at HO
          clear hk ho hnb
          refine ⟨.tuple #[.slice ao ys.length co, .int .i64 0], rfl, ?_⟩
          try simp only [pA, pB, p1, p2, p3]
          refine tK (.tuple #[.slice ao ys.length co, .int .i64 0]) ?_
          try simp only [pA, pB, p1, p2, p3]
          refine tK (.slice ao ys.length co) ?_
          try simp only [pA, pB, p1, p2, p3]
          refine tK (.int .i64 0) ?_
          try simp only [pA, pB, p1, p2, p3]
          refine tK (.slice ao ys.length co) ?_
          try simp only [pA, pB, p1, p2, p3]
          refine tK (.int .i64 0) ?_
          try simp only [pA, pB, p1, p2, p3]
          refine WL.nil ?_
          try simp only [pA, pB, p1, p2, p3]
          go_upto_region 14 with fail
          refine WL.start ?_
          refine tK (.int .i64 0) ?_
          try simp only [pA, pB, p1, p2, p3]
          refine tK (.bool false) ?_
          try simp only [pA, pB, p1, p2, p3]
          refine tK (.bool false) ?_
          try simp only [pA, pB, p1, p2, p3]
          refine tK (.slice ao ys.length co) ?_
          try simp only [pA, pB, p1, p2, p3]
          refine tK (.int .i64 ((ys.length : Nat) : Int)) ?_
          try simp only [pA, pB, p1, p2, p3]
          refine tK (.int .i64 ((m : Nat) : Int)) ?_
          try simp only [pA, pB, p1, p2, p3]
          refine tW (.bool false) (exec_bin .neq 3 _ _ _ rfl (.int .i64 ((ys.length : Nat) : Int)) (.int .i64 ((m : Nat) : Int)) (.bool false) (by kernel_rfl) (by kernel_rfl) (by kernel_rfl) (by rw [b_neq3, hym]; rfl)) ?_
          try simp only [pA, pB, p1, p2, p3]
          refine tK (.bool false) ?_
          try simp only [pA, pB, p1, p2, p3]
          refine WL.nil ?_
          try simp only [pA, pB, p1, p2, p3]
          go_upto_region 16 with fail
          refine WL.start ?_
          refine tK (.int .i64 0) ?_
          try simp only [pA, pB, p1, p2, p3]
          refine WL.nil ?_
          try simp only [pA, pB, p1, p2, p3]
          clear hym
          go_wp2
          go_loopw [11] (fun v11 wr => ∃ i : Nat, v11 = .int .i64 ((i : Nat) : Int) ∧ Hid (i ≤ m) ∧ Hid (Own 9 1 wr nb ao co ys.length (ys.map strV)) ∧ Hid (Kept No w wr)) (fun v11 _ => m - (intOf v11).toNat)
          case atStart => exact ⟨0, by go_num, Nat.zero_le _, HO, HK⟩
          case round =>
            clear HO HK
            obtain ⟨i, rfl, HIm, HO, HK⟩ := hrel
            by_cases hp2 : i < m
            · have hcm2 : ((i : Nat) : Int) < ((m : Nat) : Int) := by omega
              obtain ⟨gy, rfl⟩ := HO.out.some_of (by have := HYl.out; omega)
              obtain ⟨x, hx⟩ : ∃ x, xs[i]? = some x := ⟨_, List.getElem?_eq_getElem (by have := HMm.out; omega)⟩
              have HX0 : Hid (xs[i]? = some x) := hx
              have HYi0 : Hid (ys[i]? = some (x.take 4000)) := by show _ = _; rw [HYs.out, List.getElem?_map, List.getElem?_take, if_pos hp2, hx]; rfl
              obtain ⟨gw, ow, ba, bc, ha, hcl, hle, hnm⟩ := (HB.out.no HK.out) i x hx
              subst ha
              have HCell : Hid (wr.cell? ⟨gw, ow + i * 1, none⟩ = some (.slice ba x.length bc)) := hcl
              have HLe : Hid (x.length ≤ bc) := hle
              have HNx : Hid (Nums .u8 wr ba (x.map bi)) := hnm
              have HPm : Hid (i < m) := hp2
              have HPp : Hid (i < m ∧ i < xs.length) := ⟨hp2, by have := HMm.out; omega⟩
              have HI : Hid (i ≤ 100000000000000) := show i ≤ 100000000000000 by have := HMi.out; omega
              clear hx hcl hle hnm hp2
              by_cases hbig : 4000 < x.length
              · skip
                have hbi2 : (4000 : Int) < ((x.length : Nat) : Int) := by omega
                obtain ⟨y, hy⟩ : ∃ y, y = x.take 4000 := ⟨_, rfl⟩
                have hyl : y.length = 4000 := by rw [hy, List.length_take]; omega
                have HLk : Hid (y.length = 4000) := hyl
                have HBb : Hid (Nums .u8 wr ba (y.map bi)) := by rw [hy]; exact HNx.out.take _
                have HYi : Hid ((ys.map strV)[0 + i * 1]? = some (strV y)) := by show _ = _; rw [Nat.zero_add, Nat.mul_one, List.getElem?_map, HYi0.out, hy]; rfl
                clear hy hyl hbig
                go_upto_region 17 with fail
                refine WL.start ?_
                refine tK (.int .i64 ((i : Nat) : Int)) ?_
                try simp only [pA, pB, p1, p2, p3]
                refine tK (.int .i64 ((m : Nat) : Int)) ?_
                try simp only [pA, pB, p1, p2, p3]
                refine tW (.bool true) (exec_bin .lss 3 _ _ _ rfl (.int .i64 ((i : Nat) : Int)) (.int .i64 ((m : Nat) : Int)) (.bool true) (by kernel_rfl) (by kernel_rfl) (by kernel_rfl) (by rw [b_lss, decide_eq_true hcm2])) ?_
                try simp only [pA, pB, p1, p2, p3]
                refine WL.nil ?_
                try simp only [pA, pB, p1, p2, p3]
                go_upto_region 19 with fail
                refine WL.start ?_
                refine tK (.slice (some ⟨gw, ow, none⟩) xs.length cap) ?_
                try simp only [pA, pB, p1, p2, p3]
                refine tK (.int .i64 ((i : Nat) : Int)) ?_
                try simp only [pA, pB, p1, p2, p3]
                refine tW (.pointer (some ⟨gw, ow + i * 1, none⟩)) (exec_ixA 33 1 E33 F33 _ _ rfl gw ow xs.length cap i (by kernel_rfl) (by kernel_rfl) (by have := HPp.out; omega)) ?_
                try simp only [pA, pB, p1, p2, p3]
                refine tW (.slice ba x.length bc) (exec_load 30 _ rfl ⟨gw, ow + i * 1, none⟩ (by kernel_rfl) (.slice ba x.length bc) (load_one HCell.out U30 rfl)) ?_
                try simp only [pA, pB, p1, p2, p3]
                refine tK (.slice ba x.length bc) ?_
                try simp only [pA, pB, p1, p2, p3]
                refine WL.nil ?_
                try simp only [pA, pB, p1, p2, p3]
                go_upto_region 20 with fail
                refine WL.start ?_
                refine tK (.slice ba x.length bc) ?_
                try simp only [pA, pB, p1, p2, p3]
                refine tK (.int .i64 ((x.length : Nat) : Int)) ?_
                try simp only [pA, pB, p1, p2, p3]
                refine tW (.bool true) (exec_bin .gtr 3 _ _ _ rfl (.int .i64 ((x.length : Nat) : Int)) (.int .i64 4000) (.bool true) (by kernel_rfl) (by kernel_rfl) (by kernel_rfl) (by rw [b_gtr3, decide_eq_true hbi2])) ?_
                try simp only [pA, pB, p1, p2, p3]
                refine WL.nil ?_
                try simp only [pA, pB, p1, p2, p3]
                go_upto_region 21 with fail
                refine WL.start ?_
                refine tK (.slice ba x.length bc) ?_
                try simp only [pA, pB, p1, p2, p3]
                refine tW (.slice ba y.length bc) ((by rw [HLk.out]; exact exec_slT 30 5 E30 F30 _ _ rfl ba x.length bc 4000 (by kernel_rfl) (by kernel_rfl) (by have := HLe.out; omega))) ?_
                try simp only [pA, pB, p1, p2, p3]
                refine tK (.slice ba y.length bc) ?_
                try simp only [pA, pB, p1, p2, p3]
                refine WL.nil ?_
                try simp only [pA, pB, p1, p2, p3]
                go_upto_region 22 with fail
                have HO : Hid (Own 9 1 wr.drew nb (some ⟨gy, 0, none⟩) co ys.length (ys.map strV)) := HO.out.no (Kept.refl No _).drew
                have HK : Hid (Kept No w wr.drew) := HK.out.drew
                have HBb : Hid (Nums .u8 wr.drew ba (y.map bi)) := HBb.out.no (Kept.refl No _).drew
                refine wp_region_held_drew (S := fun w' => Own 9 1 w' nb (some ⟨gy, 0, none⟩) co ys.length (ys.map strV) ∧ Nums .u8 w' ba (y.map bi)) rfl ⟨HO.out, HBb.out⟩ (fun hH => ?_)
                generalize wr.drew = wk8 at HO HK HBb hH ⊢
                refine aT (i := 0) (oi := { dst := some 75, op := Op.move (Operand.tmp 9), type := 22, pos := "law.go:91", after := #[], guard := none }) (v := .slice (some ⟨gy, 0, none⟩) ys.length co) (fun _ _ => by kernel_rfl) hH ?_
                try simp only [pA, pB, p1, p2, p3]
                refine aT (i := 1) (oi := { dst := some 76, op := Op.move (Operand.tmp 11), type := 3, pos := "law.go:91", after := #[], guard := none }) (v := .int .i64 ((i : Nat) : Int)) (fun _ _ => by kernel_rfl) hH ?_
                try simp only [pA, pB, p1, p2, p3]
                refine aT (i := 2) (oi := { dst := some 77, op := Op.indexAddr 22 (Operand.tmp 75) (Operand.tmp 76), type := 0, pos := "law.go:91", after := #[{ on := 0, ground := Ground.data }, { on := 1, ground := Ground.data }], guard := none }) (v := .pointer (some ⟨gy, 0 + i * 1, none⟩)) (fun w' hw => exec_ixA 22 1 E22 F22 _ _ rfl gy 0 ys.length co i (by kernel_rfl) (by kernel_rfl) (by have := HYl.out; have := HPp.out; omega)) hH ?_
                try simp only [pA, pB, p1, p2, p3]
                refine aT (i := 3) (oi := { dst := some 78, op := Op.load 9 (Operand.tmp 77), type := 9, pos := "law.go:91", after := #[{ on := 2, ground := Ground.data }], guard := none }) (v := .string (bs y)) (fun w' hw => exec_load 9 _ rfl ⟨gy, 0 + i * 1, none⟩ (by kernel_rfl) (.string (bs y)) (load_one (hw.1.cellAt (i := 0 + i * 1) HYi.out) U9 rfl)) hH ?_
                try simp only [pA, pB, p1, p2, p3]
                refine aT (i := 4) (oi := { dst := some 79, op := Op.move (Operand.tmp 12), type := 30, pos := "law.go:91", after := #[], guard := none }) (v := .slice ba y.length bc) (fun _ _ => by kernel_rfl) hH ?_
                try simp only [pA, pB, p1, p2, p3]
                refine aT (i := 5) (oi := { dst := some 80, op := Op.convert 30 9 (Operand.tmp 79), type := 9, pos := "law.go:91", after := #[{ on := 4, ground := Ground.data }], guard := none }) (v := .string (bs y)) (fun w' hw => exec_conv _ 30 9 rfl _ _ (by kernel_rfl) (run_convR (cap := bc) hw.2 rfl)) hH ?_
                try simp only [pA, pB, p1, p2, p3]
                refine aT (i := 6) (oi := { dst := some 81, op := Op.binOp BinOp.neq 9 (Operand.tmp 78) (Operand.tmp 80) 9, type := 4, pos := "law.go:91", after := #[{ on := 3, ground := Ground.data }, { on := 5, ground := Ground.data }], guard := none }) (v := .bool false) (fun w' hw => exec_bin .neq 9 _ _ _ rfl (.string (bs y)) (.string (bs y)) (.bool false) (by kernel_rfl) (by kernel_rfl) (by kernel_rfl) (by rw [b_neqS]; simp)) hH ?_
                try simp only [pA, pB, p1, p2, p3]
                refine wpAnyH_done (by kernel_rfl) ?_ _
                try simp only [pA, pB, p1, p2, p3]
                clear hH
                go_upto_region 18 with fail
                refine WL.start ?_
                refine tK (.int .i64 ((i : Nat) : Int)) ?_
                try simp only [pA, pB, p1, p2, p3]
                refine tW (.int .i64 ((i + 1 : Nat) : Int)) (exec_bin .add 3 _ _ _ rfl (.int .i64 ((i : Nat) : Int)) (.int .i64 1) (.int .i64 ((i + 1 : Nat) : Int)) (by kernel_rfl) (by kernel_rfl) (by kernel_rfl) (b_add1 i (by have := HI.out; omega) _)) ?_
                try simp only [pA, pB, p1, p2, p3]
                refine tK (.int .i64 ((i + 1 : Nat) : Int)) ?_
                try simp only [pA, pB, p1, p2, p3]
                refine WL.nil ?_
                try simp only [pA, pB, p1, p2, p3]
                go_wp2
                go_roundw
                case rel => exact ⟨i + 1, by go_num, HPm.out, HO, HK⟩
                case measure => have := HPm.out; simp [intOf]; omega
              · skip
                have hbi2 : ¬ (4000 : Int) < ((x.length : Nat) : Int) := by omega
                have HBb : Hid (Nums .u8 wr ba (x.map bi)) := HNx.out
                have HYi : Hid ((ys.map strV)[0 + i * 1]? = some (strV x)) := by show _ = _; rw [Nat.zero_add, Nat.mul_one, List.getElem?_map, HYi0.out, List.take_of_length_le (by omega)]; rfl
                clear hbig
                go_upto_region 17 with fail
                refine WL.start ?_
                refine tK (.int .i64 ((i : Nat) : Int)) ?_
                try simp only [pA, pB, p1, p2, p3]
                refine tK (.int .i64 ((m : Nat) : Int)) ?_
                try simp only [pA, pB, p1, p2, p3]
                refine tW (.bool true) (exec_bin .lss 3 _ _ _ rfl (.int .i64 ((i : Nat) : Int)) (.int .i64 ((m : Nat) : Int)) (.bool true) (by kernel_rfl) (by kernel_rfl) (by kernel_rfl) (by rw [b_lss, decide_eq_true hcm2])) ?_
                try simp only [pA, pB, p1, p2, p3]
                refine WL.nil ?_
                try simp only [pA, pB, p1, p2, p3]
                go_upto_region 19 with fail
                refine WL.start ?_
                refine tK (.slice (some ⟨gw, ow, none⟩) xs.length cap) ?_
                try simp only [pA, pB, p1, p2, p3]
                refine tK (.int .i64 ((i : Nat) : Int)) ?_
                try simp only [pA, pB, p1, p2, p3]
                refine tW (.pointer (some ⟨gw, ow + i * 1, none⟩)) (exec_ixA 33 1 E33 F33 _ _ rfl gw ow xs.length cap i (by kernel_rfl) (by kernel_rfl) (by have := HPp.out; omega)) ?_
                try simp only [pA, pB, p1, p2, p3]
                refine tW (.slice ba x.length bc) (exec_load 30 _ rfl ⟨gw, ow + i * 1, none⟩ (by kernel_rfl) (.slice ba x.length bc) (load_one HCell.out U30 rfl)) ?_
                try simp only [pA, pB, p1, p2, p3]
                refine tK (.slice ba x.length bc) ?_
                try simp only [pA, pB, p1, p2, p3]
                refine WL.nil ?_
                try simp only [pA, pB, p1, p2, p3]
                go_upto_region 20 with fail
                refine WL.start ?_
                refine tK (.slice ba x.length bc) ?_
                try simp only [pA, pB, p1, p2, p3]
                refine tK (.int .i64 ((x.length : Nat) : Int)) ?_
                try simp only [pA, pB, p1, p2, p3]
                refine tW (.bool false) (exec_bin .gtr 3 _ _ _ rfl (.int .i64 ((x.length : Nat) : Int)) (.int .i64 4000) (.bool false) (by kernel_rfl) (by kernel_rfl) (by kernel_rfl) (by rw [b_gtr3, decide_eq_false hbi2])) ?_
                try simp only [pA, pB, p1, p2, p3]
                refine WL.nil ?_
                try simp only [pA, pB, p1, p2, p3]
                go_upto_region 22 with fail
                have HO : Hid (Own 9 1 wr.drew nb (some ⟨gy, 0, none⟩) co ys.length (ys.map strV)) := HO.out.no (Kept.refl No _).drew
                have HK : Hid (Kept No w wr.drew) := HK.out.drew
                have HBb : Hid (Nums .u8 wr.drew ba (x.map bi)) := HBb.out.no (Kept.refl No _).drew
                refine wp_region_held_drew (S := fun w' => Own 9 1 w' nb (some ⟨gy, 0, none⟩) co ys.length (ys.map strV) ∧ Nums .u8 w' ba (x.map bi)) rfl ⟨HO.out, HBb.out⟩ (fun hH => ?_)
                generalize wr.drew = wk9 at HO HK HBb hH ⊢
                refine aT (i := 0) (oi := { dst := some 75, op := Op.move (Operand.tmp 9), type := 22, pos := "law.go:91", after := #[], guard := none }) (v := .slice (some ⟨gy, 0, none⟩) ys.length co) (fun _ _ => by kernel_rfl) hH ?_
                try simp only [pA, pB, p1, p2, p3]
                refine aT (i := 1) (oi := { dst := some 76, op := Op.move (Operand.tmp 11), type := 3, pos := "law.go:91", after := #[], guard := none }) (v := .int .i64 ((i : Nat) : Int)) (fun _ _ => by kernel_rfl) hH ?_
                try simp only [pA, pB, p1, p2, p3]
                refine aT (i := 2) (oi := { dst := some 77, op := Op.indexAddr 22 (Operand.tmp 75) (Operand.tmp 76), type := 0, pos := "law.go:91", after := #[{ on := 0, ground := Ground.data }, { on := 1, ground := Ground.data }], guard := none }) (v := .pointer (some ⟨gy, 0 + i * 1, none⟩)) (fun w' hw => exec_ixA 22 1 E22 F22 _ _ rfl gy 0 ys.length co i (by kernel_rfl) (by kernel_rfl) (by have := HYl.out; have := HPp.out; omega)) hH ?_
                try simp only [pA, pB, p1, p2, p3]
                refine aT (i := 3) (oi := { dst := some 78, op := Op.load 9 (Operand.tmp 77), type := 9, pos := "law.go:91", after := #[{ on := 2, ground := Ground.data }], guard := none }) (v := .string (bs x)) (fun w' hw => exec_load 9 _ rfl ⟨gy, 0 + i * 1, none⟩ (by kernel_rfl) (.string (bs x)) (load_one (hw.1.cellAt (i := 0 + i * 1) HYi.out) U9 rfl)) hH ?_
                try simp only [pA, pB, p1, p2, p3]
                refine aT (i := 4) (oi := { dst := some 79, op := Op.move (Operand.tmp 12), type := 30, pos := "law.go:91", after := #[], guard := none }) (v := .slice ba x.length bc) (fun _ _ => by kernel_rfl) hH ?_
                try simp only [pA, pB, p1, p2, p3]
                refine aT (i := 5) (oi := { dst := some 80, op := Op.convert 30 9 (Operand.tmp 79), type := 9, pos := "law.go:91", after := #[{ on := 4, ground := Ground.data }], guard := none }) (v := .string (bs x)) (fun w' hw => exec_conv _ 30 9 rfl _ _ (by kernel_rfl) (run_convR (cap := bc) hw.2 rfl)) hH ?_
                try simp only [pA, pB, p1, p2, p3]
                refine aT (i := 6) (oi := { dst := some 81, op := Op.binOp BinOp.neq 9 (Operand.tmp 78) (Operand.tmp 80) 9, type := 4, pos := "law.go:91", after := #[{ on := 3, ground := Ground.data }, { on := 5, ground := Ground.data }], guard := none }) (v := .bool false) (fun w' hw => exec_bin .neq 9 _ _ _ rfl (.string (bs x)) (.string (bs x)) (.bool false) (by kernel_rfl) (by kernel_rfl) (by kernel_rfl) (by rw [b_neqS]; simp)) hH ?_
                try simp only [pA, pB, p1, p2, p3]
                refine wpAnyH_done (by kernel_rfl) ?_ _
                try simp only [pA, pB, p1, p2, p3]
                clear hH
                go_upto_region 18 with fail
                refine WL.start ?_
                refine tK (.int .i64 ((i : Nat) : Int)) ?_
                try simp only [pA, pB, p1, p2, p3]
                refine tW (.int .i64 ((i + 1 : Nat) : Int)) (exec_bin .add 3 _ _ _ rfl (.int .i64 ((i : Nat) : Int)) (.int .i64 1) (.int .i64 ((i + 1 : Nat) : Int)) (by kernel_rfl) (by kernel_rfl) (by kernel_rfl) (b_add1 i (by have := HI.out; omega) _)) ?_
                try simp only [pA, pB, p1, p2, p3]
                refine tK (.int .i64 ((i + 1 : Nat) : Int)) ?_
                try simp only [pA, pB, p1, p2, p3]
                refine WL.nil ?_
                try simp only [pA, pB, p1, p2, p3]
                go_wp2
                go_roundw
                case rel => exact ⟨i + 1, by go_num, HPm.out, HO, HK⟩
                case measure => have := HPm.out; simp [intOf]; omega
            · have hcm2 : ¬ ((i : Nat) : Int) < ((m : Nat) : Int) := by omega
              go_upto_region 17 with fail
              refine WL.start ?_
              refine tK (.int .i64 ((i : Nat) : Int)) ?_
              try simp only [pA, pB, p1, p2, p3]
              refine tK (.int .i64 ((m : Nat) : Int)) ?_
              try simp only [pA, pB, p1, p2, p3]
              refine tW (.bool false) (exec_bin .lss 3 _ _ _ rfl (.int .i64 ((i : Nat) : Int)) (.int .i64 ((m : Nat) : Int)) (.bool false) (by kernel_rfl) (by kernel_rfl) (by kernel_rfl) (by rw [b_lss, decide_eq_false hcm2])) ?_
              try simp only [pA, pB, p1, p2, p3]
              refine WL.nil ?_
              try simp only [pA, pB, p1, p2, p3]
              go_upto_region 24 with fail
              refine WL.start ?_
              refine wp_runW (.slice (some ⟨wr.heap.size, 0, none⟩) 1 1) (wr.alloc (.cells #[.int .u8 120] 5)) (exec_built (by kernel_rfl)) (by kernel_rfl) ?_
              try simp only [pA, pB, p1, p2, p3]
              refine wp_runW (.slice (some ⟨wr.heap.size, 0, none⟩) 1 1) (wr.alloc (.cells #[.int .u8 120] 5 (1, 2))) (exec_convW _ 30 30 rfl _ _ (by kernel_rfl) (Go.Lib.run_convert_bytes_const wr 30 5 #[.int .u8 120] 1 1 U30 U5)) (by kernel_rfl) ?_
              try simp only [pA, pB, p1, p2, p3]
              have HK : Hid (Kept No w (wr.alloc (.cells #[.int .u8 120] 5 (1, 2)))) := HK.out.alloc _
              have HXx : Hid (Nums .u8 (wr.alloc (.cells #[.int .u8 120] 5 (1, 2))) (some ⟨wr.heap.size, 0, none⟩) ([120].map bi)) := num_x _
              have HO : Hid (Own 9 1 (wr.alloc (.cells #[.int .u8 120] 5 (1, 2))) nb ao co ys.length (ys.map strV)) := HO.out.no ((Kept.refl No _).alloc _)
              generalize wr.alloc (.cells #[.int .u8 120] 5 (1, 2)) = W24 at HK HXx HO ⊢
              generalize wr.heap.size = g24 at HXx ⊢
              refine wp_callW 10 #[.slice (some ⟨g24, 0, none⟩) 1 1] (by kernel_rfl) _ (quote_any (some ⟨g24, 0, none⟩) [120] 1 W24 (by decide) HXx.out) (by kernel_rfl) ?_
              rintro e w_9 ⟨rfl, hk⟩
              have HK : Hid (Kept No w w_9) := HK.out.then hk
              clear hk
              refine ⟨.string (bs (quoteL [120])), rfl, ?_⟩
              try simp only [pA, pB, p1, p2, p3]
              refine tW (.bool true) (exec_bin .eql 9 _ _ _ rfl (.string (bs (quoteL [120]))) (.string ⟨#[34, 120, 34]⟩) (.bool true) (by kernel_rfl) (by kernel_rfl) (by kernel_rfl) ((b_eqlS (quoteL [120]) [34, 120, 34] _).trans (by rw [quote_x]; rfl))) ?_
              try simp only [pA, pB, p1, p2, p3]
              refine tK (.bool true) ?_
              try simp only [pA, pB, p1, p2, p3]
              refine WL.nil ?_
              try simp only [pA, pB, p1, p2, p3]
              go_wp2
              rw [HC.out]
              exact ⟨rfl, HK.out⟩
    · have hcm : ¬ ((m : Nat) : Int) < ((xs.length : Nat) : Int) := by omega
      have HMi : Hid (m ≤ 100000000000) := show m ≤ 100000000000 by have h1 := HMl.out; have h2 := HLn.out; omega
      have HMm : Hid (m ≤ xs.length) := HMx
      obtain ⟨ys, hys⟩ : ∃ ys, ys = (xs.take m).map (fun x => x.take 4000) := ⟨_, rfl⟩
      have HYs : Hid (ys = (xs.take m).map (fun x => x.take 4000)) := hys
      have hyl : ys.length = m := by rw [hys, List.length_map, List.length_take]; have := HMx.out; omega
      have HYl : Hid (ys.length = m) := hyl
      have hym : (((ys.length : Nat) : Int) == ((m : Nat) : Int)) = true := by rw [hyl]; simp
      clear hys hyl
      by_cases hcb : 1000 < cm.length
      · skip
        have hbi : (1000 : Int) < ((cm.length : Nat) : Int) := by omega
        have HCl : Hid ((cm.take 1000).length ≤ 1000) := by show _ ≤ _; rw [List.length_take]; omega
        have HBl : Hid (ln.length ≤ 40000 ∧ (cm.take 1000).length ≤ 1000) := ⟨HLn.out, HCl.out⟩
        have HZ : Hid (wordsOf (ln ++ [9, 35] ++ (cm.take 1000)) = some ys) := by show _ = _; rw [HYs.out, HLn0.out]; exact words_line _ _
        go_upto_region 4 with fail
        refine WL.start ?_
        refine tK (.int .i64 ((m : Nat) : Int)) ?_
        try simp only [pA, pB, p1, p2, p3]
        refine tK (.slice a xs.length cap) ?_
        try simp only [pA, pB, p1, p2, p3]
        refine tK (.int .i64 ((xs.length : Nat) : Int)) ?_
        try simp only [pA, pB, p1, p2, p3]
        refine tW (.bool false) (exec_bin .lss 3 _ _ _ rfl (.int .i64 ((m : Nat) : Int)) (.int .i64 ((xs.length : Nat) : Int)) (.bool false) (by kernel_rfl) (by kernel_rfl) (by kernel_rfl) (by rw [b_lss, decide_eq_false hcm])) ?_
        try simp only [pA, pB, p1, p2, p3]
        refine tK (.bool false) ?_
        try simp only [pA, pB, p1, p2, p3]
        refine sK ?_
        try simp only [pA, pB, p1, p2, p3]
        refine sK ?_
        try simp only [pA, pB, p1, p2, p3]
        refine sK ?_
        try simp only [pA, pB, p1, p2, p3]
        refine tK (.bool false) ?_
        try simp only [pA, pB, p1, p2, p3]
        refine WL.nil ?_
        try simp only [pA, pB, p1, p2, p3]
        go_upto_region 11 with fail
        refine WL.start ?_
        refine tK (.string (bs cm)) ?_
        try simp only [pA, pB, p1, p2, p3]
        refine tK (.int .i64 ((cm.length : Nat) : Int)) ?_
        try simp only [pA, pB, p1, p2, p3]
        refine tW (.bool true) (exec_bin .gtr 3 _ _ _ rfl (.int .i64 ((cm.length : Nat) : Int)) (.int .i64 1000) (.bool true) (by kernel_rfl) (by kernel_rfl) (by kernel_rfl) (by rw [b_gtr3, decide_eq_true hbi])) ?_
        try simp only [pA, pB, p1, p2, p3]
        refine WL.nil ?_
        try simp only [pA, pB, p1, p2, p3]
        go_upto_region 12 with fail
        refine WL.start ?_
        refine tK (.string (bs cm)) ?_
        try simp only [pA, pB, p1, p2, p3]
        refine tW (.string (bs (cm.take 1000))) (exec_slS _ _ rfl cm 1000 (by kernel_rfl) (by kernel_rfl) (by omega)) ?_
        try simp only [pA, pB, p1, p2, p3]
        refine tK (.string (bs (cm.take 1000))) ?_
        try simp only [pA, pB, p1, p2, p3]
        refine WL.nil ?_
        try simp only [pA, pB, p1, p2, p3]
        go_upto_region 13 with fail
        refine WL.start ?_
        refine tK (.string (bs ln)) ?_
        try simp only [pA, pB, p1, p2, p3]
        refine tW (.string (bs (ln ++ [9, 35]))) (exec_bin .add 9 _ _ _ rfl (.string (bs ln)) (.string ⟨#[9, 35]⟩) (.string (bs (ln ++ [9, 35]))) (by kernel_rfl) (by kernel_rfl) (by kernel_rfl) (b_addS ln ([9, 35]) (by have h1 := HBl.out; first | (simp; omega) | (have h2 := quoteL_len []; simp; omega)) _)) ?_
        try simp only [pA, pB, p1, p2, p3]
        refine tK (.string (bs (cm.take 1000))) ?_
        try simp only [pA, pB, p1, p2, p3]
        refine tW (.string (bs ((ln ++ [9, 35]) ++ (cm.take 1000)))) (exec_bin .add 9 _ _ _ rfl (.string (bs (ln ++ [9, 35]))) (.string (bs (cm.take 1000))) (.string (bs ((ln ++ [9, 35]) ++ (cm.take 1000)))) (by kernel_rfl) (by kernel_rfl) (by kernel_rfl) (b_addS (ln ++ [9, 35]) (cm.take 1000) (by have h1 := HBl.out; first | (simp; omega) | (have h2 := quoteL_len []; simp; omega)) _)) ?_
        try simp only [pA, pB, p1, p2, p3]
        refine wp_callW 7 #[.string (bs ((ln ++ [9, 35]) ++ (cm.take 1000)))] (by kernel_rfl) _ (words_any ((ln ++ [9, 35]) ++ (cm.take 1000)) (by have h1 := HLn.out; have h2 := HCl.out; simp; omega) wr) (by kernel_rfl) ?_
        rintro e w_10 ⟨hws, hk⟩
        rw [HZ.out] at hws
        obtain ⟨ao, co, rfl, ho⟩ := hws.ss
        clear hws
        have HK : Hid (Kept No w w_10) := HK.out.then hk
        have HO : Hid (Own 9 1 w_10 wr.heap.size ao co ys.length (ys.map strV)) := ho
        obtain ⟨nb, hnb⟩ : ∃ n, n = wr.heap.size := ⟨_, rfl⟩
        rw [← hnb] at HO
        clear hk ho hnb
        refine ⟨.tuple #[.slice ao ys.length co, .int .i64 0], rfl, ?_⟩
        try simp only [pA, pB, p1, p2, p3]
        refine tK (.tuple #[.slice ao ys.length co, .int .i64 0]) ?_
        try simp only [pA, pB, p1, p2, p3]
        refine tK (.slice ao ys.length co) ?_
        try simp only [pA, pB, p1, p2, p3]
        refine tK (.int .i64 0) ?_
        try simp only [pA, pB, p1, p2, p3]
        refine tK (.slice ao ys.length co) ?_
        try simp only [pA, pB, p1, p2, p3]
        refine tK (.int .i64 0) ?_
        try simp only [pA, pB, p1, p2, p3]
        refine WL.nil ?_
        try simp only [pA, pB, p1, p2, p3]
        go_upto_region 14 with fail
        refine WL.start ?_
        refine tK (.int .i64 0) ?_
        try simp only [pA, pB, p1, p2, p3]
        refine tK (.bool false) ?_
        try simp only [pA, pB, p1, p2, p3]
        refine tK (.bool false) ?_
        try simp only [pA, pB, p1, p2, p3]
        refine tK (.slice ao ys.length co) ?_
        try simp only [pA, pB, p1, p2, p3]
        refine tK (.int .i64 ((ys.length : Nat) : Int)) ?_
        try simp only [pA, pB, p1, p2, p3]
        refine tK (.int .i64 ((m : Nat) : Int)) ?_
        try simp only [pA, pB, p1, p2, p3]
        refine tW (.bool false) (exec_bin .neq 3 _ _ _ rfl (.int .i64 ((ys.length : Nat) : Int)) (.int .i64 ((m : Nat) : Int)) (.bool false) (by kernel_rfl) (by kernel_rfl) (by kernel_rfl) (by rw [b_neq3, hym]; rfl)) ?_
        try simp only [pA, pB, p1, p2, p3]
        refine tK (.bool false) ?_
        try simp only [pA, pB, p1, p2, p3]
        refine WL.nil ?_
        try simp only [pA, pB, p1, p2, p3]
        go_upto_region 16 with fail
        refine WL.start ?_
        refine tK (.int .i64 0) ?_
        try simp only [pA, pB, p1, p2, p3]
        refine WL.nil ?_
        try simp only [pA, pB, p1, p2, p3]
        clear hym
        go_wp2
        go_loopw [11] (fun v11 wr => ∃ i : Nat, v11 = .int .i64 ((i : Nat) : Int) ∧ Hid (i ≤ m) ∧ Hid (Own 9 1 wr nb ao co ys.length (ys.map strV)) ∧ Hid (Kept No w wr)) (fun v11 _ => m - (intOf v11).toNat)
        case atStart => exact ⟨0, by go_num, Nat.zero_le _, HO, HK⟩
        case round =>
          clear HO HK
          obtain ⟨i, rfl, HIm, HO, HK⟩ := hrel
          by_cases hp2 : i < m
          · have hcm2 : ((i : Nat) : Int) < ((m : Nat) : Int) := by omega
            obtain ⟨gy, rfl⟩ := HO.out.some_of (by have := HYl.out; omega)
            obtain ⟨x, hx⟩ : ∃ x, xs[i]? = some x := ⟨_, List.getElem?_eq_getElem (by have := HMm.out; omega)⟩
            have HX0 : Hid (xs[i]? = some x) := hx
            have HYi0 : Hid (ys[i]? = some (x.take 4000)) := by show _ = _; rw [HYs.out, List.getElem?_map, List.getElem?_take, if_pos hp2, hx]; rfl
            obtain ⟨gw, ow, ba, bc, ha, hcl, hle, hnm⟩ := (HB.out.no HK.out) i x hx
            subst ha
            have HCell : Hid (wr.cell? ⟨gw, ow + i * 1, none⟩ = some (.slice ba x.length bc)) := hcl
            have HLe : Hid (x.length ≤ bc) := hle
            have HNx : Hid (Nums .u8 wr ba (x.map bi)) := hnm
            have HPm : Hid (i < m) := hp2
            have HPp : Hid (i < m ∧ i < xs.length) := ⟨hp2, by have := HMm.out; omega⟩
            have HI : Hid (i ≤ 100000000000000) := show i ≤ 100000000000000 by have := HMi.out; omega
            clear hx hcl hle hnm hp2
            by_cases hbig : 4000 < x.length
            · skip
              have hbi2 : (4000 : Int) < ((x.length : Nat) : Int) := by omega
              obtain ⟨y, hy⟩ : ∃ y, y = x.take 4000 := ⟨_, rfl⟩
              have hyl : y.length = 4000 := by rw [hy, List.length_take]; omega
              have HLk : Hid (y.length = 4000) := hyl
              have HBb : Hid (Nums .u8 wr ba (y.map bi)) := by rw [hy]; exact HNx.out.take _
              have HYi : Hid ((ys.map strV)[0 + i * 1]? = some (strV y)) := by show _ = _; rw [Nat.zero_add, Nat.mul_one, List.getElem?_map, HYi0.out, hy]; rfl
              clear hy hyl hbig
              go_upto_region 17 with fail
              refine WL.start ?_
              refine tK (.int .i64 ((i : Nat) : Int)) ?_
              try simp only [pA, pB, p1, p2, p3]
              refine tK (.int .i64 ((m : Nat) : Int)) ?_
              try simp only [pA, pB, p1, p2, p3]
              refine tW (.bool true) (exec_bin .lss 3 _ _ _ rfl (.int .i64 ((i : Nat) : Int)) (.int .i64 ((m : Nat) : Int)) (.bool true) (by kernel_rfl) (by kernel_rfl) (by kernel_rfl) (by rw [b_lss, decide_eq_true hcm2])) ?_
              try simp only [pA, pB, p1, p2, p3]
              refine WL.nil ?_
              try simp only [pA, pB, p1, p2, p3]
              go_upto_region 19 with fail
              refine WL.start ?_
              refine tK (.slice (some ⟨gw, ow, none⟩) xs.length cap) ?_
              try simp only [pA, pB, p1, p2, p3]
              refine tK (.int .i64 ((i : Nat) : Int)) ?_
              try simp only [pA, pB, p1, p2, p3]
              refine tW (.pointer (some ⟨gw, ow + i * 1, none⟩)) (exec_ixA 33 1 E33 F33 _ _ rfl gw ow xs.length cap i (by kernel_rfl) (by kernel_rfl) (by have := HPp.out; omega)) ?_
              try simp only [pA, pB, p1, p2, p3]
              refine tW (.slice ba x.length bc) (exec_load 30 _ rfl ⟨gw, ow + i * 1, none⟩ (by kernel_rfl) (.slice ba x.length bc) (load_one HCell.out U30 rfl)) ?_
              try simp only [pA, pB, p1, p2, p3]
              refine tK (.slice ba x.length bc) ?_
              try simp only [pA, pB, p1, p2, p3]
              refine WL.nil ?_
              try simp only [pA, pB, p1, p2, p3]
              go_upto_region 20 with fail
              refine WL.start ?_
              refine tK (.slice ba x.length bc) ?_
              try simp only [pA, pB, p1, p2, p3]
              refine tK (.int .i64 ((x.length : Nat) : Int)) ?_
              try simp only [pA, pB, p1, p2, p3]
              refine tW (.bool true) (exec_bin .gtr 3 _ _ _ rfl (.int .i64 ((x.length : Nat) : Int)) (.int .i64 4000) (.bool true) (by kernel_rfl) (by kernel_rfl) (by kernel_rfl) (by rw [b_gtr3, decide_eq_true hbi2])) ?_
              try simp only [pA, pB, p1, p2, p3]
              refine WL.nil ?_
              try simp only [pA, pB, p1, p2, p3]
              go_upto_region 21 with fail
              refine WL.start ?_
              refine tK (.slice ba x.length bc) ?_
              try simp only [pA, pB, p1, p2, p3]
              refine tW (.slice ba y.length bc) ((by rw [HLk.out]; exact exec_slT 30 5 E30 F30 _ _ rfl ba x.length bc 4000 (by kernel_rfl) (by kernel_rfl) (by have := HLe.out; omega))) ?_
              try simp only [pA, pB, p1, p2, p3]
              refine tK (.slice ba y.length bc) ?_
              try simp only [pA, pB, p1, p2, p3]
              refine WL.nil ?_
              try simp only [pA, pB, p1, p2, p3]
              go_upto_region 22 with fail
              have HO : Hid (Own 9 1 wr.drew nb (some ⟨gy, 0, none⟩) co ys.length (ys.map strV)) := HO.out.no (Kept.refl No _).drew
              have HK : Hid (Kept No w wr.drew) := HK.out.drew
              have HBb : Hid (Nums .u8 wr.drew ba (y.map bi)) := HBb.out.no (Kept.refl No _).drew
              refine wp_region_held_drew (S := fun w' => Own 9 1 w' nb (some ⟨gy, 0, none⟩) co ys.length (ys.map strV) ∧ Nums .u8 w' ba (y.map bi)) rfl ⟨HO.out, HBb.out⟩ (fun hH => ?_)
              generalize wr.drew = wk12 at HO HK HBb hH ⊢
              refine aT (i := 0) (oi := { dst := some 75, op := Op.move (Operand.tmp 9), type := 22, pos := "law.go:91", after := #[], guard := none }) (v := .slice (some ⟨gy, 0, none⟩) ys.length co) (fun _ _ => by kernel_rfl) hH ?_
              try simp only [pA, pB, p1, p2, p3]
              refine aT (i := 1) (oi := { dst := some 76, op := Op.move (Operand.tmp 11), type := 3, pos := "law.go:91", after := #[], guard := none }) (v := .int .i64 ((i : Nat) : Int)) (fun _ _ => by kernel_rfl) hH ?_
              try simp only [pA, pB, p1, p2, p3]
              refine aT (i := 2) (oi := { dst := some 77, op := Op.indexAddr 22 (Operand.tmp 75) (Operand.tmp 76), type := 0, pos := "law.go:91", after := #[{ on := 0, ground := Ground.data }, { on := 1, ground := Ground.data }], guard := none }) (v := .pointer (some ⟨gy, 0 + i * 1, none⟩)) (fun w' hw => exec_ixA 22 1 E22 F22 _ _ rfl gy 0 ys.length co i (by kernel_rfl) (by kernel_rfl) (by have := HYl.out; have := HPp.out; omega)) hH ?_
              try simp only [pA, pB, p1, p2, p3]
              refine aT (i := 3) (oi := { dst := some 78, op := Op.load 9 (Operand.tmp 77), type := 9, pos := "law.go:91", after := #[{ on := 2, ground := Ground.data }], guard := none }) (v := .string (bs y)) (fun w' hw => exec_load 9 _ rfl ⟨gy, 0 + i * 1, none⟩ (by kernel_rfl) (.string (bs y)) (load_one (hw.1.cellAt (i := 0 + i * 1) HYi.out) U9 rfl)) hH ?_
              try simp only [pA, pB, p1, p2, p3]
              refine aT (i := 4) (oi := { dst := some 79, op := Op.move (Operand.tmp 12), type := 30, pos := "law.go:91", after := #[], guard := none }) (v := .slice ba y.length bc) (fun _ _ => by kernel_rfl) hH ?_
              try simp only [pA, pB, p1, p2, p3]
              refine aT (i := 5) (oi := { dst := some 80, op := Op.convert 30 9 (Operand.tmp 79), type := 9, pos := "law.go:91", after := #[{ on := 4, ground := Ground.data }], guard := none }) (v := .string (bs y)) (fun w' hw => exec_conv _ 30 9 rfl _ _ (by kernel_rfl) (run_convR (cap := bc) hw.2 rfl)) hH ?_
              try simp only [pA, pB, p1, p2, p3]
              refine aT (i := 6) (oi := { dst := some 81, op := Op.binOp BinOp.neq 9 (Operand.tmp 78) (Operand.tmp 80) 9, type := 4, pos := "law.go:91", after := #[{ on := 3, ground := Ground.data }, { on := 5, ground := Ground.data }], guard := none }) (v := .bool false) (fun w' hw => exec_bin .neq 9 _ _ _ rfl (.string (bs y)) (.string (bs y)) (.bool false) (by kernel_rfl) (by kernel_rfl) (by kernel_rfl) (by rw [b_neqS]; simp)) hH ?_
              try simp only [pA, pB, p1, p2, p3]
              refine wpAnyH_done (by kernel_rfl) ?_ _
              try simp only [pA, pB, p1, p2, p3]
              clear hH
              go_upto_region 18 with fail
              refine WL.start ?_
              refine tK (.int .i64 ((i : Nat) : Int)) ?_
              try simp only [pA, pB, p1, p2, p3]
              refine tW (.int .i64 ((i + 1 : Nat) : Int)) (exec_bin .add 3 _ _ _ rfl (.int .i64 ((i : Nat) : Int)) (.int .i64 1) (.int .i64 ((i + 1 : Nat) : Int)) (by kernel_rfl) (by kernel_rfl) (by kernel_rfl) (b_add1 i (by have := HI.out; omega) _)) ?_
              try simp only [pA, pB, p1, p2, p3]
              refine tK (.int .i64 ((i + 1 : Nat) : Int)) ?_
              try simp only [pA, pB, p1, p2, p3]
              refine WL.nil ?_
              try simp only [pA, pB, p1, p2, p3]
              go_wp2
              go_roundw
              case rel => exact ⟨i + 1, by go_num, HPm.out, HO, HK⟩
              case measure => have := HPm.out; simp [intOf]; omega
            · skip
              have hbi2 : ¬ (4000 : Int) < ((x.length : Nat) : Int) := by omega
              have HBb : Hid (Nums .u8 wr ba (x.map bi)) := HNx.out
              have HYi : Hid ((ys.map strV)[0 + i * 1]? = some (strV x)) := by show _ = _; rw [Nat.zero_add, Nat.mul_one, List.getElem?_map, HYi0.out, List.take_of_length_le (by omega)]; rfl
              clear hbig
              go_upto_region 17 with fail
              refine WL.start ?_
              refine tK (.int .i64 ((i : Nat) : Int)) ?_
              try simp only [pA, pB, p1, p2, p3]
              refine tK (.int .i64 ((m : Nat) : Int)) ?_
              try simp only [pA, pB, p1, p2, p3]
              refine tW (.bool true) (exec_bin .lss 3 _ _ _ rfl (.int .i64 ((i : Nat) : Int)) (.int .i64 ((m : Nat) : Int)) (.bool true) (by kernel_rfl) (by kernel_rfl) (by kernel_rfl) (by rw [b_lss, decide_eq_true hcm2])) ?_
              try simp only [pA, pB, p1, p2, p3]
              refine WL.nil ?_
              try simp only [pA, pB, p1, p2, p3]
              go_upto_region 19 with fail
              refine WL.start ?_
              refine tK (.slice (some ⟨gw, ow, none⟩) xs.length cap) ?_
              try simp only [pA, pB, p1, p2, p3]
              refine tK (.int .i64 ((i : Nat) : Int)) ?_
              try simp only [pA, pB, p1, p2, p3]
              refine tW (.pointer (some ⟨gw, ow + i * 1, none⟩)) (exec_ixA 33 1 E33 F33 _ _ rfl gw ow xs.length cap i (by kernel_rfl) (by kernel_rfl) (by have := HPp.out; omega)) ?_
              try simp only [pA, pB, p1, p2, p3]
              refine tW (.slice ba x.length bc) (exec_load 30 _ rfl ⟨gw, ow + i * 1, none⟩ (by kernel_rfl) (.slice ba x.length bc) (load_one HCell.out U30 rfl)) ?_
              try simp only [pA, pB, p1, p2, p3]
              refine tK (.slice ba x.length bc) ?_
              try simp only [pA, pB, p1, p2, p3]
              refine WL.nil ?_
              try simp only [pA, pB, p1, p2, p3]
              go_upto_region 20 with fail
              refine WL.start ?_
              refine tK (.slice ba x.length bc) ?_
              try simp only [pA, pB, p1, p2, p3]
              refine tK (.int .i64 ((x.length : Nat) : Int)) ?_
              try simp only [pA, pB, p1, p2, p3]
              refine tW (.bool false) (exec_bin .gtr 3 _ _ _ rfl (.int .i64 ((x.length : Nat) : Int)) (.int .i64 4000) (.bool false) (by kernel_rfl) (by kernel_rfl) (by kernel_rfl) (by rw [b_gtr3, decide_eq_false hbi2])) ?_
              try simp only [pA, pB, p1, p2, p3]
              refine WL.nil ?_
              try simp only [pA, pB, p1, p2, p3]
              go_upto_region 22 with fail
              have HO : Hid (Own 9 1 wr.drew nb (some ⟨gy, 0, none⟩) co ys.length (ys.map strV)) := HO.out.no (Kept.refl No _).drew
              have HK : Hid (Kept No w wr.drew) := HK.out.drew
              have HBb : Hid (Nums .u8 wr.drew ba (x.map bi)) := HBb.out.no (Kept.refl No _).drew
              refine wp_region_held_drew (S := fun w' => Own 9 1 w' nb (some ⟨gy, 0, none⟩) co ys.length (ys.map strV) ∧ Nums .u8 w' ba (x.map bi)) rfl ⟨HO.out, HBb.out⟩ (fun hH => ?_)
              generalize wr.drew = wk13 at HO HK HBb hH ⊢
              refine aT (i := 0) (oi := { dst := some 75, op := Op.move (Operand.tmp 9), type := 22, pos := "law.go:91", after := #[], guard := none }) (v := .slice (some ⟨gy, 0, none⟩) ys.length co) (fun _ _ => by kernel_rfl) hH ?_
              try simp only [pA, pB, p1, p2, p3]
              refine aT (i := 1) (oi := { dst := some 76, op := Op.move (Operand.tmp 11), type := 3, pos := "law.go:91", after := #[], guard := none }) (v := .int .i64 ((i : Nat) : Int)) (fun _ _ => by kernel_rfl) hH ?_
              try simp only [pA, pB, p1, p2, p3]
              refine aT (i := 2) (oi := { dst := some 77, op := Op.indexAddr 22 (Operand.tmp 75) (Operand.tmp 76), type := 0, pos := "law.go:91", after := #[{ on := 0, ground := Ground.data }, { on := 1, ground := Ground.data }], guard := none }) (v := .pointer (some ⟨gy, 0 + i * 1, none⟩)) (fun w' hw => exec_ixA 22 1 E22 F22 _ _ rfl gy 0 ys.length co i (by kernel_rfl) (by kernel_rfl) (by have := HYl.out; have := HPp.out; omega)) hH ?_
              try simp only [pA, pB, p1, p2, p3]
              refine aT (i := 3) (oi := { dst := some 78, op := Op.load 9 (Operand.tmp 77), type := 9, pos := "law.go:91", after := #[{ on := 2, ground := Ground.data }], guard := none }) (v := .string (bs x)) (fun w' hw => exec_load 9 _ rfl ⟨gy, 0 + i * 1, none⟩ (by kernel_rfl) (.string (bs x)) (load_one (hw.1.cellAt (i := 0 + i * 1) HYi.out) U9 rfl)) hH ?_
              try simp only [pA, pB, p1, p2, p3]
              refine aT (i := 4) (oi := { dst := some 79, op := Op.move (Operand.tmp 12), type := 30, pos := "law.go:91", after := #[], guard := none }) (v := .slice ba x.length bc) (fun _ _ => by kernel_rfl) hH ?_
              try simp only [pA, pB, p1, p2, p3]
              refine aT (i := 5) (oi := { dst := some 80, op := Op.convert 30 9 (Operand.tmp 79), type := 9, pos := "law.go:91", after := #[{ on := 4, ground := Ground.data }], guard := none }) (v := .string (bs x)) (fun w' hw => exec_conv _ 30 9 rfl _ _ (by kernel_rfl) (run_convR (cap := bc) hw.2 rfl)) hH ?_
              try simp only [pA, pB, p1, p2, p3]
              refine aT (i := 6) (oi := { dst := some 81, op := Op.binOp BinOp.neq 9 (Operand.tmp 78) (Operand.tmp 80) 9, type := 4, pos := "law.go:91", after := #[{ on := 3, ground := Ground.data }, { on := 5, ground := Ground.data }], guard := none }) (v := .bool false) (fun w' hw => exec_bin .neq 9 _ _ _ rfl (.string (bs x)) (.string (bs x)) (.bool false) (by kernel_rfl) (by kernel_rfl) (by kernel_rfl) (by rw [b_neqS]; simp)) hH ?_
              try simp only [pA, pB, p1, p2, p3]
              refine wpAnyH_done (by kernel_rfl) ?_ _
              try simp only [pA, pB, p1, p2, p3]
              clear hH
              go_upto_region 18 with fail
              refine WL.start ?_
              refine tK (.int .i64 ((i : Nat) : Int)) ?_
              try simp only [pA, pB, p1, p2, p3]
              refine tW (.int .i64 ((i + 1 : Nat) : Int)) (exec_bin .add 3 _ _ _ rfl (.int .i64 ((i : Nat) : Int)) (.int .i64 1) (.int .i64 ((i + 1 : Nat) : Int)) (by kernel_rfl) (by kernel_rfl) (by kernel_rfl) (b_add1 i (by have := HI.out; omega) _)) ?_
              try simp only [pA, pB, p1, p2, p3]
              refine tK (.int .i64 ((i + 1 : Nat) : Int)) ?_
              try simp only [pA, pB, p1, p2, p3]
              refine WL.nil ?_
              try simp only [pA, pB, p1, p2, p3]
              go_wp2
              go_roundw
              case rel => exact ⟨i + 1, by go_num, HPm.out, HO, HK⟩
              case measure => have := HPm.out; simp [intOf]; omega
          · have hcm2 : ¬ ((i : Nat) : Int) < ((m : Nat) : Int) := by omega
            go_upto_region 17 with fail
            refine WL.start ?_
            refine tK (.int .i64 ((i : Nat) : Int)) ?_
            try simp only [pA, pB, p1, p2, p3]
            refine tK (.int .i64 ((m : Nat) : Int)) ?_
            try simp only [pA, pB, p1, p2, p3]
            refine tW (.bool false) (exec_bin .lss 3 _ _ _ rfl (.int .i64 ((i : Nat) : Int)) (.int .i64 ((m : Nat) : Int)) (.bool false) (by kernel_rfl) (by kernel_rfl) (by kernel_rfl) (by rw [b_lss, decide_eq_false hcm2])) ?_
            try simp only [pA, pB, p1, p2, p3]
            refine WL.nil ?_
            try simp only [pA, pB, p1, p2, p3]
            go_upto_region 24 with fail
            refine WL.start ?_
            refine wp_runW (.slice (some ⟨wr.heap.size, 0, none⟩) 1 1) (wr.alloc (.cells #[.int .u8 120] 5)) (exec_built (by kernel_rfl)) (by kernel_rfl) ?_
            try simp only [pA, pB, p1, p2, p3]
            refine wp_runW (.slice (some ⟨wr.heap.size, 0, none⟩) 1 1) (wr.alloc (.cells #[.int .u8 120] 5 (1, 2))) (exec_convW _ 30 30 rfl _ _ (by kernel_rfl) (Go.Lib.run_convert_bytes_const wr 30 5 #[.int .u8 120] 1 1 U30 U5)) (by kernel_rfl) ?_
            try simp only [pA, pB, p1, p2, p3]
            have HK : Hid (Kept No w (wr.alloc (.cells #[.int .u8 120] 5 (1, 2)))) := HK.out.alloc _
            have HXx : Hid (Nums .u8 (wr.alloc (.cells #[.int .u8 120] 5 (1, 2))) (some ⟨wr.heap.size, 0, none⟩) ([120].map bi)) := num_x _
            have HO : Hid (Own 9 1 (wr.alloc (.cells #[.int .u8 120] 5 (1, 2))) nb ao co ys.length (ys.map strV)) := HO.out.no ((Kept.refl No _).alloc _)
            generalize wr.alloc (.cells #[.int .u8 120] 5 (1, 2)) = W24 at HK HXx HO ⊢
            generalize wr.heap.size = g24 at HXx ⊢
            refine wp_callW 10 #[.slice (some ⟨g24, 0, none⟩) 1 1] (by kernel_rfl) _ (quote_any (some ⟨g24, 0, none⟩) [120] 1 W24 (by decide) HXx.out) (by kernel_rfl) ?_
            rintro e w_13 ⟨rfl, hk⟩
            have HK : Hid (Kept No w w_13) := HK.out.then hk
            clear hk
            refine ⟨.string (bs (quoteL [120])), rfl, ?_⟩
            try simp only [pA, pB, p1, p2, p3]
            refine tW (.bool true) (exec_bin .eql 9 _ _ _ rfl (.string (bs (quoteL [120]))) (.string ⟨#[34, 120, 34]⟩) (.bool true) (by kernel_rfl) (by kernel_rfl) (by kernel_rfl) ((b_eqlS (quoteL [120]) [34, 120, 34] _).trans (by rw [quote_x]; rfl))) ?_
            try simp only [pA, pB, p1, p2, p3]
            refine tK (.bool true) ?_
            try simp only [pA, pB, p1, p2, p3]
            refine WL.nil ?_
            try simp only [pA, pB, p1, p2, p3]
            go_wp2
            rw [HC.out]
            exact ⟨rfl, HK.out⟩
      · skip
        have hbi : ¬ (1000 : Int) < ((cm.length : Nat) : Int) := by omega
        have HCl : Hid (cm.length ≤ 1000) := by show _ ≤ _; omega
        have HBl : Hid (ln.length ≤ 40000 ∧ cm.length ≤ 1000) := ⟨HLn.out, HCl.out⟩
        have HZ : Hid (wordsOf (ln ++ [9, 35] ++ cm) = some ys) := by show _ = _; rw [HYs.out, HLn0.out]; exact words_line _ _
        go_upto_region 4 with fail
        refine WL.start ?_
        refine tK (.int .i64 ((m : Nat) : Int)) ?_
        try simp only [pA, pB, p1, p2, p3]
        refine tK (.slice a xs.length cap) ?_
        try simp only [pA, pB, p1, p2, p3]
        refine tK (.int .i64 ((xs.length : Nat) : Int)) ?_
        try simp only [pA, pB, p1, p2, p3]
        refine tW (.bool false) (exec_bin .lss 3 _ _ _ rfl (.int .i64 ((m : Nat) : Int)) (.int .i64 ((xs.length : Nat) : Int)) (.bool false) (by kernel_rfl) (by kernel_rfl) (by kernel_rfl) (by rw [b_lss, decide_eq_false hcm])) ?_
        try simp only [pA, pB, p1, p2, p3]
        refine tK (.bool false) ?_
        try simp only [pA, pB, p1, p2, p3]
        refine sK ?_
        try simp only [pA, pB, p1, p2, p3]
        refine sK ?_
        try simp only [pA, pB, p1, p2, p3]
        refine sK ?_
        try simp only [pA, pB, p1, p2, p3]
        refine tK (.bool false) ?_
        try simp only [pA, pB, p1, p2, p3]
        refine WL.nil ?_
        try simp only [pA, pB, p1, p2, p3]
        go_upto_region 11 with fail
        refine WL.start ?_
        refine tK (.string (bs cm)) ?_
        try simp only [pA, pB, p1, p2, p3]
        refine tK (.int .i64 ((cm.length : Nat) : Int)) ?_
        try simp only [pA, pB, p1, p2, p3]
        refine tW (.bool false) (exec_bin .gtr 3 _ _ _ rfl (.int .i64 ((cm.length : Nat) : Int)) (.int .i64 1000) (.bool false) (by kernel_rfl) (by kernel_rfl) (by kernel_rfl) (by rw [b_gtr3, decide_eq_false hbi])) ?_
        try simp only [pA, pB, p1, p2, p3]
        refine WL.nil ?_
        try simp only [pA, pB, p1, p2, p3]
        go_upto_region 13 with fail
        refine WL.start ?_
        refine tK (.string (bs ln)) ?_
        try simp only [pA, pB, p1, p2, p3]
        refine tW (.string (bs (ln ++ [9, 35]))) (exec_bin .add 9 _ _ _ rfl (.string (bs ln)) (.string ⟨#[9, 35]⟩) (.string (bs (ln ++ [9, 35]))) (by kernel_rfl) (by kernel_rfl) (by kernel_rfl) (b_addS ln ([9, 35]) (by have h1 := HBl.out; first | (simp; omega) | (have h2 := quoteL_len []; simp; omega)) _)) ?_
        try simp only [pA, pB, p1, p2, p3]
        refine tK (.string (bs cm)) ?_
        try simp only [pA, pB, p1, p2, p3]
        refine tW (.string (bs ((ln ++ [9, 35]) ++ cm))) (exec_bin .add 9 _ _ _ rfl (.string (bs (ln ++ [9, 35]))) (.string (bs cm)) (.string (bs ((ln ++ [9, 35]) ++ cm))) (by kernel_rfl) (by kernel_rfl) (by kernel_rfl) (b_addS (ln ++ [9, 35]) cm (by have h1 := HBl.out; first | (simp; omega) | (have h2 := quoteL_len []; simp; omega)) _)) ?_
        try simp only [pA, pB, p1, p2, p3]
        refine wp_callW 7 #[.string (bs ((ln ++ [9, 35]) ++ cm))] (by kernel_rfl) _ (words_any ((ln ++ [9, 35]) ++ cm) (by have h1 := HLn.out; have h2 := HCl.out; simp; omega) wr) (by kernel_rfl) ?_
        rintro e w_14 ⟨hws, hk⟩
        rw [HZ.out] at hws
        obtain ⟨ao, co, rfl, ho⟩ := hws.ss
        clear hws
        have HK : Hid (Kept No w w_14) := HK.out.then hk
        have HO : Hid (Own 9 1 w_14 wr.heap.size ao co ys.length (ys.map strV)) := ho
        obtain ⟨nb, hnb⟩ : ∃ n, n = wr.heap.size := ⟨_, rfl⟩
        rw [← hnb] at HO
        clear hk ho hnb
        refine ⟨.tuple #[.slice ao ys.length co, .int .i64 0], rfl, ?_⟩
        try simp only [pA, pB, p1, p2, p3]
        refine tK (.tuple #[.slice ao ys.length co, .int .i64 0]) ?_
        try simp only [pA, pB, p1, p2, p3]
        refine tK (.slice ao ys.length co) ?_
        try simp only [pA, pB, p1, p2, p3]
        refine tK (.int .i64 0) ?_
        try simp only [pA, pB, p1, p2, p3]
        refine tK (.slice ao ys.length co) ?_
        try simp only [pA, pB, p1, p2, p3]
        refine tK (.int .i64 0) ?_
        try simp only [pA, pB, p1, p2, p3]
        refine WL.nil ?_
        try simp only [pA, pB, p1, p2, p3]
        go_upto_region 14 with fail
        refine WL.start ?_
        refine tK (.int .i64 0) ?_
        try simp only [pA, pB, p1, p2, p3]
        refine tK (.bool false) ?_
        try simp only [pA, pB, p1, p2, p3]
        refine tK (.bool false) ?_
        try simp only [pA, pB, p1, p2, p3]
        refine tK (.slice ao ys.length co) ?_
        try simp only [pA, pB, p1, p2, p3]
        refine tK (.int .i64 ((ys.length : Nat) : Int)) ?_
        try simp only [pA, pB, p1, p2, p3]
        refine tK (.int .i64 ((m : Nat) : Int)) ?_
        try simp only [pA, pB, p1, p2, p3]
        refine tW (.bool false) (exec_bin .neq 3 _ _ _ rfl (.int .i64 ((ys.length : Nat) : Int)) (.int .i64 ((m : Nat) : Int)) (.bool false) (by kernel_rfl) (by kernel_rfl) (by kernel_rfl) (by rw [b_neq3, hym]; rfl)) ?_
        try simp only [pA, pB, p1, p2, p3]
        refine tK (.bool false) ?_
        try simp only [pA, pB, p1, p2, p3]
        refine WL.nil ?_
        try simp only [pA, pB, p1, p2, p3]
        go_upto_region 16 with fail
        refine WL.start ?_
        refine tK (.int .i64 0) ?_
        try simp only [pA, pB, p1, p2, p3]
        refine WL.nil ?_
        try simp only [pA, pB, p1, p2, p3]
        clear hym
        go_wp2
        go_loopw [11] (fun v11 wr => ∃ i : Nat, v11 = .int .i64 ((i : Nat) : Int) ∧ Hid (i ≤ m) ∧ Hid (Own 9 1 wr nb ao co ys.length (ys.map strV)) ∧ Hid (Kept No w wr)) (fun v11 _ => m - (intOf v11).toNat)
        case atStart => exact ⟨0, by go_num, Nat.zero_le _, HO, HK⟩
        case round =>
          clear HO HK
          obtain ⟨i, rfl, HIm, HO, HK⟩ := hrel
          by_cases hp2 : i < m
          · have hcm2 : ((i : Nat) : Int) < ((m : Nat) : Int) := by omega
            obtain ⟨gy, rfl⟩ := HO.out.some_of (by have := HYl.out; omega)
            obtain ⟨x, hx⟩ : ∃ x, xs[i]? = some x := ⟨_, List.getElem?_eq_getElem (by have := HMm.out; omega)⟩
            have HX0 : Hid (xs[i]? = some x) := hx
            have HYi0 : Hid (ys[i]? = some (x.take 4000)) := by show _ = _; rw [HYs.out, List.getElem?_map, List.getElem?_take, if_pos hp2, hx]; rfl
            obtain ⟨gw, ow, ba, bc, ha, hcl, hle, hnm⟩ := (HB.out.no HK.out) i x hx
            subst ha
            have HCell : Hid (wr.cell? ⟨gw, ow + i * 1, none⟩ = some (.slice ba x.length bc)) := hcl
            have HLe : Hid (x.length ≤ bc) := hle
            have HNx : Hid (Nums .u8 wr ba (x.map bi)) := hnm
            have HPm : Hid (i < m) := hp2
            have HPp : Hid (i < m ∧ i < xs.length) := ⟨hp2, by have := HMm.out; omega⟩
            have HI : Hid (i ≤ 100000000000000) := show i ≤ 100000000000000 by have := HMi.out; omega
            clear hx hcl hle hnm hp2
            by_cases hbig : 4000 < x.length
            · skip
              have hbi2 : (4000 : Int) < ((x.length : Nat) : Int) := by omega
              obtain ⟨y, hy⟩ : ∃ y, y = x.take 4000 := ⟨_, rfl⟩
              have hyl : y.length = 4000 := by rw [hy, List.length_take]; omega
              have HLk : Hid (y.length = 4000) := hyl
              have HBb : Hid (Nums .u8 wr ba (y.map bi)) := by rw [hy]; exact HNx.out.take _
              have HYi : Hid ((ys.map strV)[0 + i * 1]? = some (strV y)) := by show _ = _; rw [Nat.zero_add, Nat.mul_one, List.getElem?_map, HYi0.out, hy]; rfl
              clear hy hyl hbig
              go_upto_region 17 with fail
              refine WL.start ?_
              refine tK (.int .i64 ((i : Nat) : Int)) ?_
              try simp only [pA, pB, p1, p2, p3]
              refine tK (.int .i64 ((m : Nat) : Int)) ?_
              try simp only [pA, pB, p1, p2, p3]
              refine tW (.bool true) (exec_bin .lss 3 _ _ _ rfl (.int .i64 ((i : Nat) : Int)) (.int .i64 ((m : Nat) : Int)) (.bool true) (by kernel_rfl) (by kernel_rfl) (by kernel_rfl) (by rw [b_lss, decide_eq_true hcm2])) ?_
              try simp only [pA, pB, p1, p2, p3]
              refine WL.nil ?_
              try simp only [pA, pB, p1, p2, p3]
              go_upto_region 19 with fail
              refine WL.start ?_
              refine tK (.slice (some ⟨gw, ow, none⟩) xs.length cap) ?_
              try simp only [pA, pB, p1, p2, p3]
              refine tK (.int .i64 ((i : Nat) : Int)) ?_
              try simp only [pA, pB, p1, p2, p3]
              refine tW (.pointer (some ⟨gw, ow + i * 1, none⟩)) (exec_ixA 33 1 E33 F33 _ _ rfl gw ow xs.length cap i (by kernel_rfl) (by kernel_rfl) (by have := HPp.out; omega)) ?_
              try simp only [pA, pB, p1, p2, p3]
              refine tW (.slice ba x.length bc) (exec_load 30 _ rfl ⟨gw, ow + i * 1, none⟩ (by kernel_rfl) (.slice ba x.length bc) (load_one HCell.out U30 rfl)) ?_
              try simp only [pA, pB, p1, p2, p3]
              refine tK (.slice ba x.length bc) ?_
              try simp only [pA, pB, p1, p2, p3]
              refine WL.nil ?_
              try simp only [pA, pB, p1, p2, p3]
              go_upto_region 20 with fail
              refine WL.start ?_
              refine tK (.slice ba x.length bc) ?_
              try simp only [pA, pB, p1, p2, p3]
              refine tK (.int .i64 ((x.length : Nat) : Int)) ?_
              try simp only [pA, pB, p1, p2, p3]
              refine tW (.bool true) (exec_bin .gtr 3 _ _ _ rfl (.int .i64 ((x.length : Nat) : Int)) (.int .i64 4000) (.bool true) (by kernel_rfl) (by kernel_rfl) (by kernel_rfl) (by rw [b_gtr3, decide_eq_true hbi2])) ?_
              try simp only [pA, pB, p1, p2, p3]
              refine WL.nil ?_
              try simp only [pA, pB, p1, p2, p3]
              go_upto_region 21 with fail
              refine WL.start ?_
              refine tK (.slice ba x.length bc) ?_
              try simp only [pA, pB, p1, p2, p3]
              refine tW (.slice ba y.length bc) ((by rw [HLk.out]; exact exec_slT 30 5 E30 F30 _ _ rfl ba x.length bc 4000 (by kernel_rfl) (by kernel_rfl) (by have := HLe.out; omega))) ?_
              try simp only [pA, pB, p1, p2, p3]
              refine tK (.slice ba y.length bc) ?_
              try simp only [pA, pB, p1, p2, p3]
              refine WL.nil ?_
              try simp only [pA, pB, p1, p2, p3]
              go_upto_region 22 with fail
              have HO : Hid (Own 9 1 wr.drew nb (some ⟨gy, 0, none⟩) co ys.length (ys.map strV)) := HO.out.no (Kept.refl No _).drew
              have HK : Hid (Kept No w wr.drew) := HK.out.drew
              have HBb : Hid (Nums .u8 wr.drew ba (y.map bi)) := HBb.out.no (Kept.refl No _).drew
              refine wp_region_held_drew (S := fun w' => Own 9 1 w' nb (some ⟨gy, 0, none⟩) co ys.length (ys.map strV) ∧ Nums .u8 w' ba (y.map bi)) rfl ⟨HO.out, HBb.out⟩ (fun hH => ?_)
              generalize wr.drew = wk16 at HO HK HBb hH ⊢
              refine aT (i := 0) (oi := { dst := some 75, op := Op.move (Operand.tmp 9), type := 22, pos := "law.go:91", after := #[], guard := none }) (v := .slice (some ⟨gy, 0, none⟩) ys.length co) (fun _ _ => by kernel_rfl) hH ?_
              try simp only [pA, pB, p1, p2, p3]
              refine aT (i := 1) (oi := { dst := some 76, op := Op.move (Operand.tmp 11), type := 3, pos := "law.go:91", after := #[], guard := none }) (v := .int .i64 ((i : Nat) : Int)) (fun _ _ => by kernel_rfl) hH ?_
              try simp only [pA, pB, p1, p2, p3]
              refine aT (i := 2) (oi := { dst := some 77, op := Op.indexAddr 22 (Operand.tmp 75) (Operand.tmp 76), type := 0, pos := "law.go:91", after := #[{ on := 0, ground := Ground.data }, { on := 1, ground := Ground.data }], guard := none }) (v := .pointer (some ⟨gy, 0 + i * 1, none⟩)) (fun w' hw => exec_ixA 22 1 E22 F22 _ _ rfl gy 0 ys.length co i (by kernel_rfl) (by kernel_rfl) (by have := HYl.out; have := HPp.out; omega)) hH ?_
              try simp only [pA, pB, p1, p2, p3]
              refine aT (i := 3) (oi := { dst := some 78, op := Op.load 9 (Operand.tmp 77), type := 9, pos := "law.go:91", after := #[{ on := 2, ground := Ground.data }], guard := none }) (v := .string (bs y)) (fun w' hw => exec_load 9 _ rfl ⟨gy, 0 + i * 1, none⟩ (by kernel_rfl) (.string (bs y)) (load_one (hw.1.cellAt (i := 0 + i * 1) HYi.out) U9 rfl)) hH ?_
              try simp only [pA, pB, p1, p2, p3]
              refine aT (i := 4) (oi := { dst := some 79, op := Op.move (Operand.tmp 12), type := 30, pos := "law.go:91", after := #[], guard := none }) (v := .slice ba y.length bc) (fun _ _ => by kernel_rfl) hH ?_
              try simp only [pA, pB, p1, p2, p3]
              refine aT (i := 5) (oi := { dst := some 80, op := Op.convert 30 9 (Operand.tmp 79), type := 9, pos := "law.go:91", after := #[{ on := 4, ground := Ground.data }], guard := none }) (v := .string (bs y)) (fun w' hw => exec_conv _ 30 9 rfl _ _ (by kernel_rfl) (run_convR (cap := bc) hw.2 rfl)) hH ?_
              try simp only [pA, pB, p1, p2, p3]
              refine aT (i := 6) (oi := { dst := some 81, op := Op.binOp BinOp.neq 9 (Operand.tmp 78) (Operand.tmp 80) 9, type := 4, pos := "law.go:91", after := #[{ on := 3, ground := Ground.data }, { on := 5, ground := Ground.data }], guard := none }) (v := .bool false) (fun w' hw => exec_bin .neq 9 _ _ _ rfl (.string (bs y)) (.string (bs y)) (.bool false) (by kernel_rfl) (by kernel_rfl) (by kernel_rfl) (by rw [b_neqS]; simp)) hH ?_
              try simp only [pA, pB, p1, p2, p3]
              refine wpAnyH_done (by kernel_rfl) ?_ _
              try simp only [pA, pB, p1, p2, p3]
              clear hH
              go_upto_region 18 with fail
              refine WL.start ?_
              refine tK (.int .i64 ((i : Nat) : Int)) ?_
              try simp only [pA, pB, p1, p2, p3]
              refine tW (.int .i64 ((i + 1 : Nat) : Int)) (exec_bin .add 3 _ _ _ rfl (.int .i64 ((i : Nat) : Int)) (.int .i64 1) (.int .i64 ((i + 1 : Nat) : Int)) (by kernel_rfl) (by kernel_rfl) (by kernel_rfl) (b_add1 i (by have := HI.out; omega) _)) ?_
              try simp only [pA, pB, p1, p2, p3]
              refine tK (.int .i64 ((i + 1 : Nat) : Int)) ?_
              try simp only [pA, pB, p1, p2, p3]
              refine WL.nil ?_
              try simp only [pA, pB, p1, p2, p3]
              go_wp2
              go_roundw
              case rel => exact ⟨i + 1, by go_num, HPm.out, HO, HK⟩
              case measure => have := HPm.out; simp [intOf]; omega
            · skip
              have hbi2 : ¬ (4000 : Int) < ((x.length : Nat) : Int) := by omega
              have HBb : Hid (Nums .u8 wr ba (x.map bi)) := HNx.out
              have HYi : Hid ((ys.map strV)[0 + i * 1]? = some (strV x)) := by show _ = _; rw [Nat.zero_add, Nat.mul_one, List.getElem?_map, HYi0.out, List.take_of_length_le (by omega)]; rfl
              clear hbig
              go_upto_region 17 with fail
              refine WL.start ?_
              refine tK (.int .i64 ((i : Nat) : Int)) ?_
              try simp only [pA, pB, p1, p2, p3]
              refine tK (.int .i64 ((m : Nat) : Int)) ?_
              try simp only [pA, pB, p1, p2, p3]
              refine tW (.bool true) (exec_bin .lss 3 _ _ _ rfl (.int .i64 ((i : Nat) : Int)) (.int .i64 ((m : Nat) : Int)) (.bool true) (by kernel_rfl) (by kernel_rfl) (by kernel_rfl) (by rw [b_lss, decide_eq_true hcm2])) ?_
              try simp only [pA, pB, p1, p2, p3]
              refine WL.nil ?_
              try simp only [pA, pB, p1, p2, p3]
              go_upto_region 19 with fail
              refine WL.start ?_
              refine tK (.slice (some ⟨gw, ow, none⟩) xs.length cap) ?_
              try simp only [pA, pB, p1, p2, p3]
              refine tK (.int .i64 ((i : Nat) : Int)) ?_
              try simp only [pA, pB, p1, p2, p3]
              refine tW (.pointer (some ⟨gw, ow + i * 1, none⟩)) (exec_ixA 33 1 E33 F33 _ _ rfl gw ow xs.length cap i (by kernel_rfl) (by kernel_rfl) (by have := HPp.out; omega)) ?_
              try simp only [pA, pB, p1, p2, p3]
              refine tW (.slice ba x.length bc) (exec_load 30 _ rfl ⟨gw, ow + i * 1, none⟩ (by kernel_rfl) (.slice ba x.length bc) (load_one HCell.out U30 rfl)) ?_
              try simp only [pA, pB, p1, p2, p3]
              refine tK (.slice ba x.length bc) ?_
              try simp only [pA, pB, p1, p2, p3]
              refine WL.nil ?_
              try simp only [pA, pB, p1, p2, p3]
              go_upto_region 20 with fail
              refine WL.start ?_
              refine tK (.slice ba x.length bc) ?_
              try simp only [pA, pB, p1, p2, p3]
              refine tK (.int .i64 ((x.length : Nat) : Int)) ?_
              try simp only [pA, pB, p1, p2, p3]
              refine tW (.bool false) (exec_bin .gtr 3 _ _ _ rfl (.int .i64 ((x.length : Nat) : Int)) (.int .i64 4000) (.bool false) (by kernel_rfl) (by kernel_rfl) (by kernel_rfl) (by rw [b_gtr3, decide_eq_false hbi2])) ?_
              try simp only [pA, pB, p1, p2, p3]
              refine WL.nil ?_
              try simp only [pA, pB, p1, p2, p3]
              go_upto_region 22 with fail
              have HO : Hid (Own 9 1 wr.drew nb (some ⟨gy, 0, none⟩) co ys.length (ys.map strV)) := HO.out.no (Kept.refl No _).drew
              have HK : Hid (Kept No w wr.drew) := HK.out.drew
              have HBb : Hid (Nums .u8 wr.drew ba (x.map bi)) := HBb.out.no (Kept.refl No _).drew
              refine wp_region_held_drew (S := fun w' => Own 9 1 w' nb (some ⟨gy, 0, none⟩) co ys.length (ys.map strV) ∧ Nums .u8 w' ba (x.map bi)) rfl ⟨HO.out, HBb.out⟩ (fun hH => ?_)
              generalize wr.drew = wk17 at HO HK HBb hH ⊢
              refine aT (i := 0) (oi := { dst := some 75, op := Op.move (Operand.tmp 9), type := 22, pos := "law.go:91", after := #[], guard := none }) (v := .slice (some ⟨gy, 0, none⟩) ys.length co) (fun _ _ => by kernel_rfl) hH ?_
              try simp only [pA, pB, p1, p2, p3]
              refine aT (i := 1) (oi := { dst := some 76, op := Op.move (Operand.tmp 11), type := 3, pos := "law.go:91", after := #[], guard := none }) (v := .int .i64 ((i : Nat) : Int)) (fun _ _ => by kernel_rfl) hH ?_
              try simp only [pA, pB, p1, p2, p3]
              refine aT (i := 2) (oi := { dst := some 77, op := Op.indexAddr 22 (Operand.tmp 75) (Operand.tmp 76), type := 0, pos := "law.go:91", after := #[{ on := 0, ground := Ground.data }, { on := 1, ground := Ground.data }], guard := none }) (v := .pointer (some ⟨gy, 0 + i * 1, none⟩)) (fun w' hw => exec_ixA 22 1 E22 F22 _ _ rfl gy 0 ys.length co i (by kernel_rfl) (by kernel_rfl) (by have := HYl.out; have := HPp.out; omega)) hH ?_
              try simp only [pA, pB, p1, p2, p3]
              refine aT (i := 3) (oi := { dst := some 78, op := Op.load 9 (Operand.tmp 77), type := 9, pos := "law.go:91", after := #[{ on := 2, ground := Ground.data }], guard := none }) (v := .string (bs x)) (fun w' hw => exec_load 9 _ rfl ⟨gy, 0 + i * 1, none⟩ (by kernel_rfl) (.string (bs x)) (load_one (hw.1.cellAt (i := 0 + i * 1) HYi.out) U9 rfl)) hH ?_
              try simp only [pA, pB, p1, p2, p3]
              refine aT (i := 4) (oi := { dst := some 79, op := Op.move (Operand.tmp 12), type := 30, pos := "law.go:91", after := #[], guard := none }) (v := .slice ba x.length bc) (fun _ _ => by kernel_rfl) hH ?_
              try simp only [pA, pB, p1, p2, p3]
              refine aT (i := 5) (oi := { dst := some 80, op := Op.convert 30 9 (Operand.tmp 79), type := 9, pos := "law.go:91", after := #[{ on := 4, ground := Ground.data }], guard := none }) (v := .string (bs x)) (fun w' hw => exec_conv _ 30 9 rfl _ _ (by kernel_rfl) (run_convR (cap := bc) hw.2 rfl)) hH ?_
              try simp only [pA, pB, p1, p2, p3]
              refine aT (i := 6) (oi := { dst := some 81, op := Op.binOp BinOp.neq 9 (Operand.tmp 78) (Operand.tmp 80) 9, type := 4, pos := "law.go:91", after := #[{ on := 3, ground := Ground.data }, { on := 5, ground := Ground.data }], guard := none }) (v := .bool false) (fun w' hw => exec_bin .neq 9 _ _ _ rfl (.string (bs x)) (.string (bs x)) (.bool false) (by kernel_rfl) (by kernel_rfl) (by kernel_rfl) (by rw [b_neqS]; simp)) hH ?_
              try simp only [pA, pB, p1, p2, p3]
              refine wpAnyH_done (by kernel_rfl) ?_ _
              try simp only [pA, pB, p1, p2, p3]
              clear hH
              go_upto_region 18 with fail
              refine WL.start ?_
              refine tK (.int .i64 ((i : Nat) : Int)) ?_
              try simp only [pA, pB, p1, p2, p3]
              refine tW (.int .i64 ((i + 1 : Nat) : Int)) (exec_bin .add 3 _ _ _ rfl (.int .i64 ((i : Nat) : Int)) (.int .i64 1) (.int .i64 ((i + 1 : Nat) : Int)) (by kernel_rfl) (by kernel_rfl) (by kernel_rfl) (b_add1 i (by have := HI.out; omega) _)) ?_
              try simp only [pA, pB, p1, p2, p3]
              refine tK (.int .i64 ((i + 1 : Nat) : Int)) ?_
              try simp only [pA, pB, p1, p2, p3]
              refine WL.nil ?_
              try simp only [pA, pB, p1, p2, p3]
              go_wp2
              go_roundw
              case rel => exact ⟨i + 1, by go_num, HPm.out, HO, HK⟩
              case measure => have := HPm.out; simp [intOf]; omega
          · have hcm2 : ¬ ((i : Nat) : Int) < ((m : Nat) : Int) := by omega
            go_upto_region 17 with fail
            refine WL.start ?_
            refine tK (.int .i64 ((i : Nat) : Int)) ?_
            try simp only [pA, pB, p1, p2, p3]
            refine tK (.int .i64 ((m : Nat) : Int)) ?_
            try simp only [pA, pB, p1, p2, p3]
            refine tW (.bool false) (exec_bin .lss 3 _ _ _ rfl (.int .i64 ((i : Nat) : Int)) (.int .i64 ((m : Nat) : Int)) (.bool false) (by kernel_rfl) (by kernel_rfl) (by kernel_rfl) (by rw [b_lss, decide_eq_false hcm2])) ?_
            try simp only [pA, pB, p1, p2, p3]
            refine WL.nil ?_
            try simp only [pA, pB, p1, p2, p3]
            go_upto_region 24 with fail
            refine WL.start ?_
            refine wp_runW (.slice (some ⟨wr.heap.size, 0, none⟩) 1 1) (wr.alloc (.cells #[.int .u8 120] 5)) (exec_built (by kernel_rfl)) (by kernel_rfl) ?_
            try simp only [pA, pB, p1, p2, p3]
            refine wp_runW (.slice (some ⟨wr.heap.size, 0, none⟩) 1 1) (wr.alloc (.cells #[.int .u8 120] 5 (1, 2))) (exec_convW _ 30 30 rfl _ _ (by kernel_rfl) (Go.Lib.run_convert_bytes_const wr 30 5 #[.int .u8 120] 1 1 U30 U5)) (by kernel_rfl) ?_
            try simp only [pA, pB, p1, p2, p3]
            have HK : Hid (Kept No w (wr.alloc (.cells #[.int .u8 120] 5 (1, 2)))) := HK.out.alloc _
            have HXx : Hid (Nums .u8 (wr.alloc (.cells #[.int .u8 120] 5 (1, 2))) (some ⟨wr.heap.size, 0, none⟩) ([120].map bi)) := num_x _
            have HO : Hid (Own 9 1 (wr.alloc (.cells #[.int .u8 120] 5 (1, 2))) nb ao co ys.length (ys.map strV)) := HO.out.no ((Kept.refl No _).alloc _)
            generalize wr.alloc (.cells #[.int .u8 120] 5 (1, 2)) = W24 at HK HXx HO ⊢
            generalize wr.heap.size = g24 at HXx ⊢
            refine wp_callW 10 #[.slice (some ⟨g24, 0, none⟩) 1 1] (by kernel_rfl) _ (quote_any (some ⟨g24, 0, none⟩) [120] 1 W24 (by decide) HXx.out) (by kernel_rfl) ?_
            rintro e w_17 ⟨rfl, hk⟩
            have HK : Hid (Kept No w w_17) := HK.out.then hk
            clear hk
            refine ⟨.string (bs (quoteL [120])), rfl, ?_⟩
            try simp only [pA, pB, p1, p2, p3]
            refine tW (.bool true) (exec_bin .eql 9 _ _ _ rfl (.string (bs (quoteL [120]))) (.string ⟨#[34, 120, 34]⟩) (.bool true) (by kernel_rfl) (by kernel_rfl) (by kernel_rfl) ((b_eqlS (quoteL [120]) [34, 120, 34] _).trans (by rw [quote_x]; rfl))) ?_
            try simp only [pA, pB, p1, p2, p3]
            refine tK (.bool true) ?_
            try simp only [pA, pB, p1, p2, p3]
            refine WL.nil ?_
            try simp only [pA, pB, p1, p2, p3]
            go_wp2
            rw [HC.out]
            exact ⟨rfl, HK.out⟩

end Go.Proofs.Ytgnfeegnhdbnkaa
