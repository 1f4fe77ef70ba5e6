import Derived.Test.YtfemlnfknebalabQc
import Derived.StillTailTactics
namespace Go.Proofs.Ytfemlnfknebalab
open Go.RowKit
set_option linter.unusedVariables false
set_option linter.unusedSimpArgs false

set_option maxRecDepth 100000 in
set_option maxHeartbeats 8000000 in
theorem grownAnswers_any (ra : Option Addr) (rn rc base lo : Nat) (K : List Sl) (Z : Nat → List Av) (w : World) (hR : Gx.Rw Gx.DA w base ra rc K) (hE : Gx.Erow Gx.DA w lo K Z) (hn : K.length = rn) (hm : rn ≤ 1000) (hlo : lo ≤ w.heap.size) (hbase : base ≤ w.heap.size) (hra : ∀ k, At ra k → k < w.heap.size) :
    Calls Try.prog 13 #[.slice ra rn rc] w fun e w' => e = .returned (.bool true) ∧ Kept (Gx.EB K) w w' := by
  have HE : Hid (Gx.Erow Gx.DA w lo K Z) := hE
  have HN : Hid (K.length = rn) := hn
  have HRA : Hid (∀ k, At ra k → k < w.heap.size) := hra
  have HP0 : Hid (Gx.Ph1 Gx.DA w w base lo ra rc K 0) := ⟨hR, Kept.refl _ _, Z, hE, fun q hq => absurd hq (Nat.not_lt_zero _)⟩
  have HLO : Hid (lo ≤ w.heap.size ∧ base ≤ w.heap.size) := ⟨hlo, hbase⟩
  clear hR hE hn hra hlo hbase
  go_enter Try.func13, Try.ntmps13
  go_wp2
  go_loopw [3] (fun i wr => ∃ k : Nat, k ≤ rn ∧ i = .int .i64 (k : Int) ∧ Hid (Gx.Ph1 Gx.DA w wr base lo ra rc K k)) (fun i _ => rn - (intOf i).toNat)
  case atStart => exact ⟨0, Nat.zero_le _, rfl, HP0⟩
  case round =>
    obtain ⟨k, hk, rfl, HP⟩ := hrel
    clear HP0
    by_cases hlt : k < rn
    · have i1 : (k : Int) < (rn : Int) := by omega
      obtain ⟨⟨ea, el, ec⟩, he⟩ : ∃ e, K[k]? = some e := ⟨K[k]'(by rw [HN.out]; exact hlt), by rw [List.getElem?_eq_getElem]⟩
      obtain ⟨rg, rfl, -⟩ := HP.out.row.at he
      have HEk : Hid (K[k]? = some ⟨ea, el, ec⟩) := he
      have hel : (el : Int) ≤ 1000000 := by have := (HE.out.ok k _ he).2.2; simp only at this; omega
      clear he
      go_wp2
      go_loopw [4] (fun j wr => ∃ q : Nat, q ≤ el ∧ j = .int .i64 (q : Int) ∧ Hid (Gx.Ph1j Gx.DA w wr base lo (some ⟨rg, 0, none⟩) rc K k q)) (fun j _ => el - (intOf j).toNat)
      case atStart => exact ⟨0, Nat.zero_le _, rfl, HP.out.inner⟩
      case round =>
        obtain ⟨q, hq, rfl, HQ⟩ := hrel
        clear HP
        have hcr := HQ.out.rowAt0 HEk.out
        unfold Sl.v at hcr
        simp only at hcr
        by_cases hl2 : q < el
        · have i2 : (q : Int) < (el : Int) := by omega
          obtain ⟨g, ha⟩ := HQ.out.sm HEk.out hl2
          simp only at ha
          subst ha
          go_upto_region 7 with fail
          refine WL.start ?_
          refine tK (.slice (some ⟨rg, 0, none⟩) rn rc) ?_
          try simp only [pA, pB, p1, p2, p3]
          refine tK (.int .i64 ((k : Nat) : Int)) ?_
          try simp only [pA, pB, p1, p2, p3]
          refine tW (.pointer (some ⟨rg, 0 + k * 1, none⟩)) (exec_ixA 44 1 Gx.u44 Gx.s44 _ _ rfl rg 0 rn rc k (by kernel_rfl) (by kernel_rfl) (by omega)) ?_
          try simp only [pA, pB, p1, p2, p3]
          refine tW (.slice (some ⟨g, 0, none⟩) el ec) (exec_load 45 _ rfl ⟨rg, 0 + k * 1, none⟩ (by kernel_rfl) (.slice (some ⟨g, 0, none⟩) el ec) (load_one (HQ.out.rowAt HEk.out) Gx.t45 rfl)) ?_
          try simp only [pA, pB, p1, p2, p3]
          refine tK (.int .i64 ((q : Nat) : Int)) ?_
          try simp only [pA, pB, p1, p2, p3]
          refine tK (.int .i64 ((k : Nat) : Int)) ?_
          try simp only [pA, pB, p1, p2, p3]
          refine tW (.int .i64 ((1000 * k : Nat) : Int)) (exec_bin .mul 3 _ _ _ rfl (.int .i64 1000) (.int .i64 ((k : Nat) : Int)) (.int .i64 ((1000 * k : Nat) : Int)) (by kernel_rfl) (by kernel_rfl) (by kernel_rfl) (b_mulK k (by omega) _)) ?_
          try simp only [pA, pB, p1, p2, p3]
          refine tK (.int .i64 ((q : Nat) : Int)) ?_
          try simp only [pA, pB, p1, p2, p3]
          refine tW (.int .i64 ((1000 * k + q : Nat) : Int)) (exec_bin .add 3 _ _ _ rfl (.int .i64 ((1000 * k : Nat) : Int)) (.int .i64 ((q : Nat) : Int)) (.int .i64 ((1000 * k + q : Nat) : Int)) (by kernel_rfl) (by kernel_rfl) (by kernel_rfl) (b_addw _ _ _ (by rw [IntKind.wrap_i64]; omega) _)) ?_
          try simp only [pA, pB, p1, p2, p3]
          refine tW (.agg (En.cells ⟨⟨#[]⟩, 0, 0, ((1000 * k + q : Nat) : Int)⟩)) (exec_build 34 _ rfl (En.cells ⟨⟨#[]⟩, 0, 0, ((1000 * k + q : Nat) : Int)⟩) (by kernel_rfl)) ?_
          try simp only [pA, pB, p1, p2, p3]
          refine tW (.agg (Av.cells ⟨7, ⟨⟨#[]⟩, 0, 0, ((1000 * k + q : Nat) : Int)⟩, slZ⟩)) (exec_build 36 _ rfl (Av.cells ⟨7, ⟨⟨#[]⟩, 0, 0, ((1000 * k + q : Nat) : Int)⟩, slZ⟩) (by kernel_rfl)) ?_
          try simp only [pA, pB, p1, p2, p3]
          refine tW (.pointer (some ⟨g, 0 + q * 6, none⟩)) (exec_ixA 45 6 Gx.u45 Gx.s45 _ _ rfl g 0 el ec q (by kernel_rfl) (by kernel_rfl) (by omega)) ?_
          try simp only [pA, pB, p1, p2, p3]
          obtain ⟨cs9, hrun9, hQ9⟩ := HQ.out.set HEk.out hl2 rfl (v := .agg (Av.cells ⟨7, ⟨⟨#[]⟩, 0, 0, ((1000 * k + q : Nat) : Int)⟩, slZ⟩)) rfl Gx.z36 (Av.oneL _)
          refine wp_storeW 36 _ _ rfl ⟨g, 0 + q * 6, none⟩ (.agg (Av.cells ⟨7, ⟨⟨#[]⟩, 0, 0, ((1000 * k + q : Nat) : Int)⟩, slZ⟩)) (by kernel_rfl) (by kernel_rfl) (wr.setRow g cs9) hrun9 (by kernel_rfl) ?_
          try simp only [pA, pB, p1, p2, p3]
          have HS : Hid (Gx.Ph1j Gx.DA w (wr.setRow g cs9) base lo (some ⟨rg, 0, none⟩) rc K k (q + 1)) := hQ9
          clear hrun9 hQ9 HQ
          generalize wr.setRow g cs9 = w9 at HS ⊢
          refine WL.nil ?_
          try simp only [pA, pB, p1, p2, p3]
          go_wp2
          go_roundw
          case rel => exact ⟨q + 1, by omega, by go_num, HS⟩
          case measure => simp [intOf]; omega
        · have i2 : ¬ (q : Int) < (el : Int) := by omega
          obtain rfl : q = el := by omega
          have HS : Hid (Gx.Ph1 Gx.DA w wr base lo (some ⟨rg, 0, none⟩) rc K (k + 1)) := HQ.out.outer HEk.out
          clear HQ
          go_wp2
          go_roundw
          case rel => exact ⟨k + 1, by omega, by go_num, HS⟩
          case measure => simp [intOf]; omega
    · have i1 : ¬ (k : Int) < (rn : Int) := by omega
      obtain rfl : rn = k := by omega
      have HG0 : Hid (Gx.Ph2 Gx.DA w wr base lo ra rc K none 0 [] 0) := HP.out.grow HN.out
      clear HP
      go_wp2
      go_loopw [5, 6] (fun m i wr => ∃ (k : Nat) (ma : Option Addr) (mc : Nat) (M : List Sl), k ≤ rn ∧ i = .int .i64 (k : Int) ∧ m = .slice ma k mc ∧ Hid (Gx.Ph2 Gx.DA w wr base lo ra rc K ma mc M k)) (fun _ i _ => rn - (intOf i).toNat)
      case atStart => exact ⟨0, none, 0, [], Nat.zero_le _, rfl, rfl, HG0⟩
      case round =>
        obtain ⟨k, ma, mc, M, hk, rfl, rfl, HP⟩ := hrel
        clear HG0
        by_cases hlt : k < rn
        · have i1 : (k : Int) < (rn : Int) := by omega
          obtain ⟨⟨ea, el, ec⟩, he⟩ : ∃ e, K[k]? = some e := ⟨K[k]'(by rw [HN.out]; exact hlt), by rw [List.getElem?_eq_getElem]⟩
          obtain ⟨rg, rfl, -⟩ := HP.out.row.at he
          have hcr := HP.out.rowAt0 he
          unfold Sl.v at hcr
          simp only at hcr
          have HEk : Hid (K[k]? = some ⟨ea, el, ec⟩) := he
          have hel : (el : Int) ≤ 1000000 := by have := (HE.out.ok k _ he).2.2; simp only at this; omega
          have HO : Hid (Gx.OwG Gx.DA wr lo ea ec (Gx.marksOf Gx.DA k el)) := HP.out.olds k _ he
          clear he
          obtain ⟨wi, rfl⟩ : ∃ wi : World, wi = wr := ⟨_, rfl⟩
          go_wp2
          go_loopw [7, 8] (fun v j wj => ∃ (q : Nat) (ax : Option Addr) (cx : Nat), q ≤ 70 ∧ j = .int .i64 (q : Int) ∧ v = .slice ax (el + q) cx ∧ Hid (Gx.Gr Gx.DA wi wj lo ⟨ea, el, ec⟩ (Gx.marksOf Gx.DA k el) (Gx.growsOf Gx.DA k q) ax cx)) (fun _ j _ => 70 - (intOf j).toNat)
          case atStart => exact ⟨0, ea, ec, Nat.zero_le _, rfl, rfl, Gx.Gr.start (e := ⟨ea, el, ec⟩) HO.out⟩
          case round =>
            obtain ⟨q, ax, cx, hq, rfl, rfl, HG⟩ := hrel
            by_cases hl2 : q < 70
            · have i2 : (q : Int) < 70 := by omega
              have HWS : Hid (lo ≤ wr.heap.size) := by have h1 := HLO.out.1; have h2 := (HP.out.kept).size; have h3 := HG.out.kept.size; show _ ≤ _; omega
              go_upto_region 16 with fail
              refine WL.start ?_
              refine tK (.slice ax (el + q) cx) ?_
              try simp only [pA, pB, p1, p2, p3]
              refine tK (.int .i64 ((k : Nat) : Int)) ?_
              try simp only [pA, pB, p1, p2, p3]
              refine tW (.int .i64 ((1000 * k : Nat) : Int)) (exec_bin .mul 3 _ _ _ rfl (.int .i64 1000) (.int .i64 ((k : Nat) : Int)) (.int .i64 ((1000 * k : Nat) : Int)) (by kernel_rfl) (by kernel_rfl) (by kernel_rfl) (b_mulK k (by omega) _)) ?_
              try simp only [pA, pB, p1, p2, p3]
              refine tK (.int .i64 ((q : Nat) : Int)) ?_
              try simp only [pA, pB, p1, p2, p3]
              refine tW (.int .i64 ((1000 * k + q : Nat) : Int)) (exec_bin .add 3 _ _ _ rfl (.int .i64 ((1000 * k : Nat) : Int)) (.int .i64 ((q : Nat) : Int)) (.int .i64 ((1000 * k + q : Nat) : Int)) (by kernel_rfl) (by kernel_rfl) (by kernel_rfl) (b_addw _ _ _ (by rw [IntKind.wrap_i64]; omega) _)) ?_
              try simp only [pA, pB, p1, p2, p3]
              refine tW (.agg (En.cells ⟨⟨#[]⟩, 0, 0, ((1000 * k + q : Nat) : Int)⟩)) (exec_build 34 _ rfl (En.cells ⟨⟨#[]⟩, 0, 0, ((1000 * k + q : Nat) : Int)⟩) (by kernel_rfl)) ?_
              try simp only [pA, pB, p1, p2, p3]
              refine tW (.agg (Av.cells ⟨8, ⟨⟨#[]⟩, 0, 0, ((1000 * k + q : Nat) : Int)⟩, slZ⟩)) (exec_build 36 _ rfl (Av.cells ⟨8, ⟨⟨#[]⟩, 0, 0, ((1000 * k + q : Nat) : Int)⟩, slZ⟩) (by kernel_rfl)) ?_
              try simp only [pA, pB, p1, p2, p3]
              refine wp_runW (.slice (some ⟨wr.heap.size, 0, none⟩) 1 1) (wr.alloc (.cells (Av.cells ⟨8, ⟨⟨#[]⟩, 0, 0, ((1000 * k + q : Nat) : Int)⟩, slZ⟩) 36)) (exec_slice2 45 36 _ rfl (Av.cells ⟨8, ⟨⟨#[]⟩, 0, 0, ((1000 * k + q : Nat) : Int)⟩, slZ⟩) (.agg (Av.cells ⟨8, ⟨⟨#[]⟩, 0, 0, ((1000 * k + q : Nat) : Int)⟩, slZ⟩)) (by kernel_rfl) (by kernel_rfl)) (by kernel_rfl) ?_
              try simp only [pA, pB, p1, p2, p3]
              obtain ⟨a4, c4, w4, hrun4, hG4⟩ := HG.out.app ((Gx.DA.mr k q)) (el + q) (Gx.gr_len2 k el q) (by' := 72) Gx.t45 Try.info56 rfl (Av.oneL _) (by omega) (by omega) HWS.out
              refine wp_runW (.slice a4 (el + q + 1) c4) w4 (exec_appN _ _ 45 45 rfl (.slice ax (el + q) cx) (.slice (some ⟨wr.heap.size, 0, none⟩) 1 1) (by kernel_rfl) (by kernel_rfl) hrun4) (by kernel_rfl) ?_
              try simp only [pA, pB, p1, p2, p3]
              refine tK (.slice a4 (el + q + 1) c4) ?_
              try simp only [pA, pB, p1, p2, p3]
              refine WL.nil ?_
              try simp only [pA, pB, p1, p2, p3]
              have HG4 : Hid (Gx.Gr Gx.DA wi w4 lo ⟨ea, el, ec⟩ (Gx.marksOf Gx.DA k el) (Gx.growsOf Gx.DA k (q + 1)) a4 c4) := by
                rw [Gx.growsOf_succ]
                exact hG4
              clear HG hG4 hrun4 HWS
              go_wp2
              go_roundw
              case rel => exact ⟨q + 1, a4, c4, by omega, by go_num, rfl, HG4⟩
              case measure => simp [intOf]; omega
            · have i2 : ¬ (q : Int) < 70 := by omega
              obtain rfl : q = 70 := by omega
              have HD : Hid (Gx.Ph2 Gx.DA w wr base lo (some ⟨rg, 0, none⟩) rc K ma mc M k ∧ Gx.OwG Gx.DA wr lo ax cx (Gx.marksOf Gx.DA k el ++ Gx.growsOf Gx.DA k 70) ∧ (ax = ea ∨ ∀ k, At ax k → w.heap.size ≤ k)) := HP.out.grown HE.out HEk.out HG.out
              clear HG HO HP
              go_upto_region 17 with fail
              refine WL.start ?_
              refine tK (.slice ma k mc) ?_
              try simp only [pA, pB, p1, p2, p3]
              refine tK (.slice ax (el + 70) cx) ?_
              try simp only [pA, pB, p1, p2, p3]
              refine wp_runW (.slice (some ⟨wr.heap.size, 0, none⟩) 1 1) (wr.alloc (.cells (#[.slice ax (el + 70) cx]) 45)) (exec_slice2 44 45 _ rfl (#[.slice ax (el + 70) cx]) (.slice ax (el + 70) cx) (by kernel_rfl) (by kernel_rfl)) (by kernel_rfl) ?_
              try simp only [pA, pB, p1, p2, p3]
              obtain ⟨a4, c4, w4, hrun4, hP4⟩ := HD.out.1.app HEk.out (f := ⟨ax, el + 70, cx⟩) rfl HD.out.2.1 HD.out.2.2 HRA.out 44 Gx.u44x Gx.i45 (by omega)
              refine wp_runW (.slice a4 (k + 1) c4) w4 (exec_appN _ _ 44 44 rfl (.slice ma k mc) (.slice (some ⟨wr.heap.size, 0, none⟩) 1 1) (by kernel_rfl) (by kernel_rfl) hrun4) (by kernel_rfl) ?_
              try simp only [pA, pB, p1, p2, p3]
              refine tK (.slice a4 (k + 1) c4) ?_
              try simp only [pA, pB, p1, p2, p3]
              refine WL.nil ?_
              try simp only [pA, pB, p1, p2, p3]
              have HP4 : Hid (Gx.Ph2 Gx.DA w w4 base lo (some ⟨rg, 0, none⟩) rc K a4 c4 (M ++ [⟨ax, el + 70, cx⟩]) (k + 1)) := hP4
              clear HD hP4 hrun4
              go_wp2
              go_roundw
              case rel => exact ⟨k + 1, a4, c4, _, by omega, by go_num, rfl, HP4⟩
              case measure => simp [intOf]; omega
        · have i1 : ¬ (k : Int) < (rn : Int) := by omega
          obtain rfl : rn = k := by omega
          go_wp2
          go_loopw [9] (fun i wr => ∃ k : Nat, k ≤ rn ∧ i = .int .i64 (k : Int) ∧ Hid (Gx.Ph2 Gx.DA w wr base lo ra rc K ma mc M rn)) (fun i _ => rn - (intOf i).toNat)
          case atStart => exact ⟨0, Nat.zero_le _, rfl, HP⟩
          case round =>
            obtain ⟨k, hk, rfl, HQ⟩ := hrel
            clear HP hlt i1
            by_cases hlt : k < rn
            · have i1 : (k : Int) < (rn : Int) := by omega
              obtain ⟨⟨ea, el, ec⟩, he⟩ : ∃ e, K[k]? = some e := ⟨K[k]'(by rw [HN.out]; exact hlt), by rw [List.getElem?_eq_getElem]⟩
              obtain ⟨⟨fa, fl, fc⟩, hf⟩ : ∃ e, M[k]? = some e := ⟨M[k]'(by rw [HQ.out.len]; exact hlt), by rw [List.getElem?_eq_getElem]⟩
              obtain ⟨rg, rfl, -⟩ := HQ.out.row.at he
              obtain ⟨mg, rfl, -⟩ := HQ.out.more.at hf
              have hcr := HQ.out.rowAt0 he
              unfold Sl.v at hcr
              simp only at hcr
              have HEk : Hid (K[k]? = some ⟨ea, el, ec⟩) := he
              obtain rfl : fl = el + 70 := (HQ.out.news k _ _ he hf).1
              have HFk : Hid (M[k]? = some ⟨fa, el + 70, fc⟩) := hf
              have hel : (el : Int) ≤ 1000000 := by have := (HE.out.ok k _ he).2.2; simp only at this; omega
              clear he hf
              go_wp2
              go_loopw [11] (fun j wr => ∃ q : Nat, q ≤ el ∧ j = .int .i64 (q : Int) ∧ Hid (Gx.Ph2 Gx.DA w wr base lo (some ⟨rg, 0, none⟩) rc K (some ⟨mg, 0, none⟩) mc M rn)) (fun j _ => el - (intOf j).toNat)
              case atStart => exact ⟨0, Nat.zero_le _, rfl, HQ⟩
              case round =>
                obtain ⟨q, hq, rfl, HT⟩ := hrel
                clear HQ hcr
                by_cases hl2 : q < el
                · have i2 : (q : Int) < (el : Int) := by omega
                  obtain ⟨g, ha⟩ := HT.out.smO HEk.out (Nat.lt_of_le_of_lt (Nat.zero_le _) hl2)
                  obtain ⟨g2, hb⟩ := HT.out.smN HEk.out HFk.out
                  simp only at ha hb
                  subst ha
                  subst hb
                  go_upto_region 25 with fail
                  refine WL.start ?_
                  refine tK (.slice (some ⟨rg, 0, none⟩) rn rc) ?_
                  try simp only [pA, pB, p1, p2, p3]
                  refine tK (.int .i64 ((k : Nat) : Int)) ?_
                  try simp only [pA, pB, p1, p2, p3]
                  refine tW (.pointer (some ⟨rg, 0 + k * 1, none⟩)) (exec_ixA 44 1 Gx.u44 Gx.s44 _ _ rfl rg 0 rn rc k (by kernel_rfl) (by kernel_rfl) (by omega)) ?_
                  try simp only [pA, pB, p1, p2, p3]
                  refine tW (.slice (some ⟨g, 0, none⟩) el ec) (exec_load 45 _ rfl ⟨rg, 0 + k * 1, none⟩ (by kernel_rfl) (.slice (some ⟨g, 0, none⟩) el ec) (load_one (HT.out.rowAt HEk.out) Gx.t45 rfl)) ?_
                  try simp only [pA, pB, p1, p2, p3]
                  refine tK (.int .i64 ((q : Nat) : Int)) ?_
                  try simp only [pA, pB, p1, p2, p3]
                  refine tW (.pointer (some ⟨g, 0 + q * 6, none⟩)) (exec_ixA 45 6 Gx.u45 Gx.s45 _ _ rfl g 0 el ec q (by kernel_rfl) (by kernel_rfl) (by omega)) ?_
                  try simp only [pA, pB, p1, p2, p3]
                  refine tK (.pointer (some ⟨g, 0 + q * 6, none⟩)) ?_
                  try simp only [pA, pB, p1, p2, p3]
                  refine tW (.int .i64 7) (exec_load 32 _ rfl ⟨g, 0 + q * 6, none⟩ (by kernel_rfl) (.int .i64 7) (load_one (HT.out.oldAt HEk.out hl2 0 _ rfl) Try.und46 rfl)) ?_
                  try simp only [pA, pB, p1, p2, p3]
                  refine tW (.bool false) (exec_bin .neq 32 _ _ _ rfl (.int .i64 7) (.int .i64 7) (.bool false) (by kernel_rfl) (by kernel_rfl) (by kernel_rfl) (by kernel_rfl)) ?_
                  try simp only [pA, pB, p1, p2, p3]
                  refine tK (.bool false) ?_
                  try simp only [pA, pB, p1, p2, p3]
                  refine tK (.slice (some ⟨rg, 0, none⟩) rn rc) ?_
                  try simp only [pA, pB, p1, p2, p3]
                  refine tK (.int .i64 ((k : Nat) : Int)) ?_
                  try simp only [pA, pB, p1, p2, p3]
                  refine tW (.pointer (some ⟨rg, 0 + k * 1, none⟩)) (exec_ixA 44 1 Gx.u44 Gx.s44 _ _ rfl rg 0 rn rc k (by kernel_rfl) (by kernel_rfl) (by omega)) ?_
                  try simp only [pA, pB, p1, p2, p3]
                  refine tW (.slice (some ⟨g, 0, none⟩) el ec) (exec_load 45 _ rfl ⟨rg, 0 + k * 1, none⟩ (by kernel_rfl) (.slice (some ⟨g, 0, none⟩) el ec) (load_one (HT.out.rowAt HEk.out) Gx.t45 rfl)) ?_
                  try simp only [pA, pB, p1, p2, p3]
                  refine tK (.int .i64 ((q : Nat) : Int)) ?_
                  try simp only [pA, pB, p1, p2, p3]
                  refine tW (.pointer (some ⟨g, 0 + q * 6, none⟩)) (exec_ixA 45 6 Gx.u45 Gx.s45 _ _ rfl g 0 el ec q (by kernel_rfl) (by kernel_rfl) (by omega)) ?_
                  try simp only [pA, pB, p1, p2, p3]
                  refine tK (.pointer (some ⟨g, 0 + q * 6 + 1, none⟩)) ?_
                  try simp only [pA, pB, p1, p2, p3]
                  refine tK (.pointer (some ⟨g, 0 + q * 6 + 1 + 3, none⟩)) ?_
                  try simp only [pA, pB, p1, p2, p3]
                  refine tW (.int .i64 ((1000 * k + q : Nat) : Int)) (exec_load 3 _ rfl ⟨g, 0 + q * 6 + 1 + 3, none⟩ (by kernel_rfl) (.int .i64 ((1000 * k + q : Nat) : Int)) (load_one (HT.out.oldAt HEk.out hl2 4 _ rfl) Try.und3 rfl)) ?_
                  try simp only [pA, pB, p1, p2, p3]
                  refine tK (.int .i64 ((k : Nat) : Int)) ?_
                  try simp only [pA, pB, p1, p2, p3]
                  refine tW (.int .i64 ((1000 * k : Nat) : Int)) (exec_bin .mul 3 _ _ _ rfl (.int .i64 1000) (.int .i64 ((k : Nat) : Int)) (.int .i64 ((1000 * k : Nat) : Int)) (by kernel_rfl) (by kernel_rfl) (by kernel_rfl) (b_mulK k (by omega) _)) ?_
                  try simp only [pA, pB, p1, p2, p3]
                  refine tK (.int .i64 ((q : Nat) : Int)) ?_
                  try simp only [pA, pB, p1, p2, p3]
                  refine tW (.int .i64 ((1000 * k + q : Nat) : Int)) (exec_bin .add 3 _ _ _ rfl (.int .i64 ((1000 * k : Nat) : Int)) (.int .i64 ((q : Nat) : Int)) (.int .i64 ((1000 * k + q : Nat) : Int)) (by kernel_rfl) (by kernel_rfl) (by kernel_rfl) (b_addw _ _ _ (by rw [IntKind.wrap_i64]; omega) _)) ?_
                  try simp only [pA, pB, p1, p2, p3]
                  refine tW (.bool false) (exec_bin .neq 3 _ _ _ rfl (.int .i64 ((1000 * k + q : Nat) : Int)) (.int .i64 ((1000 * k + q : Nat) : Int)) (.bool false) (by kernel_rfl) (by kernel_rfl) (by kernel_rfl) (by rw [b_neq, beq_self_eq_true]; rfl)) ?_
                  try simp only [pA, pB, p1, p2, p3]
                  refine tK (.bool false) ?_
                  try simp only [pA, pB, p1, p2, p3]
                  refine tK (.bool false) ?_
                  try simp only [pA, pB, p1, p2, p3]
                  refine tK (.slice (some ⟨mg, 0, none⟩) rn mc) ?_
                  try simp only [pA, pB, p1, p2, p3]
                  refine tK (.int .i64 ((k : Nat) : Int)) ?_
                  try simp only [pA, pB, p1, p2, p3]
                  refine tW (.pointer (some ⟨mg, 0 + k * 1, none⟩)) (exec_ixA 44 1 Gx.u44 Gx.s44 _ _ rfl mg 0 rn mc k (by kernel_rfl) (by kernel_rfl) (by omega)) ?_
                  try simp only [pA, pB, p1, p2, p3]
                  refine tW (.slice (some ⟨g2, 0, none⟩) (el + 70) fc) (exec_load 45 _ rfl ⟨mg, 0 + k * 1, none⟩ (by kernel_rfl) (.slice (some ⟨g2, 0, none⟩) (el + 70) fc) (load_one (HT.out.moreAt HFk.out) Gx.t45 rfl)) ?_
                  try simp only [pA, pB, p1, p2, p3]
                  refine tK (.int .i64 ((q : Nat) : Int)) ?_
                  try simp only [pA, pB, p1, p2, p3]
                  refine tW (.pointer (some ⟨g2, 0 + q * 6, none⟩)) (exec_ixA 45 6 Gx.u45 Gx.s45 _ _ rfl g2 0 (el + 70) fc q (by kernel_rfl) (by kernel_rfl) (by omega)) ?_
                  try simp only [pA, pB, p1, p2, p3]
                  refine tK (.pointer (some ⟨g2, 0 + q * 6 + 1, none⟩)) ?_
                  try simp only [pA, pB, p1, p2, p3]
                  refine tK (.pointer (some ⟨g2, 0 + q * 6 + 1 + 3, none⟩)) ?_
                  try simp only [pA, pB, p1, p2, p3]
                  refine tW (.int .i64 ((1000 * k + q : Nat) : Int)) (exec_load 3 _ rfl ⟨g2, 0 + q * 6 + 1 + 3, none⟩ (by kernel_rfl) (.int .i64 ((1000 * k + q : Nat) : Int)) (load_one (HT.out.newLo HEk.out HFk.out hl2 4 _ rfl) Try.und3 rfl)) ?_
                  try simp only [pA, pB, p1, p2, p3]
                  refine tK (.int .i64 ((k : Nat) : Int)) ?_
                  try simp only [pA, pB, p1, p2, p3]
                  refine tW (.int .i64 ((1000 * k : Nat) : Int)) (exec_bin .mul 3 _ _ _ rfl (.int .i64 1000) (.int .i64 ((k : Nat) : Int)) (.int .i64 ((1000 * k : Nat) : Int)) (by kernel_rfl) (by kernel_rfl) (by kernel_rfl) (b_mulK k (by omega) _)) ?_
                  try simp only [pA, pB, p1, p2, p3]
                  refine tK (.int .i64 ((q : Nat) : Int)) ?_
                  try simp only [pA, pB, p1, p2, p3]
                  refine tW (.int .i64 ((1000 * k + q : Nat) : Int)) (exec_bin .add 3 _ _ _ rfl (.int .i64 ((1000 * k : Nat) : Int)) (.int .i64 ((q : Nat) : Int)) (.int .i64 ((1000 * k + q : Nat) : Int)) (by kernel_rfl) (by kernel_rfl) (by kernel_rfl) (b_addw _ _ _ (by rw [IntKind.wrap_i64]; omega) _)) ?_
                  try simp only [pA, pB, p1, p2, p3]
                  refine tW (.bool false) (exec_bin .neq 3 _ _ _ rfl (.int .i64 ((1000 * k + q : Nat) : Int)) (.int .i64 ((1000 * k + q : Nat) : Int)) (.bool false) (by kernel_rfl) (by kernel_rfl) (by kernel_rfl) (by rw [b_neq, beq_self_eq_true]; rfl)) ?_
                  try simp only [pA, pB, p1, p2, p3]
                  refine tK (.bool false) ?_
                  try simp only [pA, pB, p1, p2, p3]
                  refine WL.nil ?_
                  try simp only [pA, pB, p1, p2, p3]
                  go_wp2
                  go_roundw
                  case rel => exact ⟨q + 1, by omega, by go_num, HT⟩
                  case measure => simp [intOf]; omega
                · have i2 : ¬ (q : Int) < (el : Int) := by omega
                  go_wp2
                  go_loopw [12] (fun j wr => ∃ q : Nat, q ≤ 70 ∧ j = .int .i64 (q : Int) ∧ Hid (Gx.Ph2 Gx.DA w wr base lo (some ⟨rg, 0, none⟩) rc K (some ⟨mg, 0, none⟩) mc M rn)) (fun j _ => 70 - (intOf j).toNat)
                  case atStart => exact ⟨0, Nat.zero_le _, rfl, HT⟩
                  case round =>
                    clear HT
                    obtain ⟨p, hp, rfl, HT⟩ := hrel
                    by_cases hl3 : p < 70
                    · have i3 : (p : Int) < 70 := by omega
                      obtain ⟨g2, hb⟩ := HT.out.smN HEk.out HFk.out
                      simp only at hb
                      subst hb
                      go_upto_region 30 with fail
                      refine WL.start ?_
                      refine tK (.slice (some ⟨mg, 0, none⟩) rn mc) ?_
                      try simp only [pA, pB, p1, p2, p3]
                      refine tK (.int .i64 ((k : Nat) : Int)) ?_
                      try simp only [pA, pB, p1, p2, p3]
                      refine tW (.pointer (some ⟨mg, 0 + k * 1, none⟩)) (exec_ixA 44 1 Gx.u44 Gx.s44 _ _ rfl mg 0 rn mc k (by kernel_rfl) (by kernel_rfl) (by omega)) ?_
                      try simp only [pA, pB, p1, p2, p3]
                      refine tW (.slice (some ⟨g2, 0, none⟩) (el + 70) fc) (exec_load 45 _ rfl ⟨mg, 0 + k * 1, none⟩ (by kernel_rfl) (.slice (some ⟨g2, 0, none⟩) (el + 70) fc) (load_one (HT.out.moreAt HFk.out) Gx.t45 rfl)) ?_
                      try simp only [pA, pB, p1, p2, p3]
                      refine tK (.int .i64 ((el : Nat) : Int)) ?_
                      try simp only [pA, pB, p1, p2, p3]
                      refine tK (.int .i64 ((p : Nat) : Int)) ?_
                      try simp only [pA, pB, p1, p2, p3]
                      refine tW (.int .i64 ((el + p : Nat) : Int)) (exec_bin .add 3 _ _ _ rfl (.int .i64 ((el : Nat) : Int)) (.int .i64 ((p : Nat) : Int)) (.int .i64 ((el + p : Nat) : Int)) (by kernel_rfl) (by kernel_rfl) (by kernel_rfl) (b_addw _ _ _ (by rw [IntKind.wrap_i64]; omega) _)) ?_
                      try simp only [pA, pB, p1, p2, p3]
                      refine tW (.pointer (some ⟨g2, 0 + (el + p) * 6, none⟩)) (exec_ixA 45 6 Gx.u45 Gx.s45 _ _ rfl g2 0 (el + 70) fc (el + p) (by kernel_rfl) (by kernel_rfl) (by omega)) ?_
                      try simp only [pA, pB, p1, p2, p3]
                      refine tK (.pointer (some ⟨g2, 0 + (el + p) * 6, none⟩)) ?_
                      try simp only [pA, pB, p1, p2, p3]
                      refine tW (.int .i64 8) (exec_load 32 _ rfl ⟨g2, 0 + (el + p) * 6, none⟩ (by kernel_rfl) (.int .i64 8) (load_one (HT.out.newHi HEk.out HFk.out hl3 0 _ rfl) Try.und46 rfl)) ?_
                      try simp only [pA, pB, p1, p2, p3]
                      refine tW (.bool false) (exec_bin .neq 32 _ _ _ rfl (.int .i64 8) (.int .i64 8) (.bool false) (by kernel_rfl) (by kernel_rfl) (by kernel_rfl) (by kernel_rfl)) ?_
                      try simp only [pA, pB, p1, p2, p3]
                      refine tK (.bool false) ?_
                      try simp only [pA, pB, p1, p2, p3]
                      refine tK (.slice (some ⟨mg, 0, none⟩) rn mc) ?_
                      try simp only [pA, pB, p1, p2, p3]
                      refine tK (.int .i64 ((k : Nat) : Int)) ?_
                      try simp only [pA, pB, p1, p2, p3]
                      refine tW (.pointer (some ⟨mg, 0 + k * 1, none⟩)) (exec_ixA 44 1 Gx.u44 Gx.s44 _ _ rfl mg 0 rn mc k (by kernel_rfl) (by kernel_rfl) (by omega)) ?_
                      try simp only [pA, pB, p1, p2, p3]
                      refine tW (.slice (some ⟨g2, 0, none⟩) (el + 70) fc) (exec_load 45 _ rfl ⟨mg, 0 + k * 1, none⟩ (by kernel_rfl) (.slice (some ⟨g2, 0, none⟩) (el + 70) fc) (load_one (HT.out.moreAt HFk.out) Gx.t45 rfl)) ?_
                      try simp only [pA, pB, p1, p2, p3]
                      refine tK (.int .i64 ((el : Nat) : Int)) ?_
                      try simp only [pA, pB, p1, p2, p3]
                      refine tK (.int .i64 ((p : Nat) : Int)) ?_
                      try simp only [pA, pB, p1, p2, p3]
                      refine tW (.int .i64 ((el + p : Nat) : Int)) (exec_bin .add 3 _ _ _ rfl (.int .i64 ((el : Nat) : Int)) (.int .i64 ((p : Nat) : Int)) (.int .i64 ((el + p : Nat) : Int)) (by kernel_rfl) (by kernel_rfl) (by kernel_rfl) (b_addw _ _ _ (by rw [IntKind.wrap_i64]; omega) _)) ?_
                      try simp only [pA, pB, p1, p2, p3]
                      refine tW (.pointer (some ⟨g2, 0 + (el + p) * 6, none⟩)) (exec_ixA 45 6 Gx.u45 Gx.s45 _ _ rfl g2 0 (el + 70) fc (el + p) (by kernel_rfl) (by kernel_rfl) (by omega)) ?_
                      try simp only [pA, pB, p1, p2, p3]
                      refine tK (.pointer (some ⟨g2, 0 + (el + p) * 6 + 1, none⟩)) ?_
                      try simp only [pA, pB, p1, p2, p3]
                      refine tK (.pointer (some ⟨g2, 0 + (el + p) * 6 + 1 + 3, none⟩)) ?_
                      try simp only [pA, pB, p1, p2, p3]
                      refine tW (.int .i64 ((1000 * k + p : Nat) : Int)) (exec_load 3 _ rfl ⟨g2, 0 + (el + p) * 6 + 1 + 3, none⟩ (by kernel_rfl) (.int .i64 ((1000 * k + p : Nat) : Int)) (load_one (HT.out.newHi HEk.out HFk.out hl3 4 _ rfl) Try.und3 rfl)) ?_
                      try simp only [pA, pB, p1, p2, p3]
                      refine tK (.int .i64 ((k : Nat) : Int)) ?_
                      try simp only [pA, pB, p1, p2, p3]
                      refine tW (.int .i64 ((1000 * k : Nat) : Int)) (exec_bin .mul 3 _ _ _ rfl (.int .i64 1000) (.int .i64 ((k : Nat) : Int)) (.int .i64 ((1000 * k : Nat) : Int)) (by kernel_rfl) (by kernel_rfl) (by kernel_rfl) (b_mulK k (by omega) _)) ?_
                      try simp only [pA, pB, p1, p2, p3]
                      refine tK (.int .i64 ((p : Nat) : Int)) ?_
                      try simp only [pA, pB, p1, p2, p3]
                      refine tW (.int .i64 ((1000 * k + p : Nat) : Int)) (exec_bin .add 3 _ _ _ rfl (.int .i64 ((1000 * k : Nat) : Int)) (.int .i64 ((p : Nat) : Int)) (.int .i64 ((1000 * k + p : Nat) : Int)) (by kernel_rfl) (by kernel_rfl) (by kernel_rfl) (b_addw _ _ _ (by rw [IntKind.wrap_i64]; omega) _)) ?_
                      try simp only [pA, pB, p1, p2, p3]
                      refine tW (.bool false) (exec_bin .neq 3 _ _ _ rfl (.int .i64 ((1000 * k + p : Nat) : Int)) (.int .i64 ((1000 * k + p : Nat) : Int)) (.bool false) (by kernel_rfl) (by kernel_rfl) (by kernel_rfl) (by rw [b_neq, beq_self_eq_true]; rfl)) ?_
                      try simp only [pA, pB, p1, p2, p3]
                      refine tK (.bool false) ?_
                      try simp only [pA, pB, p1, p2, p3]
                      refine WL.nil ?_
                      try simp only [pA, pB, p1, p2, p3]
                      go_wp2
                      go_roundw
                      case rel => exact ⟨p + 1, by omega, by go_num, HT⟩
                      case measure => simp [intOf]; omega
                    · have i3 : ¬ (p : Int) < 70 := by omega
                      go_wp2
                      go_roundw
                      case rel => exact ⟨k + 1, by omega, by go_num, HT⟩
                      case measure => simp [intOf]; omega
            · have i1 : ¬ (k : Int) < (rn : Int) := by omega
              go_wp2
              go_ret
              exact ⟨rfl, HQ.out.kept⟩

end Go.Proofs.Ytfemlnfknebalab
