import Derived.Test.YtfemlnfknebalabQc
import Derived.StillTailTactics
namespace Go.Proofs.Ytfemlnfknebalab
open Go.RowKit
set_option linter.unusedVariables false
set_option linter.unusedSimpArgs false

set_option maxRecDepth 100000 in
set_option maxHeartbeats 8000000 in
theorem grownLasts_any (ra : Option Addr) (rn rc base lo : Nat) (K : List Sl) (Z : Nat → List La) (w : World) (hR : Gx.Rw Gx.DL w base ra rc K) (hE : Gx.Erow Gx.DL w lo K Z) (hn : K.length = rn) (hm : rn ≤ 1000) (hlo : lo ≤ w.heap.size) (hbase : base ≤ w.heap.size) (hra : ∀ k, At ra k → k < w.heap.size) :
    Calls Try.prog 15 #[.slice ra rn rc] w fun e w' => e = .returned (.bool true) ∧ Kept (Gx.EB K) w w' := by
  have HE : Hid (Gx.Erow Gx.DL w lo K Z) := hE
  have HN : Hid (K.length = rn) := hn
  have HRA : Hid (∀ k, At ra k → k < w.heap.size) := hra
  have HP0 : Hid (Gx.Ph1 Gx.DL w w base lo ra rc K 0) := ⟨hR, Kept.refl _ _, Z, hE, fun q hq => absurd hq (Nat.not_lt_zero _)⟩
  have HLO : Hid (lo ≤ w.heap.size ∧ base ≤ w.heap.size) := ⟨hlo, hbase⟩
  clear hR hE hn hra hlo hbase
  go_enter Try.func15, Try.ntmps15
  go_wp2
  go_loopw [3] (fun i wr => ∃ k : Nat, k ≤ rn ∧ i = .int .i64 (k : Int) ∧ Hid (Gx.Ph1 Gx.DL w wr base lo ra rc K k)) (fun i _ => rn - (intOf i).toNat)
  case atStart => exact ⟨0, Nat.zero_le _, rfl, HP0⟩
  case round =>
    obtain ⟨k, hk, rfl, HP⟩ := hrel
    clear HP0
    by_cases hlt : k < rn
    · have i1 : (k : Int) < (rn : Int) := by omega
      obtain ⟨⟨ea, el, ec⟩, he⟩ : ∃ e, K[k]? = some e := ⟨K[k]'(by rw [HN.out]; exact hlt), by rw [List.getElem?_eq_getElem]⟩
      obtain ⟨rg, rfl, -⟩ := HP.out.row.at he
      have HEk : Hid (K[k]? = some ⟨ea, el, ec⟩) := he
      have hel : (el : Int) ≤ 1000000 := by have := (HE.out.ok k _ he).2.2; simp only at this; omega
      clear he
      go_wp2
      go_loopw [4] (fun j wr => ∃ q : Nat, q ≤ el ∧ j = .int .i64 (q : Int) ∧ Hid (Gx.Ph1j Gx.DL w wr base lo (some ⟨rg, 0, none⟩) rc K k q)) (fun j _ => el - (intOf j).toNat)
      case atStart => exact ⟨0, Nat.zero_le _, rfl, HP.out.inner⟩
      case round =>
        obtain ⟨q, hq, rfl, HQ⟩ := hrel
        clear HP
        have hcr := HQ.out.rowAt0 HEk.out
        unfold Sl.v at hcr
        simp only at hcr
        by_cases hl2 : q < el
        · have i2 : (q : Int) < (el : Int) := by omega
          obtain ⟨g, ha⟩ := HQ.out.sm HEk.out hl2
          simp only at ha
          subst ha
          go_upto_region 7 with fail
          refine WL.start ?_
          refine tK (.slice (some ⟨rg, 0, none⟩) rn rc) ?_
          try simp only [pA, pB, p1, p2, p3]
          refine tK (.int .i64 ((k : Nat) : Int)) ?_
          try simp only [pA, pB, p1, p2, p3]
          refine tW (.pointer (some ⟨rg, 0 + k * 1, none⟩)) (exec_ixA 43 1 Gx.u43 Gx.s43 _ _ rfl rg 0 rn rc k (by kernel_rfl) (by kernel_rfl) (by omega)) ?_
          try simp only [pA, pB, p1, p2, p3]
          refine tW (.slice (some ⟨g, 0, none⟩) el ec) (exec_load 24 _ rfl ⟨rg, 0 + k * 1, none⟩ (by kernel_rfl) (.slice (some ⟨g, 0, none⟩) el ec) (load_one (HQ.out.rowAt HEk.out) Gx.t24 rfl)) ?_
          try simp only [pA, pB, p1, p2, p3]
          refine tK (.int .i64 ((q : Nat) : Int)) ?_
          try simp only [pA, pB, p1, p2, p3]
          refine tK (.int .i64 ((k : Nat) : Int)) ?_
          try simp only [pA, pB, p1, p2, p3]
          refine tW (.int .i64 ((1000 * k : Nat) : Int)) (exec_bin .mul 3 _ _ _ rfl (.int .i64 1000) (.int .i64 ((k : Nat) : Int)) (.int .i64 ((1000 * k : Nat) : Int)) (by kernel_rfl) (by kernel_rfl) (by kernel_rfl) (b_mulK k (by omega) _)) ?_
          try simp only [pA, pB, p1, p2, p3]
          refine tK (.int .i64 ((q : Nat) : Int)) ?_
          try simp only [pA, pB, p1, p2, p3]
          refine tW (.int .i64 ((1000 * k + q : Nat) : Int)) (exec_bin .add 3 _ _ _ rfl (.int .i64 ((1000 * k : Nat) : Int)) (.int .i64 ((q : Nat) : Int)) (.int .i64 ((1000 * k + q : Nat) : Int)) (by kernel_rfl) (by kernel_rfl) (by kernel_rfl) (b_addw _ _ _ (by rw [IntKind.wrap_i64]; omega) _)) ?_
          try simp only [pA, pB, p1, p2, p3]
          refine tW (.agg (La.cells ⟨7, ((1000 * k + q : Nat) : Int), 0, 0, 0, 0, 0⟩)) (exec_build 67 _ rfl (La.cells ⟨7, ((1000 * k + q : Nat) : Int), 0, 0, 0, 0, 0⟩) (by kernel_rfl)) ?_
          try simp only [pA, pB, p1, p2, p3]
          refine tW (.pointer (some ⟨g, 0 + q * 7, none⟩)) (exec_ixA 24 7 Gx.u24 Gx.s24 _ _ rfl g 0 el ec q (by kernel_rfl) (by kernel_rfl) (by omega)) ?_
          try simp only [pA, pB, p1, p2, p3]
          obtain ⟨cs9, hrun9, hQ9⟩ := HQ.out.set HEk.out hl2 rfl (v := .agg (La.cells ⟨7, ((1000 * k + q : Nat) : Int), 0, 0, 0, 0, 0⟩)) rfl Gx.z67 (La.oneL _)
          refine wp_storeW 67 _ _ rfl ⟨g, 0 + q * 7, none⟩ (.agg (La.cells ⟨7, ((1000 * k + q : Nat) : Int), 0, 0, 0, 0, 0⟩)) (by kernel_rfl) (by kernel_rfl) (wr.setRow g cs9) hrun9 (by kernel_rfl) ?_
          try simp only [pA, pB, p1, p2, p3]
          have HS : Hid (Gx.Ph1j Gx.DL w (wr.setRow g cs9) base lo (some ⟨rg, 0, none⟩) rc K k (q + 1)) := hQ9
          clear hrun9 hQ9 HQ
          generalize wr.setRow g cs9 = w9 at HS ⊢
          refine WL.nil ?_
          try simp only [pA, pB, p1, p2, p3]
          go_wp2
          go_roundw
          case rel => exact ⟨q + 1, by omega, by go_num, HS⟩
          case measure => simp [intOf]; omega
        · have i2 : ¬ (q : Int) < (el : Int) := by omega
          obtain rfl : q = el := by omega
          have HS : Hid (Gx.Ph1 Gx.DL w wr base lo (some ⟨rg, 0, none⟩) rc K (k + 1)) := HQ.out.outer HEk.out
          clear HQ
          go_wp2
          go_roundw
          case rel => exact ⟨k + 1, by omega, by go_num, HS⟩
          case measure => simp [intOf]; omega
    · have i1 : ¬ (k : Int) < (rn : Int) := by omega
      obtain rfl : rn = k := by omega
      have HG0 : Hid (Gx.Ph2 Gx.DL w wr base lo ra rc K none 0 [] 0) := HP.out.grow HN.out
      clear HP
      go_wp2
      go_loopw [5, 6] (fun m i wr => ∃ (k : Nat) (ma : Option Addr) (mc : Nat) (M : List Sl), k ≤ rn ∧ i = .int .i64 (k : Int) ∧ m = .slice ma k mc ∧ Hid (Gx.Ph2 Gx.DL w wr base lo ra rc K ma mc M k)) (fun _ i _ => rn - (intOf i).toNat)
      case atStart => exact ⟨0, none, 0, [], Nat.zero_le _, rfl, rfl, HG0⟩
      case round =>
        obtain ⟨k, ma, mc, M, hk, rfl, rfl, HP⟩ := hrel
        clear HG0
        by_cases hlt : k < rn
        · have i1 : (k : Int) < (rn : Int) := by omega
          obtain ⟨⟨ea, el, ec⟩, he⟩ : ∃ e, K[k]? = some e := ⟨K[k]'(by rw [HN.out]; exact hlt), by rw [List.getElem?_eq_getElem]⟩
          obtain ⟨rg, rfl, -⟩ := HP.out.row.at he
          have hcr := HP.out.rowAt0 he
          unfold Sl.v at hcr
          simp only at hcr
          have HEk : Hid (K[k]? = some ⟨ea, el, ec⟩) := he
          have hel : (el : Int) ≤ 1000000 := by have := (HE.out.ok k _ he).2.2; simp only at this; omega
          have HO : Hid (Gx.OwG Gx.DL wr lo ea ec (Gx.marksOf Gx.DL k el)) := HP.out.olds k _ he
          clear he
          obtain ⟨wi, rfl⟩ : ∃ wi : World, wi = wr := ⟨_, rfl⟩
          go_wp2
          go_loopw [7, 8] (fun v j wj => ∃ (q : Nat) (ax : Option Addr) (cx : Nat), q ≤ 70 ∧ j = .int .i64 (q : Int) ∧ v = .slice ax (el + q) cx ∧ Hid (Gx.Gr Gx.DL wi wj lo ⟨ea, el, ec⟩ (Gx.marksOf Gx.DL k el) (Gx.growsOf Gx.DL k q) ax cx)) (fun _ j _ => 70 - (intOf j).toNat)
          case atStart => exact ⟨0, ea, ec, Nat.zero_le _, rfl, rfl, Gx.Gr.start (e := ⟨ea, el, ec⟩) HO.out⟩
          case round =>
            obtain ⟨q, ax, cx, hq, rfl, rfl, HG⟩ := hrel
            by_cases hl2 : q < 70
            · have i2 : (q : Int) < 70 := by omega
              have HWS : Hid (lo ≤ wr.heap.size) := by have h1 := HLO.out.1; have h2 := (HP.out.kept).size; have h3 := HG.out.kept.size; show _ ≤ _; omega
              go_upto_region 16 with fail
              refine WL.start ?_
              refine tK (.slice ax (el + q) cx) ?_
              try simp only [pA, pB, p1, p2, p3]
              refine tK (.int .i64 ((k : Nat) : Int)) ?_
              try simp only [pA, pB, p1, p2, p3]
              refine tW (.int .i64 ((1000 * k : Nat) : Int)) (exec_bin .mul 3 _ _ _ rfl (.int .i64 1000) (.int .i64 ((k : Nat) : Int)) (.int .i64 ((1000 * k : Nat) : Int)) (by kernel_rfl) (by kernel_rfl) (by kernel_rfl) (b_mulK k (by omega) _)) ?_
              try simp only [pA, pB, p1, p2, p3]
              refine tK (.int .i64 ((q : Nat) : Int)) ?_
              try simp only [pA, pB, p1, p2, p3]
              refine tW (.int .i64 ((1000 * k + q : Nat) : Int)) (exec_bin .add 3 _ _ _ rfl (.int .i64 ((1000 * k : Nat) : Int)) (.int .i64 ((q : Nat) : Int)) (.int .i64 ((1000 * k + q : Nat) : Int)) (by kernel_rfl) (by kernel_rfl) (by kernel_rfl) (b_addw _ _ _ (by rw [IntKind.wrap_i64]; omega) _)) ?_
              try simp only [pA, pB, p1, p2, p3]
              refine tW (.agg (La.cells ⟨8, ((1000 * k + q : Nat) : Int), 0, 0, 0, 0, 0⟩)) (exec_build 67 _ rfl (La.cells ⟨8, ((1000 * k + q : Nat) : Int), 0, 0, 0, 0, 0⟩) (by kernel_rfl)) ?_
              try simp only [pA, pB, p1, p2, p3]
              refine wp_runW (.slice (some ⟨wr.heap.size, 0, none⟩) 1 1) (wr.alloc (.cells (La.cells ⟨8, ((1000 * k + q : Nat) : Int), 0, 0, 0, 0, 0⟩) 67)) (exec_slice2 24 67 _ rfl (La.cells ⟨8, ((1000 * k + q : Nat) : Int), 0, 0, 0, 0, 0⟩) (.agg (La.cells ⟨8, ((1000 * k + q : Nat) : Int), 0, 0, 0, 0, 0⟩)) (by kernel_rfl) (by kernel_rfl)) (by kernel_rfl) ?_
              try simp only [pA, pB, p1, p2, p3]
              obtain ⟨a4, c4, w4, hrun4, hG4⟩ := HG.out.app ((Gx.DL.mr k q)) (el + q) (Gx.gr_len2 k el q) (by' := 56) Gx.t24 Try.info64 rfl (La.oneL _) (by omega) (by omega) HWS.out
              refine wp_runW (.slice a4 (el + q + 1) c4) w4 (exec_appN _ _ 24 24 rfl (.slice ax (el + q) cx) (.slice (some ⟨wr.heap.size, 0, none⟩) 1 1) (by kernel_rfl) (by kernel_rfl) hrun4) (by kernel_rfl) ?_
              try simp only [pA, pB, p1, p2, p3]
              refine tK (.slice a4 (el + q + 1) c4) ?_
              try simp only [pA, pB, p1, p2, p3]
              refine WL.nil ?_
              try simp only [pA, pB, p1, p2, p3]
              have HG4 : Hid (Gx.Gr Gx.DL wi w4 lo ⟨ea, el, ec⟩ (Gx.marksOf Gx.DL k el) (Gx.growsOf Gx.DL k (q + 1)) a4 c4) := by
                rw [Gx.growsOf_succ]
                exact hG4
              clear HG hG4 hrun4 HWS
              go_wp2
              go_roundw
              case rel => exact ⟨q + 1, a4, c4, by omega, by go_num, rfl, HG4⟩
              case measure => simp [intOf]; omega
            · have i2 : ¬ (q : Int) < 70 := by omega
              obtain rfl : q = 70 := by omega
              have HD : Hid (Gx.Ph2 Gx.DL w wr base lo (some ⟨rg, 0, none⟩) rc K ma mc M k ∧ Gx.OwG Gx.DL wr lo ax cx (Gx.marksOf Gx.DL k el ++ Gx.growsOf Gx.DL k 70) ∧ (ax = ea ∨ ∀ k, At ax k → w.heap.size ≤ k)) := HP.out.grown HE.out HEk.out HG.out
              clear HG HO HP
              go_upto_region 17 with fail
              refine WL.start ?_
              refine tK (.slice ma k mc) ?_
              try simp only [pA, pB, p1, p2, p3]
              refine tK (.slice ax (el + 70) cx) ?_
              try simp only [pA, pB, p1, p2, p3]
              refine wp_runW (.slice (some ⟨wr.heap.size, 0, none⟩) 1 1) (wr.alloc (.cells (#[.slice ax (el + 70) cx]) 24)) (exec_slice2 43 24 _ rfl (#[.slice ax (el + 70) cx]) (.slice ax (el + 70) cx) (by kernel_rfl) (by kernel_rfl)) (by kernel_rfl) ?_
              try simp only [pA, pB, p1, p2, p3]
              obtain ⟨a4, c4, w4, hrun4, hP4⟩ := HD.out.1.app HEk.out (f := ⟨ax, el + 70, cx⟩) rfl HD.out.2.1 HD.out.2.2 HRA.out 43 Gx.u43x Gx.i24 (by omega)
              refine wp_runW (.slice a4 (k + 1) c4) w4 (exec_appN _ _ 43 43 rfl (.slice ma k mc) (.slice (some ⟨wr.heap.size, 0, none⟩) 1 1) (by kernel_rfl) (by kernel_rfl) hrun4) (by kernel_rfl) ?_
              try simp only [pA, pB, p1, p2, p3]
              refine tK (.slice a4 (k + 1) c4) ?_
              try simp only [pA, pB, p1, p2, p3]
              refine WL.nil ?_
              try simp only [pA, pB, p1, p2, p3]
              have HP4 : Hid (Gx.Ph2 Gx.DL w w4 base lo (some ⟨rg, 0, none⟩) rc K a4 c4 (M ++ [⟨ax, el + 70, cx⟩]) (k + 1)) := hP4
              clear HD hP4 hrun4
              go_wp2
              go_roundw
              case rel => exact ⟨k + 1, a4, c4, _, by omega, by go_num, rfl, HP4⟩
              case measure => simp [intOf]; omega
        · have i1 : ¬ (k : Int) < (rn : Int) := by omega
          obtain rfl : rn = k := by omega
          go_wp2
          go_loopw [9] (fun i wr => ∃ k : Nat, k ≤ rn ∧ i = .int .i64 (k : Int) ∧ Hid (Gx.Ph2 Gx.DL w wr base lo ra rc K ma mc M rn)) (fun i _ => rn - (intOf i).toNat)
          case atStart => exact ⟨0, Nat.zero_le _, rfl, HP⟩
          case round =>
            obtain ⟨k, hk, rfl, HQ⟩ := hrel
            clear HP hlt i1
            by_cases hlt : k < rn
            · have i1 : (k : Int) < (rn : Int) := by omega
              obtain ⟨⟨ea, el, ec⟩, he⟩ : ∃ e, K[k]? = some e := ⟨K[k]'(by rw [HN.out]; exact hlt), by rw [List.getElem?_eq_getElem]⟩
              obtain ⟨⟨fa, fl, fc⟩, hf⟩ : ∃ e, M[k]? = some e := ⟨M[k]'(by rw [HQ.out.len]; exact hlt), by rw [List.getElem?_eq_getElem]⟩
              obtain ⟨rg, rfl, -⟩ := HQ.out.row.at he
              obtain ⟨mg, rfl, -⟩ := HQ.out.more.at hf
              have hcr := HQ.out.rowAt0 he
              unfold Sl.v at hcr
              simp only at hcr
              have HEk : Hid (K[k]? = some ⟨ea, el, ec⟩) := he
              obtain rfl : fl = el + 70 := (HQ.out.news k _ _ he hf).1
              have HFk : Hid (M[k]? = some ⟨fa, el + 70, fc⟩) := hf
              have hel : (el : Int) ≤ 1000000 := by have := (HE.out.ok k _ he).2.2; simp only at this; omega
              clear he hf
              go_wp2
              go_loopw [11] (fun j wr => ∃ q : Nat, q ≤ el ∧ j = .int .i64 (q : Int) ∧ Hid (Gx.Ph2 Gx.DL w wr base lo (some ⟨rg, 0, none⟩) rc K (some ⟨mg, 0, none⟩) mc M rn)) (fun j _ => el - (intOf j).toNat)
              case atStart => exact ⟨0, Nat.zero_le _, rfl, HQ⟩
              case round =>
                obtain ⟨q, hq, rfl, HT⟩ := hrel
                clear HQ hcr
                by_cases hl2 : q < el
                · have i2 : (q : Int) < (el : Int) := by omega
                  obtain ⟨g, ha⟩ := HT.out.smO HEk.out (Nat.lt_of_le_of_lt (Nat.zero_le _) hl2)
                  obtain ⟨g2, hb⟩ := HT.out.smN HEk.out HFk.out
                  simp only at ha hb
                  subst ha
                  subst hb
                  go_upto_region 25 with fail
                  refine wp_region_held_drew (S := fun w' => Gx.Ph2 Gx.DL w w' base lo (some ⟨rg, 0, none⟩) rc K (some ⟨mg, 0, none⟩) mc M rn) rfl (HT.out.no (Kept.refl No _).drew) (fun hH => ?_)
                  have HT : Hid (Gx.Ph2 Gx.DL w wr.drew base lo (some ⟨rg, 0, none⟩) rc K (some ⟨mg, 0, none⟩) mc M rn) := HT.out.no (Kept.refl No _).drew
                  generalize wr.drew = wk1 at HT hH ⊢
                  refine aT (i := 0) (oi := { dst := some 81, op := Op.move (Operand.tmp 0), type := 43, pos := "own.go:59", after := #[], guard := none }) (v := .slice (some ⟨rg, 0, none⟩) rn rc) (fun _ _ => by kernel_rfl) hH ?_
                  try simp only [pA, pB, p1, p2, p3]
                  refine aT (i := 1) (oi := { dst := some 82, op := Op.move (Operand.tmp 9), type := 3, pos := "own.go:59", after := #[], guard := none }) (v := .int .i64 ((k : Nat) : Int)) (fun _ _ => by kernel_rfl) hH ?_
                  try simp only [pA, pB, p1, p2, p3]
                  refine aT (i := 2) (oi := { dst := some 83, op := Op.indexAddr 43 (Operand.tmp 81) (Operand.tmp 82), type := 0, pos := "own.go:59", after := #[{ on := 0, ground := Ground.data }, { on := 1, ground := Ground.data }], guard := none }) (v := .pointer (some ⟨rg, 0 + k * 1, none⟩)) (fun w' hw => exec_ixA 43 1 Gx.u43 Gx.s43 _ _ rfl rg 0 rn rc k (by kernel_rfl) (by kernel_rfl) (by omega)) hH ?_
                  try simp only [pA, pB, p1, p2, p3]
                  refine aT (i := 3) (oi := { dst := some 84, op := Op.load 24 (Operand.tmp 83), type := 24, pos := "own.go:59", after := #[{ on := 2, ground := Ground.data }], guard := none }) (v := .slice (some ⟨g, 0, none⟩) el ec) (fun w' hw => exec_load 24 _ rfl ⟨rg, 0 + k * 1, none⟩ (by kernel_rfl) (.slice (some ⟨g, 0, none⟩) el ec) (load_one (hw.rowAt HEk.out) Gx.t24 rfl)) hH ?_
                  try simp only [pA, pB, p1, p2, p3]
                  refine aT (i := 4) (oi := { dst := some 85, op := Op.move (Operand.tmp 11), type := 3, pos := "own.go:59", after := #[], guard := none }) (v := .int .i64 ((q : Nat) : Int)) (fun _ _ => by kernel_rfl) hH ?_
                  try simp only [pA, pB, p1, p2, p3]
                  refine aT (i := 5) (oi := { dst := some 86, op := Op.indexAddr 24 (Operand.tmp 84) (Operand.tmp 85), type := 0, pos := "own.go:59", after := #[{ on := 3, ground := Ground.data }, { on := 4, ground := Ground.data }], guard := none }) (v := .pointer (some ⟨g, 0 + q * 7, none⟩)) (fun w' hw => exec_ixA 24 7 Gx.u24 Gx.s24 _ _ rfl g 0 el ec q (by kernel_rfl) (by kernel_rfl) (by omega)) hH ?_
                  try simp only [pA, pB, p1, p2, p3]
                  refine aT (i := 6) (oi := { dst := some 87, op := Op.load 67 (Operand.tmp 86), type := 67, pos := "own.go:59", after := #[{ on := 5, ground := Ground.data }], guard := none }) (v := .agg (La.cells ⟨7, ((1000 * k + q : Nat) : Int), 0, 0, 0, 0, 0⟩)) (fun w' hw => exec_load 67 _ rfl ⟨g, 0 + q * 7, none⟩ (by kernel_rfl) (.agg (La.cells ⟨7, ((1000 * k + q : Nat) : Int), 0, 0, 0, 0, 0⟩)) (load_L (hw.oldAt HEk.out hl2))) hH ?_
                  try simp only [pA, pB, p1, p2, p3]
                  refine aT (i := 7) (oi := { dst := some 88, op := Op.move (Operand.tmp 9), type := 3, pos := "own.go:59", after := #[], guard := none }) (v := .int .i64 ((k : Nat) : Int)) (fun _ _ => by kernel_rfl) hH ?_
                  try simp only [pA, pB, p1, p2, p3]
                  refine aT (i := 8) (oi := { dst := some 89, op := Op.binOp BinOp.mul 3 (Operand.const (Value.int IntKind.i64 1000)) (Operand.tmp 88) 3, type := 3, pos := "own.go:59", after := #[{ on := 7, ground := Ground.data }], guard := none }) (v := .int .i64 ((1000 * k : Nat) : Int)) (fun w' hw => exec_bin .mul 3 _ _ _ rfl (.int .i64 1000) (.int .i64 ((k : Nat) : Int)) (.int .i64 ((1000 * k : Nat) : Int)) (by kernel_rfl) (by kernel_rfl) (by kernel_rfl) (b_mulK k (by omega) _)) hH ?_
                  try simp only [pA, pB, p1, p2, p3]
                  refine aT (i := 9) (oi := { dst := some 90, op := Op.move (Operand.tmp 11), type := 3, pos := "own.go:59", after := #[], guard := none }) (v := .int .i64 ((q : Nat) : Int)) (fun _ _ => by kernel_rfl) hH ?_
                  try simp only [pA, pB, p1, p2, p3]
                  refine aT (i := 10) (oi := { dst := some 91, op := Op.binOp BinOp.add 3 (Operand.tmp 89) (Operand.tmp 90) 3, type := 3, pos := "own.go:59", after := #[{ on := 8, ground := Ground.data }, { on := 9, ground := Ground.data }], guard := none }) (v := .int .i64 ((1000 * k + q : Nat) : Int)) (fun w' hw => exec_bin .add 3 _ _ _ rfl (.int .i64 ((1000 * k : Nat) : Int)) (.int .i64 ((q : Nat) : Int)) (.int .i64 ((1000 * k + q : Nat) : Int)) (by kernel_rfl) (by kernel_rfl) (by kernel_rfl) (b_addw _ _ _ (by rw [IntKind.wrap_i64]; omega) _)) hH ?_
                  try simp only [pA, pB, p1, p2, p3]
                  refine aT (i := 11) (oi := { dst := some 92, op := Op.build 67 #[(0, Operand.const (Value.int IntKind.i64 7)), (1, Operand.tmp 91)], type := 67, pos := "own.go:59", after := #[{ on := 10, ground := Ground.data }], guard := none }) (v := .agg (La.cells ⟨7, ((1000 * k + q : Nat) : Int), 0, 0, 0, 0, 0⟩)) (fun w' hw => exec_build 67 _ rfl (La.cells ⟨7, ((1000 * k + q : Nat) : Int), 0, 0, 0, 0, 0⟩) (by kernel_rfl)) hH ?_
                  try simp only [pA, pB, p1, p2, p3]
                  refine aT (i := 12) (oi := { dst := some 93, op := Op.binOp BinOp.neq 67 (Operand.tmp 87) (Operand.tmp 92) 67, type := 4, pos := "own.go:59", after := #[{ on := 6, ground := Ground.data }, { on := 11, ground := Ground.data }], guard := none }) (v := .bool false) (fun w' hw => exec_bin .neq 67 _ _ _ rfl (.agg (La.cells ⟨7, ((1000 * k + q : Nat) : Int), 0, 0, 0, 0, 0⟩)) (.agg (La.cells ⟨7, ((1000 * k + q : Nat) : Int), 0, 0, 0, 0, 0⟩)) (.bool false) (by kernel_rfl) (by kernel_rfl) (by kernel_rfl) (by rw [eqL_neq, eqL_refl]; rfl)) hH ?_
                  try simp only [pA, pB, p1, p2, p3]
                  refine aT (i := 13) (oi := { dst := some 94, op := Op.move (Operand.tmp 93), type := 4, pos := "own.go:59", after := #[{ on := 12, ground := Ground.data }], guard := none }) (v := .bool false) (fun _ _ => by kernel_rfl) hH ?_
                  try simp only [pA, pB, p1, p2, p3]
                  refine aT (i := 14) (oi := { dst := some 95, op := Op.move (Operand.tmp 5), type := 43, pos := "own.go:59", after := #[{ on := 13, ground := Ground.guard }], guard := some (13, false) }) (v := .slice (some ⟨mg, 0, none⟩) rn mc) (fun _ _ => by kernel_rfl) hH ?_
                  try simp only [pA, pB, p1, p2, p3]
                  refine aT (i := 15) (oi := { dst := some 96, op := Op.move (Operand.tmp 9), type := 3, pos := "own.go:59", after := #[{ on := 13, ground := Ground.guard }], guard := some (13, false) }) (v := .int .i64 ((k : Nat) : Int)) (fun _ _ => by kernel_rfl) hH ?_
                  try simp only [pA, pB, p1, p2, p3]
                  refine aT (i := 16) (oi := { dst := some 97, op := Op.indexAddr 43 (Operand.tmp 95) (Operand.tmp 96), type := 0, pos := "own.go:59", after := #[{ on := 14, ground := Ground.data }, { on := 15, ground := Ground.data }, { on := 13, ground := Ground.guard }], guard := some (13, false) }) (v := .pointer (some ⟨mg, 0 + k * 1, none⟩)) (fun w' hw => exec_ixA 43 1 Gx.u43 Gx.s43 _ _ rfl mg 0 rn mc k (by kernel_rfl) (by kernel_rfl) (by omega)) hH ?_
                  try simp only [pA, pB, p1, p2, p3]
                  refine aT (i := 17) (oi := { dst := some 98, op := Op.load 24 (Operand.tmp 97), type := 24, pos := "own.go:59", after := #[{ on := 16, ground := Ground.data }, { on := 13, ground := Ground.guard }], guard := some (13, false) }) (v := .slice (some ⟨g2, 0, none⟩) (el + 70) fc) (fun w' hw => exec_load 24 _ rfl ⟨mg, 0 + k * 1, none⟩ (by kernel_rfl) (.slice (some ⟨g2, 0, none⟩) (el + 70) fc) (load_one (hw.moreAt HFk.out) Gx.t24 rfl)) hH ?_
                  try simp only [pA, pB, p1, p2, p3]
                  refine aT (i := 18) (oi := { dst := some 99, op := Op.move (Operand.tmp 11), type := 3, pos := "own.go:59", after := #[{ on := 13, ground := Ground.guard }], guard := some (13, false) }) (v := .int .i64 ((q : Nat) : Int)) (fun _ _ => by kernel_rfl) hH ?_
                  try simp only [pA, pB, p1, p2, p3]
                  refine aT (i := 19) (oi := { dst := some 100, op := Op.indexAddr 24 (Operand.tmp 98) (Operand.tmp 99), type := 0, pos := "own.go:59", after := #[{ on := 17, ground := Ground.data }, { on := 18, ground := Ground.data }, { on := 13, ground := Ground.guard }], guard := some (13, false) }) (v := .pointer (some ⟨g2, 0 + q * 7, none⟩)) (fun w' hw => exec_ixA 24 7 Gx.u24 Gx.s24 _ _ rfl g2 0 (el + 70) fc q (by kernel_rfl) (by kernel_rfl) (by omega)) hH ?_
                  try simp only [pA, pB, p1, p2, p3]
                  refine aT (i := 20) (oi := { dst := some 101, op := Op.load 67 (Operand.tmp 100), type := 67, pos := "own.go:59", after := #[{ on := 19, ground := Ground.data }, { on := 13, ground := Ground.guard }], guard := some (13, false) }) (v := .agg (La.cells ⟨7, ((1000 * k + q : Nat) : Int), 0, 0, 0, 0, 0⟩)) (fun w' hw => exec_load 67 _ rfl ⟨g2, 0 + q * 7, none⟩ (by kernel_rfl) (.agg (La.cells ⟨7, ((1000 * k + q : Nat) : Int), 0, 0, 0, 0, 0⟩)) (load_L (hw.newLo HEk.out HFk.out hl2))) hH ?_
                  try simp only [pA, pB, p1, p2, p3]
                  refine aT (i := 21) (oi := { dst := some 102, op := Op.move (Operand.tmp 0), type := 43, pos := "own.go:59", after := #[{ on := 13, ground := Ground.guard }], guard := some (13, false) }) (v := .slice (some ⟨rg, 0, none⟩) rn rc) (fun _ _ => by kernel_rfl) hH ?_
                  try simp only [pA, pB, p1, p2, p3]
                  refine aT (i := 22) (oi := { dst := some 103, op := Op.move (Operand.tmp 9), type := 3, pos := "own.go:59", after := #[{ on := 13, ground := Ground.guard }], guard := some (13, false) }) (v := .int .i64 ((k : Nat) : Int)) (fun _ _ => by kernel_rfl) hH ?_
                  try simp only [pA, pB, p1, p2, p3]
                  refine aT (i := 23) (oi := { dst := some 104, op := Op.indexAddr 43 (Operand.tmp 102) (Operand.tmp 103), type := 0, pos := "own.go:59", after := #[{ on := 21, ground := Ground.data }, { on := 22, ground := Ground.data }, { on := 13, ground := Ground.guard }], guard := some (13, false) }) (v := .pointer (some ⟨rg, 0 + k * 1, none⟩)) (fun w' hw => exec_ixA 43 1 Gx.u43 Gx.s43 _ _ rfl rg 0 rn rc k (by kernel_rfl) (by kernel_rfl) (by omega)) hH ?_
                  try simp only [pA, pB, p1, p2, p3]
                  refine aT (i := 24) (oi := { dst := some 105, op := Op.load 24 (Operand.tmp 104), type := 24, pos := "own.go:59", after := #[{ on := 23, ground := Ground.data }, { on := 13, ground := Ground.guard }], guard := some (13, false) }) (v := .slice (some ⟨g, 0, none⟩) el ec) (fun w' hw => exec_load 24 _ rfl ⟨rg, 0 + k * 1, none⟩ (by kernel_rfl) (.slice (some ⟨g, 0, none⟩) el ec) (load_one (hw.rowAt HEk.out) Gx.t24 rfl)) hH ?_
                  try simp only [pA, pB, p1, p2, p3]
                  refine aT (i := 25) (oi := { dst := some 106, op := Op.move (Operand.tmp 11), type := 3, pos := "own.go:59", after := #[{ on := 13, ground := Ground.guard }], guard := some (13, false) }) (v := .int .i64 ((q : Nat) : Int)) (fun _ _ => by kernel_rfl) hH ?_
                  try simp only [pA, pB, p1, p2, p3]
                  refine aT (i := 26) (oi := { dst := some 107, op := Op.indexAddr 24 (Operand.tmp 105) (Operand.tmp 106), type := 0, pos := "own.go:59", after := #[{ on := 24, ground := Ground.data }, { on := 25, ground := Ground.data }, { on := 13, ground := Ground.guard }], guard := some (13, false) }) (v := .pointer (some ⟨g, 0 + q * 7, none⟩)) (fun w' hw => exec_ixA 24 7 Gx.u24 Gx.s24 _ _ rfl g 0 el ec q (by kernel_rfl) (by kernel_rfl) (by omega)) hH ?_
                  try simp only [pA, pB, p1, p2, p3]
                  refine aT (i := 27) (oi := { dst := some 108, op := Op.load 67 (Operand.tmp 107), type := 67, pos := "own.go:59", after := #[{ on := 26, ground := Ground.data }, { on := 13, ground := Ground.guard }], guard := some (13, false) }) (v := .agg (La.cells ⟨7, ((1000 * k + q : Nat) : Int), 0, 0, 0, 0, 0⟩)) (fun w' hw => exec_load 67 _ rfl ⟨g, 0 + q * 7, none⟩ (by kernel_rfl) (.agg (La.cells ⟨7, ((1000 * k + q : Nat) : Int), 0, 0, 0, 0, 0⟩)) (load_L (hw.oldAt HEk.out hl2))) hH ?_
                  try simp only [pA, pB, p1, p2, p3]
                  refine aT (i := 28) (oi := { dst := some 109, op := Op.binOp BinOp.neq 67 (Operand.tmp 101) (Operand.tmp 108) 67, type := 4, pos := "own.go:59", after := #[{ on := 20, ground := Ground.data }, { on := 27, ground := Ground.data }, { on := 13, ground := Ground.guard }], guard := some (13, false) }) (v := .bool false) (fun w' hw => exec_bin .neq 67 _ _ _ rfl (.agg (La.cells ⟨7, ((1000 * k + q : Nat) : Int), 0, 0, 0, 0, 0⟩)) (.agg (La.cells ⟨7, ((1000 * k + q : Nat) : Int), 0, 0, 0, 0, 0⟩)) (.bool false) (by kernel_rfl) (by kernel_rfl) (by kernel_rfl) (by rw [eqL_neq, eqL_refl]; rfl)) hH ?_
                  try simp only [pA, pB, p1, p2, p3]
                  refine aT (i := 29) (oi := { dst := some 110, op := Op.pick (Operand.tmp 94) (Operand.const (Value.bool true)) (Operand.tmp 109), type := 4, pos := "own.go:59", after := #[{ on := 13, ground := Ground.data }, { on := 28, ground := Ground.data }], guard := none }) (v := .bool false) (fun _ _ => by kernel_rfl) hH ?_
                  try simp only [pA, pB, p1, p2, p3]
                  refine wpAnyH_done (by kernel_rfl) ?_ _
                  try simp only [pA, pB, p1, p2, p3]
                  clear hH
                  go_wp2
                  go_roundw
                  case rel => exact ⟨q + 1, by omega, by go_num, HT⟩
                  case measure => simp [intOf]; omega
                · have i2 : ¬ (q : Int) < (el : Int) := by omega
                  go_wp2
                  go_loopw [12] (fun j wr => ∃ q : Nat, q ≤ 70 ∧ j = .int .i64 (q : Int) ∧ Hid (Gx.Ph2 Gx.DL w wr base lo (some ⟨rg, 0, none⟩) rc K (some ⟨mg, 0, none⟩) mc M rn)) (fun j _ => 70 - (intOf j).toNat)
                  case atStart => exact ⟨0, Nat.zero_le _, rfl, HT⟩
                  case round =>
                    clear HT
                    obtain ⟨p, hp, rfl, HT⟩ := hrel
                    by_cases hl3 : p < 70
                    · have i3 : (p : Int) < 70 := by omega
                      obtain ⟨g2, hb⟩ := HT.out.smN HEk.out HFk.out
                      simp only at hb
                      subst hb
                      go_upto_region 30 with fail
                      refine WL.start ?_
                      refine tK (.slice (some ⟨mg, 0, none⟩) rn mc) ?_
                      try simp only [pA, pB, p1, p2, p3]
                      refine tK (.int .i64 ((k : Nat) : Int)) ?_
                      try simp only [pA, pB, p1, p2, p3]
                      refine tW (.pointer (some ⟨mg, 0 + k * 1, none⟩)) (exec_ixA 43 1 Gx.u43 Gx.s43 _ _ rfl mg 0 rn mc k (by kernel_rfl) (by kernel_rfl) (by omega)) ?_
                      try simp only [pA, pB, p1, p2, p3]
                      refine tW (.slice (some ⟨g2, 0, none⟩) (el + 70) fc) (exec_load 24 _ rfl ⟨mg, 0 + k * 1, none⟩ (by kernel_rfl) (.slice (some ⟨g2, 0, none⟩) (el + 70) fc) (load_one (HT.out.moreAt HFk.out) Gx.t24 rfl)) ?_
                      try simp only [pA, pB, p1, p2, p3]
                      refine tK (.int .i64 ((el : Nat) : Int)) ?_
                      try simp only [pA, pB, p1, p2, p3]
                      refine tK (.int .i64 ((p : Nat) : Int)) ?_
                      try simp only [pA, pB, p1, p2, p3]
                      refine tW (.int .i64 ((el + p : Nat) : Int)) (exec_bin .add 3 _ _ _ rfl (.int .i64 ((el : Nat) : Int)) (.int .i64 ((p : Nat) : Int)) (.int .i64 ((el + p : Nat) : Int)) (by kernel_rfl) (by kernel_rfl) (by kernel_rfl) (b_addw _ _ _ (by rw [IntKind.wrap_i64]; omega) _)) ?_
                      try simp only [pA, pB, p1, p2, p3]
                      refine tW (.pointer (some ⟨g2, 0 + (el + p) * 7, none⟩)) (exec_ixA 24 7 Gx.u24 Gx.s24 _ _ rfl g2 0 (el + 70) fc (el + p) (by kernel_rfl) (by kernel_rfl) (by omega)) ?_
                      try simp only [pA, pB, p1, p2, p3]
                      refine tW (.agg (La.cells ⟨8, ((1000 * k + p : Nat) : Int), 0, 0, 0, 0, 0⟩)) (exec_load 67 _ rfl ⟨g2, 0 + (el + p) * 7, none⟩ (by kernel_rfl) (.agg (La.cells ⟨8, ((1000 * k + p : Nat) : Int), 0, 0, 0, 0, 0⟩)) (load_L (HT.out.newHi HEk.out HFk.out hl3))) ?_
                      try simp only [pA, pB, p1, p2, p3]
                      refine tK (.int .i64 ((k : Nat) : Int)) ?_
                      try simp only [pA, pB, p1, p2, p3]
                      refine tW (.int .i64 ((1000 * k : Nat) : Int)) (exec_bin .mul 3 _ _ _ rfl (.int .i64 1000) (.int .i64 ((k : Nat) : Int)) (.int .i64 ((1000 * k : Nat) : Int)) (by kernel_rfl) (by kernel_rfl) (by kernel_rfl) (b_mulK k (by omega) _)) ?_
                      try simp only [pA, pB, p1, p2, p3]
                      refine tK (.int .i64 ((p : Nat) : Int)) ?_
                      try simp only [pA, pB, p1, p2, p3]
                      refine tW (.int .i64 ((1000 * k + p : Nat) : Int)) (exec_bin .add 3 _ _ _ rfl (.int .i64 ((1000 * k : Nat) : Int)) (.int .i64 ((p : Nat) : Int)) (.int .i64 ((1000 * k + p : Nat) : Int)) (by kernel_rfl) (by kernel_rfl) (by kernel_rfl) (b_addw _ _ _ (by rw [IntKind.wrap_i64]; omega) _)) ?_
                      try simp only [pA, pB, p1, p2, p3]
                      refine tW (.agg (La.cells ⟨8, ((1000 * k + p : Nat) : Int), 0, 0, 0, 0, 0⟩)) (exec_build 67 _ rfl (La.cells ⟨8, ((1000 * k + p : Nat) : Int), 0, 0, 0, 0, 0⟩) (by kernel_rfl)) ?_
                      try simp only [pA, pB, p1, p2, p3]
                      refine tW (.bool false) (exec_bin .neq 67 _ _ _ rfl (.agg (La.cells ⟨8, ((1000 * k + p : Nat) : Int), 0, 0, 0, 0, 0⟩)) (.agg (La.cells ⟨8, ((1000 * k + p : Nat) : Int), 0, 0, 0, 0, 0⟩)) (.bool false) (by kernel_rfl) (by kernel_rfl) (by kernel_rfl) (by rw [eqL_neq, eqL_refl]; rfl)) ?_
                      try simp only [pA, pB, p1, p2, p3]
                      refine WL.nil ?_
                      try simp only [pA, pB, p1, p2, p3]
                      go_wp2
                      go_roundw
                      case rel => exact ⟨p + 1, by omega, by go_num, HT⟩
                      case measure => simp [intOf]; omega
                    · have i3 : ¬ (p : Int) < 70 := by omega
                      go_wp2
                      go_roundw
                      case rel => exact ⟨k + 1, by omega, by go_num, HT⟩
                      case measure => simp [intOf]; omega
            · have i1 : ¬ (k : Int) < (rn : Int) := by omega
              go_wp2
              go_ret
              exact ⟨rfl, HQ.out.kept⟩

end Go.Proofs.Ytfemlnfknebalab
