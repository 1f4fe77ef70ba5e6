import Derived.Test.YtgiokkcdgoloaabJa
import Derived.Test.YtgiokkcdgoloaabJb
import Derived.Test.YtgiokkcdgoloaabHs
namespace Go.Proofs.Ytgiokkcdgoloaab
open Go.RowKit
set_option linter.unusedVariables false
set_option linter.unusedSimpArgs false

theorem uq5 : uq [1, 2, 3, 4, 5] = [1, 2, 3, 4, 5] := by decide
theorem szB4 : szB 4 = 4 := by decide
theorem key_cells {w : World} {g : Nat} {a b c d : Value} (h : Box w g 49 #[a, b, c, d]) : w.cell? ⟨g, 0, none⟩ = some a ∧ w.cell? ⟨g, 1, none⟩ = some b ∧ w.cell? ⟨g, 2, none⟩ = some c ∧ w.cell? ⟨g, 3, none⟩ = some d := ⟨h.cell 0, h.cell 1, h.cell 2, h.cell 3⟩
section
attribute [local go_sem ↓] loadS_eq
set_option maxRecDepth 100000 in
set_option maxHeartbeats 16000000 in
theorem readWalk (how : Nat) (hw : how < 3) (da0 : Option Addr) (n0 c0 : Nat) (bz : List Int) (w : World) (hz : bz.length = n0) (hn0 : n0 ≤ 140737488351232) (hb : Bytes w da0 bz) (hnil : da0 = none → c0 = 0) :
    Calls Try.prog 5 #[.int .i64 (how : Int), .slice da0 n0 c0] w (fun e w' => ∃ m, e = .returned (.iface 90 (.pointer (some ⟨m, 0, none⟩))) ∧ En (fun k => w.heap.size ≤ k ∧ k < w'.heap.size) (zzr how bz) m w' ∧ Kept No w w') := by
  have HZ : Hid (bz.length = n0) := hz
  have HB0 : Hid (Bytes w da0 bz) := hb
  have HNil : Hid (da0 = none → c0 = 0) := hnil
  clear hz hb hnil
  go_enter Try.func5, Try.ntmps5
  go_wp2_with fail
  obtain ⟨w2, hw2⟩ : ∃ w2, w2 = (w.alloc (.cells #[.int .i64 1, .int .i64 3, .int .i64 1, .int .i64 0] 49)).alloc (.cells #[.int .i64 1, .int .i64 2, .int .i64 3, .int .i64 4, .int .i64 5] 3) := ⟨_, rfl⟩
  have HK2 : Hid (Kept No w w2) := by rw [hw2]; exact ((Kept.refl No w).alloc _).alloc _
  have HKb : Hid (Box w2 w.heap.size 49 #[.int .i64 1, .int .i64 3, .int .i64 1, .int .i64 0]) := by rw [hw2]; exact (Box.new _ _ _).alloc _
  have HGb : Hid (Box w2 (w.heap.size + 1) 3 ([(1 : Int), 2, 3, 4, 5].map (Value.int .i64)).toArray) := by
    have h := Box.new (w.alloc (.cells #[.int .i64 1, .int .i64 3, .int .i64 1, .int .i64 0] 49)) 3 ([(1 : Int), 2, 3, 4, 5].map (Value.int .i64)).toArray
    have e : (w.alloc (.cells #[.int .i64 1, .int .i64 3, .int .i64 1, .int .i64 0] 49)).heap.size = w.heap.size + 1 := by simp
    rw [e] at h
    rw [hw2]
    exact h
  rw [← hw2]
  obtain ⟨gb, hgb⟩ : ∃ gb, gb = w.heap.size + 1 := ⟨_, rfl⟩
  obtain ⟨kb, hkb⟩ : ∃ kb, kb = w.heap.size := ⟨_, rfl⟩
  rw [← hgb] at HGb ⊢
  rw [← hkb] at HKb ⊢
  clear hw2 hgb hkb
  have HG : Hid (Nums .i64 w2 (some ⟨gb, 0, none⟩) [1, 2, 3, 4, 5]) := Box.nums HGb.out 5
  have HKy : Hid (∀ W, Kept No w2 W → Box W kb 49 #[.int .i64 1, .int .i64 3, .int .i64 1, .int .i64 0]) := fun W hk => HKb.out.kept hk (fun e => e)
  clear HGb HKb
  refine Calls.mono (read_any 3 1 1 3 1 0 7 4 (some ⟨gb, 0, none⟩) 5 5 [1, 2, 3, 4, 5] w2 rfl (by decide) HG.out (by decide) (by decide)) ?_
  rintro e w4 ⟨m, a1, cc1, rfl, hM1, hB1, hk4⟩
  rw [uq5, szB4] at hM1
  have HF : Hid (Fre (fun k => w2.heap.size ≤ k) 93 rv [] m w4) := ⟨a1, cc1, hM1, ⟨fun y hy => by simp at hy⟩, hB1⟩
  have HK4 : Hid (Kept No w2 w4) := hk4
  clear hM1 hB1 hk4 HG
  have hmeth := meth_Begin (some ⟨m, 0, none⟩)
  go_wp2_with fail
  refine Calls.mono (begin_f HF.out) ?_
  rintro e w5 ⟨⟨la0, lc0, rfl⟩, hA, hk5⟩
  have HP0 : Hid (PhR how bz (fun j => w2.heap.size ≤ j ∧ j < w5.heap.size) m w5 1 5) := PhR.kept (PhR.a0 _ 5 hA) (Kept.refl No _) (fun j e l => ⟨fun f => f, by rcases e with e | e; exact e; exact Nat.le_trans HK4.out.size e, l⟩)
  have HK5 : Hid (Kept No w2 w5) := HK4.out.trans hk5 (fun _ e => e) (fun j l e => by
    have e : j = m := e
    obtain ⟨a, cap, h1, h2, h3⟩ := HF.out
    have := h3 m (.inl rfl)
    omega)
  clear hA hk5 HF HK4 hmeth
  go_wp2_with fail
  go_loopw [7, 8] (fun vl vk wk => ∃ (k : Nat) (la : Option Addr) (ln lc : Nat) (I : Nat → Prop), 1 ≤ k ∧ k ≤ 4 ∧ vk = .int .i64 (k : Int) ∧ vl = .slice la ln lc ∧ Hid (PhR how bz I m wk k ln) ∧ Hid (∀ j, I j → w2.heap.size ≤ j ∧ j < wk.heap.size) ∧ Hid (Kept No w2 wk)) (fun _ v _ => 5 - (intOf v).toNat)
  case atStart => exact ⟨1, la0, 5, lc0, _, by omega, by omega, rfl, rfl, HP0, fun _ e => e, HK5⟩
  case round =>
    obtain ⟨k, la, ln, lc, I, hk1, hk4, rfl, rfl, HP, HI, HKr⟩ := hrel
    clear HP0 HK5
    by_cases hk3 : k ≤ 3
    · have i2 : (k : Int) ≤ 3 := by omega
      go_upto_region 10 with fail
      go_cut [0, 8, 22, 32] from 27 to 32 (fun v0 v8 v22 v32 wc => ∃ b : Bool, v0 = .int .i64 (how : Int) ∧ v8 = .int .i64 (k : Int) ∧ v22 = .int .i64 (k : Int) ∧ v32 = .bool b ∧ Hid (b = decide (how = 1 ∧ k = 2)) ∧ Hid (Box wc wr.heap.size 29 #[.int .i64 5, .int .i64 2] ∧ Kept No wr wc))
      case first =>
        have HBx : Hid (Box (wr.alloc (.cells #[.int .i64 5, .int .i64 2] 29)) wr.heap.size 29 #[.int .i64 5, .int .i64 2] ∧ Kept No wr (wr.alloc (.cells #[.int .i64 5, .int .i64 2] 29))) := ⟨Box.new _ _ _, (Kept.refl No _).alloc _⟩
        by_cases e1 : how = 1
        · subst e1
          by_cases e2 : k = 2
          · subst e2
            go_wp2
            go_meet
            case rel => exact ⟨true, by go_num, by go_num, by go_num, rfl, rfl, HBx⟩
          · have i3 : ¬ (k : Int) = 2 := by omega
            go_wp2
            go_meet
            case rel => exact ⟨false, by go_num, rfl, rfl, by simp [i3], show false = decide _ from by simp [e2], HBx⟩
        · have i3 : ¬ (how : Int) = 1 := by omega
          go_wp2
          go_meet
          case rel => exact ⟨false, rfl, rfl, rfl, rfl, show false = decide _ from by simp [e1], HBx⟩
      obtain ⟨b, rfl, rfl, rfl, rfl, HBd, HS⟩ := hcut
      go_upto_if 32 with fail
      go_cut [] from 32 to 33 (fun wc => Hid (Box wc wr.heap.size 29 #[.int .i64 (if b then 4 else 5), .int .i64 (if b then 9 else 2)] ∧ Kept No wr wc))
      case first =>
        cases b
        · go_wp2
          go_meet
          case rel => exact HS
        · have f0 := HS.out.1.frozen 0
          have f1 := HS.out.1.frozen 1
          have d0 := HS.out.1.cell 0
          have d1 := HS.out.1.cell 1
          simp only [List.getElem?_toArray, List.getElem?_cons_zero, List.getElem?_cons_succ] at d0 d1
          go_wp2
          go_meet
          case rel => exact ⟨(HS.out.1.set 0 _).set 1 _, (HS.out.2.setCell (p := ⟨wr.heap.size, 0, none⟩) (fun l => absurd l (Nat.lt_irrefl _)) _).setCell (p := ⟨wr.heap.size, 1, none⟩) (fun l => absurd l (Nat.lt_irrefl _)) _⟩
      have HS := hcut
      clear hcut
      have HSt : Hid ((if how = 2 then (0 : Int) else if b then 4 else 5) = sNr how k ∧ (if how = 2 then (0 : Int) else if b then 9 else 2) = sCr how k) := by
        have h := HBd.out
        unfold sNr sCr
        rw [h]
        exact ⟨by simp, by simp⟩
      generalize (if b then (4 : Int) else 5) = sn0 at HS HSt
      generalize (if b then (9 : Int) else 2) = sc0 at HS HSt
      go_upto_if 35 with fail
      go_cut [0] from 34 to 36 (fun v0 wc => v0 = .int .i64 (how : Int) ∧ Hid (Box wc wr.heap.size 29 #[.int .i64 (sNr how k), .int .i64 (sCr how k)] ∧ Kept No wr wc))
      case first =>
        by_cases e2 : how = 2
        · subst e2
          have f0 := HS.out.1.frozen 0
          have f1 := HS.out.1.frozen 1
          have d0 := HS.out.1.cell 0
          have d1 := HS.out.1.cell 1
          simp only [List.getElem?_toArray, List.getElem?_cons_zero, List.getElem?_cons_succ] at d0 d1
          go_wp2
          go_meet
          case rel => exact ⟨by go_num, (HS.out.1.set 0 _).set 1 _, (HS.out.2.setCell (p := ⟨wr.heap.size, 0, none⟩) (fun l => absurd l (Nat.lt_irrefl _)) _).setCell (p := ⟨wr.heap.size, 1, none⟩) (fun l => absurd l (Nat.lt_irrefl _)) _⟩
        · have i3 : ¬ (how : Int) = 2 := by omega
          have h1 := HSt.out.1
          have h2 := HSt.out.2
          rw [if_neg e2] at h1 h2
          have HS' : Hid (Box wc wr.heap.size 29 #[.int .i64 (sNr how k), .int .i64 (sCr how k)] ∧ Kept No wr wc) := by rw [← h1, ← h2]; exact HS
          clear h1 h2
          go_wp2
          go_meet
          case rel => exact ⟨rfl, HS'⟩
      clear HS HSt HBd
      obtain ⟨rfl, HS⟩ := hcut
      go_upto_region 14 with fail
      refine r14 _ wr.heap.size n0 c0 (k : Int) (sNr how k) (sCr how k) da0 bz wr wc _ rfl rfl rfl rfl HZ.out (by omega) ((HB0.out.no HK2.out).no HKr.out) HNil.out HS.out.1 HS.out.2 (fun _ _ t _ _ h => by cases t <;> exact h) ?_
      intro eb g6 xa xc wd hF
      have HF : Hid (Box wd g6 73 (valD k 7 (sNr how k) (sCr how k) xa n0 xc).cells ∧ OwnB wd wr.heap.size xa xc bz ∧ wr.heap.size ≤ g6 ∧ Kept No wr wd) := hF
      clear hF HS
      simp only [Wa.pA, Wa.pB, Wa.p1, Wa.p2, Wa.p3]
      have hmeth := meth_Take (some ⟨m, 0, none⟩)
      have hld := run_loadS g6 _ wd HF.out.1 (valD_ok _ _ _ _ _ _ _)
      go_wp2_with fail
      have HPw : Hid (PhR how bz I m wd k ln) := HP.out.kept HF.out.2.2.2 (fun j e l => ⟨fun f => f, e⟩)
      have hsz := HF.out.2.2.2.size
      have HC : Hid (Calls Try.prog 64 #[.pointer (some ⟨m, 0, none⟩), .agg (valD k 7 (sNr how k) (sCr how k) xa n0 xc).cells] wd (fun e W' => ∃ la ln lc, e = .returned (.slice la ln lc) ∧ ∃ I', PhR how bz I' m W' (k + 1) ln ∧ (∀ j, I' j → (I j ∨ wd.heap.size ≤ j) ∧ j < W'.heap.size) ∧ Kept I wd W')) := by
        have h := phR_take hw hk1 hk3 (by rw [HZ.out]; omega) HPw.out xa xc HF.out.2.1.bytes
        rw [HZ.out] at h
        exact h
      refine Calls.mono HC.out ?_
      rintro e we ⟨la', ln', lc', rfl, I', hP', hI', hK'⟩
      have hB6 : Box we g6 73 (valD k 7 (sNr how k) (sCr how k) xa n0 xc).cells := HF.out.1.kept hK' (fun f => by have := (HI.out _ f).2; have := HF.out.2.2.1; omega)
      have hO6 : OwnB we wr.heap.size xa xc bz := HF.out.2.1.keptS hK' (fun j e f => by have := (HI.out _ f).2; have := Own.base HF.out.2.1 e; omega)
      have HB6 : Hid (Box we g6 73 (valD k 7 (sNr how k) (sCr how k) xa n0 xc).cells) := hB6
      have HO6 : Hid (OwnB we wr.heap.size xa xc bz) := hO6
      have HP' : Hid (PhR how bz I' m we (k + 1) ln') := hP'
      have HKe : Hid (Kept No w2 we) := (HKr.out.then HF.out.2.2.2).trans hK' (fun _ e => e) (fun j l e => by have := (HI.out j e).1; omega)
      have HI' : Hid (∀ j, I' j → w2.heap.size ≤ j ∧ j < we.heap.size ∧ ¬ At xa j) := fun j e => by
        obtain ⟨h1, h2⟩ := hI' j e
        have s1 := HKr.out.size
        refine ⟨?_, h2, fun f => ?_⟩
        · rcases h1 with h1 | h1
          · exact (HI.out j h1).1
          · omega
        · have b1 := Own.base HF.out.2.1 f
          have b2 := HF.out.2.1.lt f
          rcases h1 with h1 | h1
          · have := (HI.out j h1).2; omega
          · omega
      clear hB6 hO6 hP' hI' hK' HC HPw HP HI hld hmeth HF
      go_wp2_with fail
      obtain ⟨wk, rfl⟩ : ∃ wk : World, wk = wr := ⟨_, rfl⟩
      go_loopw [11] (fun vj wj => ∃ (q : Nat) (ys : List Int), q ≤ n0 ∧ vj = .int .i64 (q : Int) ∧ Hid (ys.length = n0 ∧ OwnB wj wk.heap.size xa xc ys) ∧ Hid (Kept (At xa) we wj)) (fun v _ => n0 - (intOf v).toNat)
      case atStart => exact ⟨0, bz, by omega, rfl, ⟨HZ.out, HO6.out⟩, Kept.refl _ _⟩
      case round =>
        obtain ⟨q, ys, hq, rfl, HOq, HKq⟩ := hrel
        have hb15 : Box wr g6 73 (valD k 7 (sNr how k) (sCr how k) xa n0 xc).cells := HB6.out.kept HKq.out (fun e => Own.notBox HO6.out HB6.out (by decide) e)
        have hc15 : wr.cell? ⟨g6, 15, none⟩ = some (.slice xa n0 xc) := md_at hb15 15 (by omega)
        clear hb15
        by_cases hqn : q < n0
        · have i4 : (q : Int) < (n0 : Int) := by omega
          obtain ⟨g, hg, hgb⟩ := Gx.OwnS.some HOq.out.2 (by rw [HOq.out.1]; omega)
          subst hg
          obtain ⟨hcl, hfr⟩ := Gx.OwnS.row2 HOq.out.2 q (by rw [HOq.out.1]; exact hqn)
          have HSt : Hid (∀ x : Int, (ys.set q x).length = n0 ∧ OwnB (wr.drew.setCell ⟨g, q, none⟩ (.int .u8 x)) wk.heap.size (some ⟨g, 0, none⟩) xc (ys.set q x) ∧ Kept (At (some ⟨g, 0, none⟩)) we (wr.drew.setCell ⟨g, q, none⟩ (.int .u8 x))) := fun x => ⟨by rw [List.length_set]; exact HOq.out.1, Gx.OwnS.set2 (show Gx.OwnS wr.drew _ _ _ _ from HOq.out.2) q x, Kept.setCell HKq.out.drew (p := ⟨g, q, none⟩) (fun _ => ⟨⟨g, 0, none⟩, rfl, rfl⟩) _⟩
          generalize ys[q]?.getD 0 = z at hcl
          have hcl' : wr.drew.cell? ⟨g, q, none⟩ = some (.int .u8 z) := hcl
          have hfr' : wr.drew.frozen? ⟨g, q, none⟩ = false := hfr
          have hc15' : wr.drew.cell? ⟨g6, 15, none⟩ = some (.slice (some ⟨g, 0, none⟩) n0 xc) := hc15
          clear hcl hfr
          go_upto_region 19 with fail
          refine wp_region_still_tail 9 (by kernel_rfl) (by kernel_rfl) ?_
          simp only [List.take_succ_cons, List.take_zero, List.drop_succ_cons, List.drop_zero]
          obtain ⟨w1, hw1⟩ : ∃ w1 : World, w1 = { wr with drawn := wr.drawn + 1 } := ⟨_, rfl⟩
          rw [← hw1]
          change Hid (∀ x : Int, (ys.set q x).length = n0 ∧ OwnB (World.setCell { wr with drawn := wr.drawn + 1 } ⟨g, q, none⟩ (.int .u8 x)) wk.heap.size (some ⟨g, 0, none⟩) xc (ys.set q x) ∧ Kept (At (some ⟨g, 0, none⟩)) we (World.setCell { wr with drawn := wr.drawn + 1 } ⟨g, q, none⟩ (.int .u8 x))) at HSt
          change World.cell? { wr with drawn := wr.drawn + 1 } _ = _ at hcl'
          change World.frozen? { wr with drawn := wr.drawn + 1 } _ = _ at hfr'
          change World.cell? { wr with drawn := wr.drawn + 1 } _ = _ at hc15'
          rw [← hw1] at HSt hcl' hfr' hc15'
          clear hc15 hw1
          still_step
          still_step
          still_step
          still_step
          still_step
          still_step
          still_step
          still_step
          still_step
          refine wpStill_nil ?_
          go_wp2
          go_roundw
          case rel => exact ⟨q + 1, _, by omega, by go_num, ⟨(HSt.out _).1, (HSt.out _).2.1⟩, (HSt.out _).2.2⟩
          case measure => simp [intOf]; omega
        · have i4 : ¬ (q : Int) < (n0 : Int) := by omega
          have HPe : Hid (PhR how bz I' m wr (k + 1) ln') := HP'.out.kept HKq.out (fun j e l => ⟨(HI'.out j e).2.2, e⟩)
          have HIe : Hid (∀ j, I' j → w2.heap.size ≤ j ∧ j < wr.heap.size) := fun j e => ⟨(HI'.out j e).1, Nat.lt_of_lt_of_le (HI'.out j e).2.1 HKq.out.size⟩
          have HKx : Hid (Kept No w2 wr) := HKe.out.trans HKq.out (fun _ e => e) (fun j l e => by have := Own.base HO6.out e; have := HKr.out.size; omega)
          clear HP' HI' HKe HKq HOq HO6 HB6
          go_wp2
          go_roundw
          case rel => exact ⟨k + 1, la', ln', lc', I', by omega, by omega, by go_num, rfl, HPe, HIe, HKx⟩
          case measure => simp [intOf]; omega
    · have i2 : ¬ (k : Int) ≤ 3 := by omega
      obtain rfl : k = 4 := by omega
      go_wp2_with fail
      have HQ : Hid ((ln = 5 ∧ AkP bz I m wr 3 ∧ zzr how bz = bz) ∨ (ln = 0 ∧ En I (zzr how bz) m wr)) := by
        cases HP.out with
        | e h1 h => exact .inr ⟨rfl, h⟩
        | l h1 h => exact .inl ⟨rfl, .l3 h, by rw [h1]; rfl⟩
      clear HP
      obtain ⟨w6, rfl⟩ : ∃ w6 : World, w6 = wr := ⟨_, rfl⟩
      go_loopw [12] (fun vk wk => ∃ (k : Nat), 3 ≤ k ∧ k ≤ 6 ∧ vk = .int .i64 (k : Int) ∧ Hid ((ln = 5 ∧ AkP bz I m wk k ∧ zzr how bz = bz) ∨ (ln = 0 ∧ k = 3 ∧ En I (zzr how bz) m wk)) ∧ Hid (Kept No w2 wk) ∧ Hid (w6.heap.size ≤ wk.heap.size)) (fun v _ => 7 - (intOf v).toNat)
      case atStart => exact ⟨3, by omega, by omega, rfl, HQ.out.imp id (fun h => ⟨h.1, rfl, h.2⟩), HKr, Nat.le_refl _⟩
      case round =>
        obtain ⟨k, hk3', hk6, rfl, HQk, HKk, HSz⟩ := hrel
        clear HQ
        rcases HQk.out with ⟨rfl, hA, hzz⟩ | ⟨rfl, rfl, hE⟩
        · have HA : Hid (AkP bz I m wr k) := hA
          have HZz : Hid (zzr how bz = bz) := hzz
          clear hA hzz HQk
          by_cases hk5 : k ≤ 5
          · have i5 : (k : Int) ≤ 5 := by omega
            have hmeth := meth_Take (some ⟨m, 0, none⟩)
            obtain ⟨k0, k1, k2, k3⟩ := key_cells (HKy.out wr HKk.out)
            go_wp2_with (refine wp_buildT rfl 73 _ rfl (ackD k).cells (by kernel_rfl) ?_)
            have HC : Hid (Calls Try.prog 64 #[.pointer (some ⟨m, 0, none⟩), .agg (ackD k).cells] wr (fun e W' => e = .returned (.slice none 0 0) ∧ AkP bz I m W' (k + 1) ∧ Kept I wr W')) := akP_take hk5 HA.out
            refine Calls.mono HC.out ?_
            rintro e wy ⟨rfl, hA', hK'⟩
            have HA' : Hid (AkP bz I m wy (k + 1)) := hA'
            have HKy' : Hid (Kept No w2 wy) := HKk.out.trans hK' (fun _ e => e) (fun j l e => by have := (HI.out j e).1; omega)
            have HSy : Hid (w6.heap.size ≤ wy.heap.size) := Nat.le_trans HSz.out hK'.size
            clear hA' hK' HC HA HKk HSz hmeth k0 k1 k2 k3
            go_wp2
            go_roundw
            case rel => exact ⟨k + 1, by omega, by omega, by go_num, .inl ⟨trivial, HA'.out, HZz.out⟩, HKy', HSy⟩
            case measure => simp [intOf]; omega
          · have i5 : ¬ (k : Int) ≤ 5 := by omega
            obtain rfl : k = 6 := by omega
            go_wp2
            go_ret
            refine ⟨m, rfl, ?_, HK2.out.then HKk.out⟩
            rw [HZz.out]
            cases HA.out with
            | e h => exact h.kept (Kept.refl No _) (fun j e l => ⟨fun f => f, Nat.le_trans HK2.out.size (HI.out j e).1, l⟩)
        · go_wp2
          go_ret
          exact ⟨m, rfl, hE.kept (Kept.refl No _) (fun j e l => ⟨fun f => f, Nat.le_trans HK2.out.size (HI.out j e).1, l⟩), HK2.out.then HKk.out⟩
end
end Go.Proofs.Ytgiokkcdgoloaab
