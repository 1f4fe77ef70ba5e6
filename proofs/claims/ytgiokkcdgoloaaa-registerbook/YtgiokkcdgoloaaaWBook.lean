import Derived.Test.YtgiokkcdgoloaaaIn
namespace Go.Proofs.Ytgiokkcdgoloaaa
open Go.RowKit
set_option linter.unusedVariables false
set_option linter.unusedSimpArgs false

theorem uq5 : uq [1, 2, 3, 4, 5] = [1, 2, 3, 4, 5] := by decide
theorem szB4 : szB 4 = 4 := by decide
theorem key_cells {w : World} {g : Nat} {a b c d : Value} (h : Box w g 23 #[a, b, c, d]) : w.cell? ⟨g, 0, none⟩ = some a ∧ w.cell? ⟨g, 1, none⟩ = some b ∧ w.cell? ⟨g, 2, none⟩ = some c ∧ w.cell? ⟨g, 3, none⟩ = some d := ⟨h.cell 0, h.cell 1, h.cell 2, h.cell 3⟩
section
attribute [local go_sem ↓] loadS_eq storeB_eq storeR_eq allocB_eq allocR_eq loadR_eq
attribute [local go_sem] run_allocB run_allocR
set_option maxRecDepth 100000 in
set_option maxHeartbeats 16000000 in
theorem bookWalk (da0 : Option Addr) (n0 c0 : Nat) (zs : List Int) (oa : Option Addr) (n1 c1 : Nat) (bz : List Int) (w : World) (hz : zs.length = n0) (hn0 : n0 ≤ 140737488351232) (hb : Bytes w da0 zs) (hy : bz.length = n1) (hn1 : n1 ≤ 140737488351232) (hb1 : Bytes w oa bz) (hnil : oa = none → c1 = 0) :
    Calls Try.prog 7 #[.slice da0 n0 c0, .slice oa n1 c1] w fun e w' => e = .returned (.bool true) ∧ Below w.heap.size w w' := by
  have HZ : Hid (zs.length = n0) := hz
  have HY : Hid (bz.length = n1) := hy
  have HB0 : Hid (Bytes w da0 zs) := hb
  have HB1 : Hid (Bytes w oa bz) := hb1
  have HNil : Hid (oa = none → c1 = 0) := hnil
  clear hz hy hb hb1 hnil
  go_enter Try.func7, Try.ntmps7
  go_wp2_with fail
  obtain ⟨w2, hw2⟩ : ∃ w2, w2 = (w.alloc (.cells #[.int .i64 1, .int .i64 3, .int .i64 1, .int .i64 0] 23)).alloc (.cells #[.int .i64 1, .int .i64 2, .int .i64 3, .int .i64 4, .int .i64 5] 3) := ⟨_, rfl⟩
  have HK2 : Hid (Kept No w w2) := by rw [hw2]; exact ((Kept.refl No w).alloc _).alloc _
  have HKb : Hid (Box w2 w.heap.size 23 #[.int .i64 1, .int .i64 3, .int .i64 1, .int .i64 0]) := by rw [hw2]; exact (Box.new _ _ _).alloc _
  have HGb : Hid (Box w2 (w.heap.size + 1) 3 ([(1 : Int), 2, 3, 4, 5].map (Value.int .i64)).toArray) := by
    have h := Box.new (w.alloc (.cells #[.int .i64 1, .int .i64 3, .int .i64 1, .int .i64 0] 23)) 3 ([(1 : Int), 2, 3, 4, 5].map (Value.int .i64)).toArray
    have e : (w.alloc (.cells #[.int .i64 1, .int .i64 3, .int .i64 1, .int .i64 0] 23)).heap.size = w.heap.size + 1 := by simp
    rw [e] at h
    rw [hw2]
    exact h
  rw [← hw2]
  obtain ⟨gb, hgb⟩ : ∃ gb, gb = w.heap.size + 1 := ⟨_, rfl⟩
  obtain ⟨kb, hkb⟩ : ∃ kb, kb = w.heap.size := ⟨_, rfl⟩
  rw [← hgb] at HGb ⊢
  rw [← hkb] at HKb ⊢
  clear hw2 hgb hkb
  have HG : Hid (∀ W, Kept No w2 W → Nums .i64 W (some ⟨gb, 0, none⟩) [1, 2, 3, 4, 5]) := fun W hk => (Box.nums (HGb.out.kept hk (fun e => e)) 5)
  have HKy : Hid (∀ W, Kept No w2 W → Box W kb 23 #[.int .i64 1, .int .i64 3, .int .i64 1, .int .i64 0]) := fun W hk => HKb.out.kept hk (fun e => e)
  clear HGb HKb
  refine Calls.mono (write_any 3 1 1 3 1 0 7 (some ⟨gb, 0, none⟩) 5 5 [1, 2, 3, 4, 5] da0 n0 c0 zs w2 rfl (by decide) (HG.out w2 (Kept.refl _ _)) HZ.out (by omega) (HB0.out.no HK2.out)) ?_
  rintro e w3 ⟨m0, a0, cc0, da, dc, rfl, hM0, hD, hB0, hO, hk3⟩
  rw [uq5] at hM0
  have HM0 : Hid (Mach w3 m0 a0 cc0 x7 138 (.agg #[.iface 118 (wv da zs.length dc)])) := hM0
  have HD : Hid (OwnB w3 w2.heap.size da dc zs) := hD
  have HBO : Hid ((∀ k, MB m0 a0 k → w2.heap.size ≤ k) ∧ ∀ k, At da k → ∀ j, MB m0 a0 j → k < j) := ⟨hB0, hO⟩
  have HK3 : Hid (Kept No w2 w3) := hk3
  obtain ⟨k0, k1, k2, k3⟩ := key_cells (HKy.out w3 hk3)
  clear hM0 hD hB0 hO hk3
  go_wp2_with fail
  refine Calls.mono (read_any 3 1 1 3 1 0 7 4 (some ⟨gb, 0, none⟩) 5 5 [1, 2, 3, 4, 5] w3 rfl (by decide) (HG.out w3 HK3.out) (by decide) (by decide)) ?_
  rintro e w4 ⟨m1, a1, cc1, rfl, hM1, hB1, hk4⟩
  rw [uq5, szB4] at hM1
  have HM1 : Hid (Mach w4 m1 a1 cc1 x7 138 (.agg #[.iface 120 rv])) := hM1
  have HBO1 : Hid (∀ k, MB m1 a1 k → w3.heap.size ≤ k) := hB1
  have HK4 : Hid (Kept No w3 w4) := hk4
  clear k0 k1 k2 k3
  obtain ⟨k0, k1, k2, k3⟩ := key_cells (HKy.out w4 (HK3.out.then hk4))
  clear hM1 hB1 hk4
  go_wp2_with fail
  refine Calls.mono (read_any 3 1 1 3 1 0 7 4 (some ⟨gb, 0, none⟩) 5 5 [1, 2, 3, 4, 5] w4 rfl (by decide) (HG.out w4 (HK3.out.then HK4.out)) (by decide) (by decide)) ?_
  rintro e w5 ⟨m2, a2, cc2, rfl, hM2, hB2, hk5⟩
  rw [uq5, szB4] at hM2
  clear k0 k1 k2 k3
  obtain ⟨I0, Z0, hA0⟩ := ai_init (bz := bz) HK2.out HM0.out HD.out HBO.out.1 HBO.out.2 HK3.out HM1.out HBO1.out HK4.out hM2 hB2 hk5
  have HA : Hid (Ai No No ⟨da, dc, zs, bz⟩ w w5.heap.size (msF m0 m1 m2) 0 0 none 0 [] I0 Z0 (w5.alloc (.cells (mrow (msF m0 m1 m2)) 31))) := hA0
  clear hA0 hM2 hB2 hk5 HM0 HD HBO HK3 HM1 HBO1 HK4 HG HKy
  go_wp2_with fail
  obtain ⟨w6, hw6⟩ : ∃ w6, w6 = w5.alloc (.cells #[.iface 115 (.pointer (some ⟨m0, 0, none⟩)), .iface 115 (.pointer (some ⟨m1, 0, none⟩)), .iface 115 (.pointer (some ⟨m2, 0, none⟩))] 31) := ⟨_, rfl⟩
  rw [← hw6]
  have HA : Hid (Ai No No ⟨da, dc, zs, bz⟩ w w5.heap.size (msF m0 m1 m2) 0 0 none 0 [] I0 Z0 w6) := by rw [hw6]; exact HA.out
  obtain ⟨rg, hrg⟩ : ∃ rg, rg = w5.heap.size := ⟨_, rfl⟩
  rw [← hrg] at HA ⊢
  clear hw6 hrg HK2
  have HMs : Hid ((msF m0 m1 m2) 0 = m0 ∧ (msF m0 m1 m2) 1 = m1 ∧ (msF m0 m1 m2) 2 = m2) := ⟨rfl, rfl, rfl⟩
  generalize msF m0 m1 m2 = ms at HA HMs
  have HPa : Hid ((⟨da, dc, zs, bz⟩ : Par).zs = zs ∧ (⟨da, dc, zs, bz⟩ : Par).bz = bz) := ⟨rfl, rfl⟩
  generalize (⟨da, dc, zs, bz⟩ : Par) = p at HA HPa
  have HLz : Hid (p.zs.length ≤ 140737488351232 ∧ p.bz.length ≤ 140737488351232 ∧ p.bz.length = n1) := by
    rw [HPa.out.1, HPa.out.2, HZ.out, HY.out]; exact ⟨hn0, hn1, rfl⟩
  go_loopw [11, 12] (fun va vi wr => ∃ (i n : Nat) (ra : Option Addr) (rc : Nat) (K : List Gx.Ent) (I : Nat → Nat → Prop) (Z : Nat → List Int), i ≤ 3 ∧ vi = .int .i64 (i : Int) ∧ va = .slice ra n rc ∧ Hid (K.length = n ∧ n ≤ 15 * i ∧ (1 ≤ i → 5 ≤ n)) ∧ Hid (Ai No No p w rg ms i 0 ra rc K I Z wr)) (fun _ i _ => 3 - (intOf i).toNat)
  case atStart => exact ⟨0, 0, none, 0, [], I0, Z0, by omega, rfl, rfl, ⟨rfl, by omega, fun h => by omega⟩, HA⟩
  case round =>
    obtain ⟨i, n, ra, rc, K, I, Z, hi3, rfl, rfl, HN, HAi⟩ := hrel
    clear HA
    by_cases hlt : i < 3
    · have i1 : (i : Int) < 3 := by omega
      have hcm : wr.cell? ⟨rg, i, none⟩ = some (.iface 115 (.pointer (some ⟨ms i, 0, none⟩))) := by rw [HAi.out.mr.cell]; exact mrow_at ms hlt
      have HC : Hid (Calls Try.prog 82 #[.pointer (some ⟨ms i, 0, none⟩)] wr (fun e W' => ∃ la lc, e = .returned (.slice la 5 lc) ∧ ∃ I', Ai No No p w rg ms i 1 ra rc K I' Z W')) := ai_begin hlt HAi.out
      have hmeth := meth_Begin (some ⟨ms i, 0, none⟩)
      go_wp2_with fail
      refine Calls.mono HC.out ?_
      rintro e wb ⟨la0, lc0, rfl, I1, hA1⟩
      have HA1 : Hid (Ai No No p w rg ms i 1 ra rc K I1 Z wb) := hA1
      clear HC hmeth hcm HAi hA1
      go_wp2_with fail
      go_loopw [13, 14] (fun vl vk wk => ∃ (k : Nat) (la : Option Addr) (ln lc : Nat) (P : Nat → Prop) (I : Nat → Nat → Prop), 1 ≤ k ∧ k ≤ 4 ∧ vk = .int .i64 (k : Int) ∧ vl = .slice la ln lc ∧ Hid (k ≠ 4 → P = No) ∧ Hid (k = 4 → ∃ x hq qs B, Tq w P No p i la ln lc x hq qs B wk) ∧ Hid (Ai No P p w rg ms i k ra rc K I Z wk)) (fun _ v _ => 5 - (intOf v).toNat)
      case atStart => exact ⟨1, la0, 5, lc0, No, I1, by omega, by omega, rfl, rfl, fun _ => rfl, fun e => by omega, HA1⟩
      case round =>
        obtain ⟨k, la, ln, lc, P, I2, hk1, hk4, rfl, rfl, HPn, HTq, HA2⟩ := hrel
        clear HA1
        by_cases hk3 : k ≤ 3
        · have i2 : (k : Int) ≤ 3 := by omega
          obtain rfl : P = No := HPn.out (by omega)
          clear HPn HTq
          go_upto_if 73 with fail
          go_cut [12, 54, 59, 60, 61] from 72 to 75 (fun v12 v54 v59 v60 v61 wc => v12 = .int .i64 (i : Int) ∧ v54 = .int .i64 (i : Int) ∧ v59 = .int .i64 (i : Int) ∧ v60 = .pointer (some ⟨rg, i, none⟩) ∧ v61 = .iface 115 (.pointer (some ⟨ms i, 0, none⟩)) ∧ Hid (Box wc wr.heap.size 41 #[.int .i64 (sN i k), .int .i64 (sC i)] ∧ Kept No wr wc))
          case first =>
            by_cases h2 : i = 2
            · subst h2
              go_wp2
              go_meet
              case rel => exact ⟨by go_num, by go_num, by go_num, rfl, rfl, ⟨Box.new _ _ _, (Kept.refl No _).alloc _⟩⟩
            · have i3 : ¬ (i : Int) = 2 := by omega
              go_wp2
              go_meet
              case rel => exact ⟨rfl, rfl, rfl, rfl, rfl, ⟨by rw [show sN i k = (k : Int) from if_neg h2, show sC i = 2 from if_neg h2]; exact Box.new _ _ _, (Kept.refl No _).alloc _⟩⟩
          obtain ⟨rfl, rfl, rfl, rfl, rfl, HS⟩ := hcut
          clear i1
          have i1 : (i : Int) < 3 := by omega
          go_upto_region 22 with fail
          refine r22 _ wr.heap.size n1 c1 (k : Int) (sN i k) (sC i) oa bz wr wc _ rfl rfl rfl rfl HY.out (by omega) (HB1.out.no HA2.out.kp) HNil.out HS.out.1 HS.out.2 (fun _ _ t _ _ h => by cases t <;> exact h) ?_
          intro eb g6 xa xc wd hF
          have HF : Hid (Box wd g6 52 (valD k 7 (sN i k) (sC i) xa n1 xc).cells ∧ OwnB wd wr.heap.size xa xc bz ∧ wr.heap.size ≤ g6 ∧ Kept No wr wd) := hF
          clear hF HS
          simp only [Wa.pA, Wa.pB, Wa.p1, Wa.p2, Wa.p3]
          go_upto_region 23 with fail
          have hxl : ∀ j, At xa j → wr.heap.size ≤ j ∧ j < wd.heap.size := fun j e => ⟨Own.base HF.out.2.1 e, HF.out.2.1.lt e⟩
          have HX : Hid (Ai (fun j => wr.heap.size ≤ j ∧ j < wd.drew.heap.size) No p w rg ms i k ra rc K I2 Z wd.drew) := HA2.out.fresh HF.out.2.2.2.drew (fun j e => ⟨e.1, e.2, fun f => f⟩) (fun j e => e.elim)
          have HXa : Hid ((∀ j, At xa j → wr.heap.size ≤ j ∧ j < wd.drew.heap.size) ∧ wr.heap.size ≤ g6 ∧ g6 < wd.drew.heap.size) := ⟨hxl, HF.out.2.2.1, HF.out.1.lt⟩
          have hcm : wd.cell? ⟨rg, i, none⟩ = some (.iface 115 (.pointer (some ⟨ms i, 0, none⟩))) := (show wd.drew.cell? ⟨rg, i, none⟩ = _ from by rw [HX.out.mr.cell]; exact mrow_at ms hlt)
          have hbz : Bytes wd.drew xa p.bz := by rw [HPa.out.2]; exact HF.out.2.1.bytes
          refine r23 _ rg g6 i (ms i) (valD k 7 (sN i k) (sC i) xa n1 xc) wd _ rfl rfl rfl rfl hlt (valD_ok _ _ _ _ _ _ _) HF.out.1 hcm (fun _ _ t _ _ h => by cases t <;> exact h) _ (by have hC := ai_take hlt hk1 hk3 HLz.out.1 HLz.out.2.1 HX.out xa xc hbz; rw [HLz.out.2.2] at hC; exact hC) ?_
          rintro e we ⟨la', ln', lc', rfl, P', I3, hA3, hT3, hP3, hsz3, hKX⟩
          have hk3' := hKX (fun j => wr.heap.size ≤ j ∧ j < wd.drew.heap.size) (fun _ e => e)
          have hB6 : Box we g6 52 (valD k 7 (sN i k) (sC i) xa n1 xc).cells := (show Box wd.drew g6 52 _ from HF.out.1).kept hk3' (fun f => f ⟨HXa.out.2.1, HXa.out.2.2⟩)
          have hO6 : OwnB we wr.heap.size xa xc bz := OwnB.keptS (show OwnB wd.drew _ xa xc bz from HF.out.2.1) hk3' (fun j e f => f (HXa.out.1 j e))
          refine ⟨la', ln', lc', rfl, ⟨hB6, by rw [hA3.mr.cell]; exact mrow_at ms hlt⟩, ?_⟩
          have HA3 : Hid (Ai (fun j => wr.heap.size ≤ j ∧ j < wd.drew.heap.size) P' p w rg ms i (k + 1) ra rc K I3 Z we) := hA3
          have HT3 : Hid ((k = 3 → ∃ x hq qs B, Tq w P' (fun j => wr.heap.size ≤ j ∧ j < wd.drew.heap.size) p i la' ln' lc' x hq qs B we) ∧ (k ≠ 3 → P' = No)) := ⟨hT3, hP3⟩
          have HX6 : Hid (∀ j, At xa j → (fun j => wr.heap.size ≤ j ∧ j < wd.drew.heap.size) j) := HXa.out.1
          have HB6 : Hid (Box we g6 52 (valD k 7 (sN i k) (sC i) xa n1 xc).cells) := hB6
          have HO6 : Hid (OwnB we wr.heap.size xa xc bz) := hO6
          clear hA3 hT3 hP3 hsz3 hKX hk3' hB6 hO6 HX HXa HF hcm hbz hxl HA2
          generalize (fun j => wr.heap.size ≤ j ∧ j < wd.drew.heap.size) = X at HA3 HT3 HX6
          simp only [Wa.pA, Wa.pB, Wa.p1, Wa.p2, Wa.p3]
          go_wp2_with fail
          obtain ⟨wk, rfl⟩ : ∃ wk : World, wk = wr := ⟨_, rfl⟩
          go_loopw [17] (fun vj wj => ∃ (q : Nat) (ys : List Int), q ≤ n1 ∧ vj = .int .i64 (q : Int) ∧ Hid (ys.length = n1 ∧ OwnB wj wk.heap.size xa xc ys) ∧ Hid (Kept (At xa) we wj)) (fun v _ => n1 - (intOf v).toNat)
          case atStart => exact ⟨0, bz, by omega, rfl, ⟨HY.out, HO6.out⟩, Kept.refl _ _⟩
          case round =>
            obtain ⟨q, ys, hq, rfl, HOq, HKq⟩ := hrel
            have hb15 : Box wr g6 52 (valD k 7 (sN i k) (sC i) xa n1 xc).cells := HB6.out.kept HKq.out (fun e => Own.notBox HO6.out HB6.out (by decide) e)
            have hc15 : wr.cell? ⟨g6, 15, none⟩ = some (.slice xa n1 xc) := md_at hb15 15 (by omega)
            clear hb15
            by_cases hqn : q < n1
            · have i4 : (q : Int) < (n1 : Int) := by omega
              obtain ⟨g, hg, hgb⟩ := Gx.OwnS.some HOq.out.2 (by rw [HOq.out.1]; omega)
              subst hg
              obtain ⟨hcl, hfr⟩ := Gx.OwnS.row2 HOq.out.2 q (by rw [HOq.out.1]; exact hqn)
              have HSt : Hid (∀ x : Int, (ys.set q x).length = n1 ∧ OwnB (wr.drew.setCell ⟨g, q, none⟩ (.int .u8 x)) wk.heap.size (some ⟨g, 0, none⟩) xc (ys.set q x) ∧ Kept (At (some ⟨g, 0, none⟩)) we (wr.drew.setCell ⟨g, q, none⟩ (.int .u8 x))) := fun x => ⟨by rw [List.length_set]; exact HOq.out.1, Gx.OwnS.set2 (show Gx.OwnS wr.drew _ _ _ _ from HOq.out.2) q x, Kept.setCell HKq.out.drew (p := ⟨g, q, none⟩) (fun _ => ⟨⟨g, 0, none⟩, rfl, rfl⟩) _⟩
              generalize ys[q]?.getD 0 = z at hcl
              have hcl' : wr.drew.cell? ⟨g, q, none⟩ = some (.int .u8 z) := hcl
              have hfr' : wr.drew.frozen? ⟨g, q, none⟩ = false := hfr
              have hc15' : wr.drew.cell? ⟨g6, 15, none⟩ = some (.slice (some ⟨g, 0, none⟩) n1 xc) := hc15
              clear hcl hfr
              go_upto_region 27 with fail
              refine wp_region_still_tail 9 (by kernel_rfl) (by kernel_rfl) ?_
              simp only [List.take_succ_cons, List.take_zero, List.drop_succ_cons, List.drop_zero]
              obtain ⟨w1, hw1⟩ : ∃ w1 : World, w1 = { wr with drawn := wr.drawn + 1 } := ⟨_, rfl⟩
              rw [← hw1]
              change Hid (∀ x : Int, (ys.set q x).length = n1 ∧ OwnB (World.setCell { wr with drawn := wr.drawn + 1 } ⟨g, q, none⟩ (.int .u8 x)) wk.heap.size (some ⟨g, 0, none⟩) xc (ys.set q x) ∧ Kept (At (some ⟨g, 0, none⟩)) we (World.setCell { wr with drawn := wr.drawn + 1 } ⟨g, q, none⟩ (.int .u8 x))) at HSt
              change World.cell? { wr with drawn := wr.drawn + 1 } _ = _ at hcl'
              change World.frozen? { wr with drawn := wr.drawn + 1 } _ = _ at hfr'
              change World.cell? { wr with drawn := wr.drawn + 1 } _ = _ at hc15'
              rw [← hw1] at HSt hcl' hfr' hc15'
              clear hc15 hw1
              still_step
              still_step
              still_step
              still_step
              still_step
              still_step
              still_step
              still_step
              still_step
              refine wpStill_nil ?_
              go_wp2
              go_roundw
              case rel => exact ⟨q + 1, _, by omega, by go_num, ⟨(HSt.out _).1, (HSt.out _).2.1⟩, (HSt.out _).2.2⟩
              case measure => simp [intOf]; omega
            · have i4 : ¬ (q : Int) < (n1 : Int) := by omega
              have HE : Hid (Ai No P' p w rg ms i (k + 1) ra rc K I3 Z wr) := (HA3.out.kept HKq.out (fun j e _ => HX6.out j e)).noX
              have HTe : Hid (k + 1 = 4 → ∃ x hq qs B, Tq w P' No p i la' ln' lc' x hq qs B wr) := fun e => by
                obtain ⟨x, hq, qs, B, hT⟩ := HT3.out.1 (by omega)
                exact ⟨x, hq, qs, B, (hT.kept HKq.out (fun j e => HX6.out j e)).noX⟩
              have HPe : Hid (k + 1 ≠ 4 → P' = No) := fun e => HT3.out.2 (by omega)
              clear HA3 HT3 HKq HOq HO6 HB6
              go_wp2
              go_roundw
              case rel => exact ⟨k + 1, la', ln', lc', P', I3, by omega, by omega, by go_num, rfl, HPe, HTe, HE⟩
              case measure => simp [intOf]; omega
        · have i2 : ¬ (k : Int) ≤ 3 := by omega
          obtain rfl : k = 4 := by omega
          obtain ⟨x, hq, qs, B, hT⟩ := HTq.out rfl
          have HT : Hid (Tq w P No p i la ln lc x hq qs B wr) := hT
          have HLn : Hid (ln = tellN i) := hT.tl
          clear HPn HTq hT
          go_upto_region 28 with fail
          go_cut [12, 54, 59, 60, 61, 119] from 104 to 119 (fun v12 v54 v59 v60 v61 v119 wc => v119 = .bool false ∧ v12 = .int .i64 (i : Int) ∧ v54 = .int .i64 (i : Int) ∧ v59 = .int .i64 (i : Int) ∧ v60 = .pointer (some ⟨rg, i, none⟩) ∧ v61 = .iface 115 (.pointer (some ⟨ms i, 0, none⟩)) ∧ wc = wr)
          case first =>
            by_cases h2 : i = 2
            · subst h2
              have i5 : (ln : Int) = 0 := by have := HLn.out; unfold tellN at this; simp at this; omega
              go_wp2
              go_meet
              case rel => exact ⟨rfl, by go_num, by go_num, by go_num, rfl, rfl, rfl⟩
            · have i3 : ¬ (i : Int) = 2 := by omega
              have i6 : (i : Int) < 2 := by omega
              have i5 : (ln : Int) = 5 := by have := HLn.out; rw [tellN_lt (by omega)] at this; omega
              go_wp2
              go_meet
              case rel => exact ⟨rfl, rfl, rfl, rfl, rfl, rfl, rfl⟩
          obtain ⟨rfl, rfl, rfl, rfl, rfl, rfl, rfl⟩ := hcut
          clear i1 i2
          have i1 : (i : Int) < 3 := by omega
          have hln5 : ln ≤ 5 := by rw [HLn.out]; exact tellN_le i
          have h0n : 0 < n ∨ 0 < ln := by
            by_cases h2 : i < 2
            · right; rw [HLn.out, tellN_lt h2]; decide
            · left; have := HN.out.2.2 (by omega); omega
          have hn45 : n ≤ 45 := by have := HN.out.2.1; omega
          go_wp2_with fail
          refine Calls.mono (blocks_t HT.out) ?_
          rintro e wf ⟨ba, bc, rfl, hO, hkf⟩
          have HO : Hid (Own 25 1 wf wc.heap.size ba bc ln ((qs.map (entQ hq)).map Gx.entV)) := hO
          have HA4 : Hid (Ai No P p w rg ms i 4 ra rc K I2 Z wf) := HA2.out.no hkf
          have HT4 : Hid (Tq w P No p i la ln lc x hq qs B wf) := HT.out.no hkf
          clear hO hkf HA2 HT
          go_wp2_with (at_builtin; go_must (refine wp_appQ rfl _ _ rfl w.heap.size ra n rc K rfl HN.out.1 HA4.out.row wc.heap.size ba ln bc (qs.map (entQ hq)) rfl (by rw [List.length_map]; exact HT4.out.ql) HO.out (by omega) h0n HA4.out.kp.size ?_; intro ra1 rc1 wg HR HC))
          obtain ⟨Z1, hA5⟩ := ai_tell HLz.out.1 HLz.out.2.1 HA4.out HT4.out HR.out HC.out
          have HN1 : Hid ((K ++ qs.map (entQ hq)).length = n + ln ∧ n + ln ≤ 15 * i + 5 ∧ 5 ≤ n + ln) := by
            refine ⟨by rw [List.length_append, List.length_map, HN.out.1, HT4.out.ql], by have := HN.out.2.1; omega, ?_⟩
            by_cases h2 : i < 2
            · have : ln = 5 := by rw [HLn.out, tellN_lt h2]
              omega
            · have := HN.out.2.2 (by omega); omega
          have HA5 : Hid (Ai No No p w rg ms i 4 ra1 rc1 (K ++ qs.map (entQ hq)) I2 Z1 wg) := hA5
          generalize K ++ qs.map (entQ hq) = K1 at HN1 HA5
          generalize n + ln = n2 at HN1 ⊢
          clear hA5 HR HC HO HA4 HT4 HLn hln5 h0n hn45 HN
          go_wp2_with fail
          go_loopw [11, 13, 18] (fun va vl vt wt => ∃ (t n : Nat) (ra : Option Addr) (rc : Nat) (K : List Gx.Ent) (Z : Nat → List Int), t ≤ 2 ∧ vt = .int .i64 (t : Int) ∧ va = .slice ra n rc ∧ Hid (K.length = n ∧ n ≤ 15 * i + 5 + 5 * t ∧ 5 ≤ n) ∧ Hid (Ai No No p w rg ms i 4 ra rc K I2 Z wt)) (fun _ _ v _ => 2 - (intOf v).toNat)
          case atStart => exact ⟨0, n2, ra1, rc1, K1, Z1, by omega, rfl, rfl, ⟨HN1.out.1, by have := HN1.out.2.1; omega, HN1.out.2.2⟩, HA5⟩
          case round =>
            obtain ⟨t, n, ra, rc, K, Z, ht2, rfl, rfl, HN, HA⟩ := hrel
            clear HN1 HA5
            by_cases htl : t < 2
            · have i7 : (t : Int) < 2 := by omega
              have hcm : wr.cell? ⟨rg, i, none⟩ = some (.iface 115 (.pointer (some ⟨ms i, 0, none⟩))) := by rw [HA.out.mr.cell]; exact mrow_at ms hlt
              have hmeth := meth_Tick (some ⟨ms i, 0, none⟩)
              go_wp2_with fail
              refine Calls.mono (ai_tick hlt (phs_at i 4) HLz.out.1 HLz.out.2.1 HA.out) ?_
              rintro e wh ⟨la2, ln2, lc2, rfl, P2, x2, hq2, qs2, hA6, hT6, -⟩
              have HA6 : Hid (Ai No P2 p w rg ms i 4 ra rc K I2 Z wh) := hA6
              have HT6 : Hid (Tq w P2 No p i la2 ln2 lc2 x2 hq2 qs2 wr.heap.size wh) := hT6
              clear hA6 hT6 hcm hmeth HA
              go_wp2_with fail
              refine Calls.mono (blocks_t HT6.out) ?_
              rintro e wf ⟨ba2, bc2, rfl, hO, hkf⟩
              have HO : Hid (Own 25 1 wf wh.heap.size ba2 bc2 ln2 ((qs2.map (entQ hq2)).map Gx.entV)) := hO
              have HA7 : Hid (Ai No P2 p w rg ms i 4 ra rc K I2 Z wf) := HA6.out.no hkf
              have HT7 : Hid (Tq w P2 No p i la2 ln2 lc2 x2 hq2 qs2 wr.heap.size wf) := HT6.out.no hkf
              have hln5 : ln2 ≤ 5 := by rw [HT7.out.tl]; exact tellN_le i
              have hn45 : n ≤ 65 := by have := HN.out.2.1; omega
              have h0n : 0 < n ∨ 0 < ln2 := by have := HN.out.2.2; omega
              clear hO hkf HA6 HT6
              go_wp2_with (at_builtin; go_must (refine wp_appQ rfl _ _ rfl w.heap.size ra n rc K rfl HN.out.1 HA7.out.row wh.heap.size ba2 ln2 bc2 (qs2.map (entQ hq2)) rfl (by rw [List.length_map]; exact HT7.out.ql) HO.out (by omega) h0n HA7.out.kp.size ?_; intro ra2 rc2 wg2 HR HC))
              obtain ⟨Z2, hA8⟩ := ai_tell HLz.out.1 HLz.out.2.1 HA7.out HT7.out HR.out HC.out
              have HN2 : Hid ((K ++ qs2.map (entQ hq2)).length = n + ln2 ∧ n + ln2 ≤ 15 * i + 5 + 5 * (t + 1) ∧ 5 ≤ n + ln2) :=
                ⟨by rw [List.length_append, List.length_map, HN.out.1, HT7.out.ql], by have := HN.out.2.1; omega, by have := HN.out.2.2; omega⟩
              have HA8 : Hid (Ai No No p w rg ms i 4 ra2 rc2 (K ++ qs2.map (entQ hq2)) I2 Z2 wg2) := hA8
              clear hA8 HR HC HO HA7 HT7 hln5 hn45 h0n HN
              go_roundw
              case rel => exact ⟨t + 1, n + ln2, ra2, rc2, _, Z2, by omega, by go_num, rfl, HN2, HA8⟩
              case measure => simp [intOf]; omega
            · have i7 : ¬ (t : Int) < 2 := by omega
              obtain rfl : t = 2 := by omega
              have HN3 : Hid (K.length = n ∧ n ≤ 15 * (i + 1) ∧ (1 ≤ i + 1 → 5 ≤ n)) := ⟨HN.out.1, by have := HN.out.2.1; omega, fun _ => HN.out.2.2⟩
              have HA9 : Hid (Ai No No p w rg ms (i + 1) 0 ra rc K I2 Z wr) := HA.out.next
              clear HN HA
              go_wp2
              go_roundw
              case rel => exact ⟨i + 1, n, ra, rc, K, I2, Z, by omega, by go_num, rfl, HN3, HA9⟩
              case measure => simp [intOf]; omega
    · have i1 : ¬ (i : Int) < 3 := by omega
      obtain rfl : i = 3 := by omega
      go_wp2_with fail
      go_loopw [11, 19] (fun va vt wt => ∃ (t n : Nat) (ra : Option Addr) (rc : Nat) (K : List Gx.Ent) (Z : Nat → List Int), t ≤ 3 ∧ vt = .int .i64 (t : Int) ∧ va = .slice ra n rc ∧ Hid (K.length = n ∧ n ≤ 45 + t ∧ 5 ≤ n) ∧ Hid (Ai No No p w rg ms 3 0 ra rc K I Z wt)) (fun _ v _ => 3 - (intOf v).toNat)
      case atStart => exact ⟨0, n, ra, rc, K, Z, by omega, rfl, rfl, ⟨HN.out.1, HN.out.2.1, HN.out.2.2 (by omega)⟩, HAi⟩
      case round =>
        obtain ⟨t, n, ra, rc, K, Z, ht3, rfl, rfl, HN, HA⟩ := hrel
        clear HAi
        by_cases htl : t < 3
        · have i7 : (t : Int) < 3 := by omega
          have hmeth := meth_Done (some ⟨m2, 0, none⟩)
          have HC : Hid (Calls Try.prog 83 #[.pointer (some ⟨m2, 0, none⟩)] wr (fun e W' => ∃ sn sc da dc, e = .returned (.tuple #[.agg (resC 0 sn sc da 4 dc), .bool true]) ∧ OwnB W' wr.heap.size da dc z4 ∧ Kept No wr W')) := by rw [← HMs.out.2.2]; exact ai_done HA.out
          go_wp2_with fail
          refine Calls.mono HC.out ?_
          rintro e wh ⟨sn, sc, da1, dc1, rfl, hO, hkh⟩
          have hst := alR_run wh sn sc da1 dc1
          have hc6 := alR_cell wh sn sc da1 dc1
          have HO : Hid (OwnB (alR wh (resC 0 sn sc da1 4 dc1)) wr.heap.size da1 dc1 z4) := hO.no (alR_kept _ _)
          have HK : Hid (Kept No wr (alR wh (resC 0 sn sc da1 4 dc1))) := hkh.then (alR_kept _ _)
          generalize alR wh (resC 0 sn sc da1 4 dc1) = wl at hst hc6 HO HK
          have HW1 : Hid (Own 25 1 (wl.alloc (.cells #[.slice da1 4 dc1] 25)) wl.heap.size (some ⟨wl.heap.size, 0, none⟩) 1 1 [.slice da1 4 dc1] ∧ Kept No wl (wl.alloc (.cells #[.slice da1 4 dc1] 25))) := ⟨own1 wl _ _ (Nat.le_refl _), (Kept.refl No _).alloc _⟩
          have HRw : Hid (Gx.Rw (wl.alloc (.cells #[.slice da1 4 dc1] 25)) w.heap.size ra rc K ∧ w.heap.size ≤ (wl.alloc (.cells #[.slice da1 4 dc1] 25)).heap.size) := ⟨HA.out.row.no (HK.out.then HW1.out.2), (HA.out.kp.then (HK.out.then HW1.out.2)).size⟩
          have hn60 : n ≤ 60 := by have := HN.out.2.1; omega
          have h0n : 0 < n ∨ 0 < 1 := .inr (by decide)
          clear HC hmeth hO hkh
          go_wp2_with (at_builtin; go_must (refine wp_appQ rfl _ _ rfl w.heap.size ra n rc K rfl HN.out.1 HRw.out.1 wl.heap.size (some ⟨wl.heap.size, 0, none⟩) 1 1 [⟨da1, 4, dc1⟩] rfl rfl HW1.out.1 (by omega) h0n HRw.out.2 ?_; intro ra2 rc2 wg2 HR HC2))
          obtain ⟨Z2, hA8⟩ := ai_one HA.out (HK.out.then HW1.out.2) (HO.out.no HW1.out.2) HR.out HC2.out
          have HN2 : Hid ((K ++ [(⟨da1, 4, dc1⟩ : Gx.Ent)]).length = n + 1 ∧ n + 1 ≤ 45 + (t + 1) ∧ 5 ≤ n + 1) := ⟨by rw [List.length_append, HN.out.1]; rfl, by have := HN.out.2.1; omega, by have := HN.out.2.2; omega⟩
          have HA8 : Hid (Ai No No p w rg ms 3 0 ra2 rc2 (K ++ [⟨da1, 4, dc1⟩]) I Z2 wg2) := hA8
          clear hA8 HR HC2 HO HK HW1 HRw HN HA
          go_roundw
          case rel => exact ⟨t + 1, n + 1, ra2, rc2, _, Z2, by omega, by go_num, rfl, HN2, HA8⟩
          case measure => simp [intOf]; omega
        · have i7 : ¬ (t : Int) < 3 := by omega
          obtain rfl : t = 3 := by omega
          have hmeth0 := meth_Tick (some ⟨m0, 0, none⟩)
          have hmeth1 := meth_Tick (some ⟨m1, 0, none⟩)
          have HEl : Hid (∀ k, Gx.EB K k → k < wr.heap.size) := fun k e => (HA.out.el e).2.1
          have HC : Hid (Calls Try.prog 86 #[.pointer (some ⟨m0, 0, none⟩)] wr (fun e W' => ∃ la ln lc, e = .returned (.slice la ln lc) ∧ ∃ P' x hq qs, Ai No P' p w rg ms 3 0 ra rc K I Z W' ∧ Tq w P' No p 0 la ln lc x hq qs wr.heap.size W' ∧ Kept No wr W')) := by rw [← HMs.out.1]; exact ai_tick (by decide) rfl HLz.out.1 HLz.out.2.1 HA.out
          go_wp2_with fail
          refine Calls.mono HC.out ?_
          rintro e wa ⟨la1, ln1, lc1, rfl, P1, x1, hq1, qs1, hA1, hT1, hka⟩
          obtain rfl : ln1 = 5 := hT1.tl
          have HA1 : Hid (Ai No P1 p w rg ms 3 0 ra rc K I Z wa) := hA1
          have HT1 : Hid (Tq w P1 No p 0 la1 5 lc1 x1 hq1 qs1 wr.heap.size wa ∧ wr.heap.size ≤ wa.heap.size) := ⟨hT1, hka.size⟩
          clear HC hA1 hT1 hka HA
          have HC : Hid (Calls Try.prog 86 #[.pointer (some ⟨m1, 0, none⟩)] wa (fun e W' => ∃ la ln lc, e = .returned (.slice la ln lc) ∧ ∃ P' x hq qs, Ai No P' p w rg ms 3 0 ra rc K I Z W' ∧ Tq w P' No p 1 la ln lc x hq qs wa.heap.size W' ∧ Kept No wa W')) := by rw [← HMs.out.2.1]; exact ai_tick (by decide) rfl HLz.out.1 HLz.out.2.1 HA1.out
          go_wp2_with fail
          refine Calls.mono HC.out ?_
          rintro e wb ⟨la2, ln2, lc2, rfl, P2, x2, hq2, qs2, hA2, hT2, hkb⟩
          obtain rfl : ln2 = 5 := hT2.tl
          have HA2 : Hid (Ai No P2 p w rg ms 3 0 ra rc K I Z wb) := hA2
          have HM1 : Hid (Msgs wb wr.heap.size la1 lc1 x1 hq1 (tz p 0) qs1 ∧ qs1.length = 5) := ⟨(HT1.out.1.no hkb).ms, HT1.out.1.ql⟩
          have HM2 : Hid (Msgs wb wa.heap.size la2 lc2 x2 hq2 (tz p 1) qs2 ∧ qs2.length = 5 ∧ wr.heap.size ≤ wa.heap.size) := ⟨hT2.ms, hT2.ql, HT1.out.2⟩
          have hn60 : n ≤ 60 := by have := HN.out.2.1; omega
          clear HC hA2 hT2 hkb HA1 HT1
          go_wp2_with fail
          refine Calls.mono (Gx.grown_any ra n rc w.heap.size w.heap.size K Z wb HA2.out.row HA2.out.er HN.out.1 (by omega) HA2.out.kp.size HA2.out.kp.size HA2.out.rl) ?_
          rintro e wg ⟨rfl, hkg⟩
          obtain ⟨hP0, hP2, hKw⟩ := ai_grown HA2.out hkg
          have HP0 : Hid (Pm p 0 4 (I 0) (ms 0) wg) := hP0
          have HP2 : Hid (Pm p 2 4 (I 2) (ms 2) wg) := hP2
          have HKw : Hid (Kept No w wg) := hKw
          obtain ⟨G1, rfl, hG1⟩ := told_at (n := n0) (HM1.out.1.below hkg (fun k e => HEl.out k e)) HM1.out.2 (show (tz p 0).length = n0 by show p.zs.length = n0; rw [HPa.out.1, HZ.out])
          obtain ⟨G2, rfl, hG2⟩ := told_at (n := n1) (HM2.out.1.below hkg (fun k e => Nat.lt_of_lt_of_le (HEl.out k e) HM2.out.2.2)) HM2.out.2.1 (show (tz p 1).length = n1 from HLz.out.2.2)
          have HG1 : Hid _ := hG1
          have HG2 : Hid _ := hG2
          clear hP0 hP2 hKw hG1 hG2 HM1 HM2 HA2 HN hkg hmeth0 hmeth1 HEl
          go_wp2_with fail
          go_loopw [24] (fun v wt => ∃ (t : Nat), t ≤ 5 ∧ v = .int .i64 (t : Int) ∧ Hid (Kept No wg wt)) (fun v _ => 5 - (intOf v).toNat)
          case atStart => exact ⟨0, by omega, rfl, Kept.refl _ _⟩
          case round =>
            obtain ⟨t, ht5, rfl, HK⟩ := hrel
            by_cases htl : t < 5
            · have i8 : (t : Int) < 5 := by omega
              obtain ⟨b1, d1, hc1, hb1⟩ := HG1.out wr HK.out t htl
              obtain ⟨b2, d2, hc2, hb2⟩ := HG2.out wr HK.out t htl
              have HS1 : Hid (Calls Try.prog 17 #[.slice b1 n0 d1, .slice da0 n0 c0] wr fun e w' => e = .returned (.bool true) ∧ Kept No wr w') := same_l b1 da0 d1 c0 n0 zs wr HZ.out (by omega) (by rw [← HPa.out.1]; exact hb1) (HB0.out.no (HKw.out.then HK.out))
              have HS2 : Hid (∀ W, Kept No wr W → Calls Try.prog 17 #[.slice b2 n1 d2, .slice oa n1 c1] W fun e w' => e = .returned (.bool true) ∧ Kept No W w') := fun W hk => same_l b2 oa d2 c1 n1 bz W HY.out (by omega) (by rw [← HPa.out.2]; exact Nums.no hb2 hk) (HB1.out.no ((HKw.out.then HK.out).then hk))
              have HC2 : Hid (∀ W, Kept No wr W → W.cell? ⟨G2, t * 30 + 15, none⟩ = some (.slice b2 n1 d2)) := fun W hk => hk.cell hc2 (fun e => e)
              clear hb1 hb2 hc2
              go_wp2_with fail
              refine Calls.mono HS1.out ?_
              rintro e wv ⟨rfl, hkv⟩
              have hc2 := HC2.out wv hkv
              have HKv : Hid (Kept No wr wv) := hkv
              clear HC2 HS1 hc1 hkv
              go_wp2_with fail
              refine Calls.mono (HS2.out wv HKv.out) ?_
              rintro e wx ⟨rfl, hkx⟩
              have HKx : Hid (Kept No wg wx) := HK.out.then (HKv.out.then hkx)
              clear HS2 HKv HK hkx hc2
              go_wp2
              go_roundw
              case rel => exact ⟨t + 1, by omega, by go_num, HKx⟩
              case measure => simp [intOf]; omega
            · have i8 : ¬ (t : Int) < 5 := by omega
              have hmeth2 := meth_Done (some ⟨m2, 0, none⟩)
              have HC : Hid (Calls Try.prog 83 #[.pointer (some ⟨m2, 0, none⟩)] wr (fun e W' => ∃ sn sc da dc, e = .returned (.tuple #[.agg (resC 0 sn sc da 4 dc), .bool true]) ∧ OwnB W' wr.heap.size da dc z4 ∧ Kept No wr W')) := by
                rw [← HMs.out.2.2]; exact done_m (HP2.out.kept HK.out (fun k e _ => ⟨fun f => f, e⟩))
              go_wp2_with fail
              refine Calls.mono HC.out ?_
              rintro e wh ⟨sn, sc, da1, dc1, rfl, hO, hkh⟩
              have hst := alR_run wh sn sc da1 dc1
              have hmeth0 := meth_Tick (some ⟨m0, 0, none⟩)
              have HO : Hid (OwnB (alR wh (resC 0 sn sc da1 4 dc1)) wr.heap.size da1 dc1 z4) := hO.no (alR_kept _ _)
              have HKl : Hid (Kept No wg (alR wh (resC 0 sn sc da1 4 dc1))) := HK.out.then (hkh.then (alR_kept _ _))
              have HC6 : Hid ((alR wh (resC 0 sn sc da1 4 dc1)).cell? ⟨wh.heap.size, 6, none⟩ = some (.slice da1 4 dc1)) := alR_cell wh sn sc da1 dc1
              generalize alR wh (resC 0 sn sc da1 4 dc1) = wl at hst HO HKl HC6
              clear HC hmeth2 hO hkh HK
              have HC : Hid (Calls Try.prog 86 #[.pointer (some ⟨m0, 0, none⟩)] wl (fun e W' => ∃ la ln lc x h qs, e = .returned (.slice la ln lc) ∧ Msgs W' wl.heap.size la lc x h (tz p 0) qs ∧ qs.length = ln ∧ ln = tellN 0 ∧ Kept No wl W')) := by
                rw [← HMs.out.1]; exact tick_m (by decide) (by have := HLz.out.1; omega) (by have := HLz.out.2.1; omega) (HP0.out.kept HKl.out (fun k e _ => ⟨fun f => f, e⟩))
              go_wp2_with fail
              refine Calls.mono HC.out ?_
              rintro e wm ⟨la3, ln3, lc3, x3, hq3, qs3, rfl, hM3, hql3, htl3, hkm⟩
              obtain rfl : ln3 = 5 := htl3
              obtain ⟨G3, rfl, hG3⟩ := told_at (n := n0) hM3 hql3 (show (tz p 0).length = n0 by show p.zs.length = n0; rw [HPa.out.1, HZ.out])
              have HG3 : Hid _ := hG3
              have HKm : Hid (Kept No wl wm) := hkm
              clear hM3 hql3 hkm hG3 HC hst hmeth0
              obtain ⟨b3, d3, hc3, hb3⟩ := HG3.out wm.drew (Kept.refl No wm).drew 0 (by decide)
              simp only [Nat.zero_mul, Nat.zero_add] at hc3
              have HC3 : Hid (∀ W, Kept No wm W → W.cell? ⟨G3, 15, none⟩ = some (.slice b3 n0 d3) ∧ Bytes W b3 (tz p 0)) := fun W hk => ⟨hk.cell (show wm.cell? _ = _ from hc3) (fun e => e), Nums.no (show Nums .u8 wm b3 _ from hb3) hk⟩
              have hc6 : wm.cell? ⟨wh.heap.size, 6, none⟩ = some (.slice da1 4 dc1) := HKm.out.cell HC6.out (fun e => e)
              have HS1 : Hid (∀ W, Kept No wm W → Box W wm.heap.size 5 #[.int .u8 0, .int .u8 0, .int .u8 0, .int .u8 0] → Calls Try.prog 17 #[.slice da1 4 dc1, .slice (some ⟨wm.heap.size, 0, none⟩) 4 4] W fun e w' => e = .returned (.bool true) ∧ Kept No W w') := fun W hk hbx => same_l da1 _ dc1 4 4 z4 W rfl (by decide) (OwnB.bytes (Own.no (Own.no HO.out HKm.out) hk)) (Box.nums (zs := z4) hbx 4)
              have HS2 : Hid (∀ W, Kept No wm W → Calls Try.prog 17 #[.slice b3 n0 d3, .slice da0 n0 c0] W fun e w' => e = .returned (.bool true) ∧ Kept No W w') := fun W hk => same_l b3 da0 d3 c0 n0 zs W HZ.out (by omega) (by rw [← HPa.out.1]; exact (HC3.out W hk).2) (HB0.out.no (((HKw.out.then HKl.out).then HKm.out).then hk))
              have HKz : Hid (Kept No w wm) := (HKw.out.then HKl.out).then HKm.out
              clear hc3 hb3 HG3 HO HKl HC6 HKm HP0 HP2 HKw
              go_upto_region 54 with fail
              refine r54 _ wh.heap.size G3 n0 c0 lc3 dc1 d3 da1 da0 b3 wm _ rfl rfl rfl rfl hc6 (HC3.out wm (Kept.refl _ _)).1 (fun _ _ t _ _ h => by cases t <;> exact h) HS1.out HS2.out ?_
              intro wo hko
              have HKo : Hid (Kept No wm wo) := hko
              clear hko hc6 HC3 HS1 HS2
              simp only [Wa.pA, Wa.pB, Wa.p1, Wa.p2, Wa.p3]
              go_wp2
              go_ret
              exact ⟨rfl, (HKz.out.then HKo.out).below (Nat.le_refl _) (fun _ e => e.elim)⟩
end

end Go.Proofs.Ytgiokkcdgoloaaa
