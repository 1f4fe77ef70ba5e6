import Derived.Test.YtpapbleabjpbfabFr
import Derived.Test.YtpapbleabjpbfabFx
import Derived.Test.YtpapbleabjpbfabCg
import Derived.Test.YtpapbleabjpbfabKn
import Derived.Deep.RegionHeld3
namespace Go.Proofs.Ytpapbleabjpbfab
open Go.RowKit
set_option linter.unusedVariables false

set_option maxRecDepth 100000 in
set_option maxHeartbeats 1000000 in
theorem has_any (a : Option Addr) (cap n : Nat) (zs : List Int) (s : Int) (hn : zs.length = n) (w : World) (hm : n ≤ 1000) (hb : Nums .i64 w a zs) :
    Calls Try.prog 14 #[.slice a n cap, .int .i64 s] w fun e w' => e = .returned (.bool (decide (s ∈ zs))) ∧ w' = w := by
  have HB : Hid (Nums .i64 w a zs) := hb
  have HN : Hid (zs.length = n) := hn
  clear hb hn
  go_enter Try.func14, Try.ntmps14
  go_wp2
  go_loop [5] (fun i => ∃ k : Nat, k ≤ n ∧ i = .int .i64 k ∧ Hid (¬ s ∈ zs.take k)) (fun i => n - (intOf i).toNat)
  case atStart => exact ⟨0, Nat.zero_le _, rfl, by simp [Hid]⟩
  case round =>
    obtain ⟨k, hk, rfl, HE⟩ := hrel
    by_cases hlt : k < n
    · have hl : k < zs.length := by rw [HN.out]; exact hlt
      obtain ⟨b, off, rfl, hcell⟩ := HB.out k hl
      have HS : Hid (s ∈ zs.take (k + 1) ↔ (s ∈ zs.take k ∨ s = zs[k]?.getD 0)) := by
        show _ ↔ _
        rw [List.take_succ_eq_append_getElem hl, List.mem_append, List.getElem?_eq_getElem hl]
        simp
      have HZ : Hid (zs[k]?.getD 0 ∈ zs) := by show _ ∈ _; rw [List.getElem?_eq_getElem hl]; exact List.getElem_mem hl
      generalize zs[k]?.getD 0 = z at hcell HS HZ
      have hk' : (k : Int) < (n : Int) := by omega
      clear hl
      by_cases hz : z = s
      · subst hz
        have HT : Hid (decide (z ∈ zs) = true) := decide_eq_true HZ.out
        clear HS HZ HE
        go_wp2
        go_ret
        exact ⟨ret_bool HT.out.symm, rfl⟩
      · have HT : Hid (¬ s ∈ zs.take (k + 1)) := by
          intro h
          rcases HS.out.1 h with h | h
          · exact HE.out h
          · exact hz h.symm
        have hz' : (z == s) = false := by simpa using hz
        clear hz HS HE HZ
        go_wp2
        go_round
        case rel => exact ⟨k + 1, by omega, by go_num, HT⟩
        case measure => simp [intOf]; omega
    · have hk' : ¬ (k : Int) < (n : Int) := by omega
      have HT : Hid (decide (s ∈ zs) = false) := by
        have := HE.out
        rw [List.take_of_length_le (by rw [HN.out]; omega)] at this
        exact decide_eq_false this
      clear HE
      go_wp2
      go_ret
      exact ⟨ret_bool HT.out.symm, rfl⟩


theorem has_below (a : Option Addr) (cap n : Nat) (zs : List Int) (s : Int) (hn : zs.length = n) (w : World) (hm : n ≤ 1000) (hb : Nums .i64 w a zs) :
    Calls Try.prog 14 #[.slice a n cap, .int .i64 s] w fun e w' => e = .returned (.bool (decide (s ∈ zs))) ∧ Below w.heap.size w w' :=
  (has_any a cap n zs s hn w hm hb).mono (by rintro e w' ⟨rfl, rfl⟩; exact ⟨rfl, Below.refl _ _⟩)

theorem Nums.front {k : IntKind} {w : World} {a : Option Addr} {zs : List Int} (h : Nums k w a zs) (i : Nat) : Nums k w a (zs.take i) := by
  intro j hj
  rw [List.length_take] at hj
  obtain ⟨b, off, e, hc⟩ := h j (by omega)
  refine ⟨b, off, e, ?_⟩
  rw [List.getElem?_take, if_pos (by omega)]
  exact hc

set_option maxRecDepth 100000 in
set_option maxHeartbeats 8000000 in
theorem unlikeWalk (x : Cfg) (a1 : Option Addr) (n1 c1 : Nat) (ks : List Ky) (w : World) (hx : CfgOk w x) (h1 : ks.length = n1) (hk : Keys w a1 ks) (hb1 : n1 ≤ 140737488355328) :
    Calls Try.prog 3 #[cfgV (.slice x.a x.n x.c) x.f x.p x.bu x.bl x.ro, .slice a1 n1 c1] w fun e w' => e = .returned (.bool true) ∧ Below w.heap.size w w' := by
  have HL1 : Hid (ks.length = n1) := h1
  have HKs : Hid (Keys w a1 ks) := hk
  clear h1 hk
  have hmix : Try.prog.follows .mixedOrders = true := by kernel_rfl
  have hfn := fn_nil
  obtain ⟨xa, xn, xc, zs, f, p, bu, bl, ro⟩ := x
  have hln : zs.length = xn := hx.len
  subst hln
  have HX : Hid (CfgOk w ⟨xa, zs.length, xc, zs, f, p, bu, bl, ro⟩) := hx
  have hle : zs.length ≤ 17592186043904 := hx.le
  clear hx
  simp only
  go_enter Try.func3, Try.ntmps3
  go_wp2_with fail
  obtain ⟨w0, hw0⟩ : ∃ w0, w0 = w.alloc (.cells #[.slice xa zs.length xc, .int .i64 f, .int .i64 p, .int .i64 bu, .int .i64 bl, .int .i64 ro] 24) := ⟨_, rfl⟩
  rw [← hw0]
  obtain ⟨cb, hcb⟩ : ∃ cb, cb = w.heap.size := ⟨_, rfl⟩
  have HC0 : Hid (Box w0 cb 24 #[.slice xa zs.length xc, .int .i64 f, .int .i64 p, .int .i64 bu, .int .i64 bl, .int .i64 ro]) := by rw [hw0, hcb]; exact Box.new _ _ _
  have HK0 : Hid (Kept No w w0) := by rw [hw0]; exact (Kept.refl No w).alloc _
  rw [← hcb]
  clear hw0 hcb
  refine Calls.mono (known_any w0) ?_
  rintro e w1 ⟨rfl, hk1⟩
  have HC1 : Hid (Box w1 cb 24 #[.slice xa zs.length xc, .int .i64 f, .int .i64 p, .int .i64 bu, .int .i64 bl, .int .i64 ro]) := HC0.out.kept hk1 (fun e => e)
  have HK1 : Hid (Kept No w w1) := HK0.out.then hk1
  clear hk1 HC0 HK0
  have HM : Hid (∀ W, Kept No w1 W → Nums .i64 W xa zs ∧ W.cell? ⟨cb, 0, none⟩ = some (.slice xa zs.length xc) ∧ W.cell? ⟨cb, 1, none⟩ = some (.int .i64 f) ∧ W.cell? ⟨cb, 2, none⟩ = some (.int .i64 p) ∧ W.cell? ⟨cb, 3, none⟩ = some (.int .i64 bu) ∧ W.cell? ⟨cb, 4, none⟩ = some (.int .i64 bl) ∧ W.cell? ⟨cb, 5, none⟩ = some (.int .i64 ro)) := fun W hk => by
    have hb := HC1.out.kept hk (fun e => e)
    exact ⟨HX.out.nums.no (HK1.out.then hk), (hb.cell 0).trans rfl, (hb.cell 1).trans rfl, (hb.cell 2).trans rfl, (hb.cell 3).trans rfl, (hb.cell 4).trans rfl, (hb.cell 5).trans rfl⟩
  clear HC1
  obtain ⟨hn1, c0, c1, c2, c3, c4, c5⟩ := HM.out w1 (Kept.refl _ _)
  have HN1 : Hid (Nums .i64 w1 xa zs) := hn1
  clear hn1
  go_wp2_with fail
  refine Calls.mono (is_any xa xc zs f p bu bl ro w1 HN1.out) ?_
  rintro e w2 ⟨rfl, hk2⟩
  have HK2 : Hid (Kept No w1 w2) := hk2
  clear hk2 HN1 c0 c1 c2 c3 c4 c5
  by_cases hc : cfgB zs f p bu bl ro = true
  · rw [hc]
    obtain ⟨⟨hf0, hf3, hf1, h64⟩, _, ⟨hp1, hp2⟩, ⟨hu1, hu2⟩, _⟩ := cfgB_true hc
    obtain ⟨pn, hpn⟩ := Int.eq_ofNat_of_zero_le (show 0 ≤ p by omega)
    have hpn' : p = (pn : Int) := hpn
    subst hpn'
    have HCt : Hid (cfgB zs f pn bu bl ro = true) := hc
    clear hc
    obtain ⟨hn2, c0, c1, c2, c3, c4, c5⟩ := HM.out w2 HK2.out
    have HN2 : Hid (Nums .i64 w2 xa zs) := hn2
    clear hn2
    go_wp2_with fail
    refine Calls.mono (made_any xa xc zs f pn bu bl ro w2 HN2.out HX.out.all HCt.out) ?_
    rintro e w3 ⟨r, rfl, hr3, hk3⟩
    obtain ⟨sa, sn, sc, pg, pc, m, hv3⟩ := hr3.v
    obtain ⟨hps1, hps2⟩ := pts_pos HCt.out
    have HH : Hid (HashI (sortP (ptsOf (sortI zs) pn))) := pts_hash _ _
    have HRi : Hid (Rising (sortP (ptsOf (sortI zs) pn))) := pts_rising _ _
    have HSI : Hid (SrvI (sortP (ptsOf (sortI zs) pn))) := pts_srvI HCt.out
    have HSv : Hid (Srvs (sortP (ptsOf (sortI zs) pn)) zs) := pts_srvs HCt.out
    have HPz : Hid (∀ z ∈ zs, z ≠ -1) := fun z hz => by have := ((good_all zs).1 (cfgB_true HCt.out).2.1).1 z hz; omega
    generalize sortP (ptsOf (sortI zs) pn) = ps at hv3 hps1 hps2 HH HRi HSI HSv
    have e1 := hv3.len
    have HR3 : Hid (RingV w3 r sa sn sc f pn bu bl ro pg pc m ps) := hv3
    have HK3 : Hid (Kept No w1 w3) := HK2.out.then hk3
    clear hr3 hv3 hk3 HN2 HK2 c0 c1 c2 c3 c4 c5 HCt
    subst e1
    go_wp2_with (go_at_call 10
                 refine Calls.mono (points_any r sa sn sc f pn bu bl ro pg pc _ ps w3 HR3.out) ?_
                 rintro e w4 ⟨rfl, hb4, hk4⟩
                 have HK34 : Hid (Kept No w3 w4) := hk4
                 clear hb4 hk4)
    have HK14 : Hid (Kept No w1 w4) := HK3.out.then HK34.out
    have HKw4 : Hid (Kept No w w4) := HK1.out.then HK14.out
    have HMe : Hid (∀ W, Kept No w4 W → Nums .i64 W xa zs ∧ W.cell? ⟨cb, 0, none⟩ = some (.slice xa zs.length xc) ∧ W.cell? ⟨cb, 1, none⟩ = some (.int .i64 f) ∧ W.cell? ⟨cb, 2, none⟩ = some (.int .i64 pn) ∧ W.cell? ⟨cb, 3, none⟩ = some (.int .i64 bu) ∧ W.cell? ⟨cb, 4, none⟩ = some (.int .i64 bl) ∧ W.cell? ⟨cb, 5, none⟩ = some (.int .i64 ro)) := fun W hk => HM.out W (HK14.out.then hk)
    have HRe : Hid (∀ W, Kept No w4 W → RingV W r sa sn sc f pn bu bl ro pg pc ps.length ps) := fun W hk => HR3.out.no (HK34.out.then hk)
    obtain ⟨wn, hwn⟩ := Int.eq_ofNat_of_zero_le (show 0 ≤ 2 * f + 1 by omega)
    have hwn' : (wn : Int) = 2 * f + 1 := hwn.symm
    have hw7 : wn ≤ 7 := by omega
    have hw1 : 1 ≤ wn := by omega
    have hwz : wn ≤ zs.length := by omega
    have HFf : Hid (0 ≤ f ∧ f ≤ 3 ∧ 1 ≤ bu ∧ bu ≤ 256 ∧ 1 ≤ ps.length ∧ ps.length ≤ 4096 ∧ (wn : Int) = 2 * f + 1 ∧ wn ≤ zs.length ∧ 1 ≤ wn) := ⟨hf0, hf3, hu1, hu2, hps1, hps2, hwn', hwz, hw1⟩
    have HGy : Hid (∀ W kd a b c, Kept No w4 W → keyB kd a b c bu = true → Calls Try.prog 12 #[.pointer (some ⟨r, 0, none⟩), keyV kd a b c] W fun e w' => ∃ ga, e = .returned (.tuple #[.slice ga wn wn, .int .i64 0]) ∧ Nums .i64 w' ga (grp ps (homeH kd a b c) wn) ∧ Kept No W w') := fun W kd a b c hk hkb => by
      obtain ⟨b1, b2, b3, b4, b5, b6, b7, b8, _⟩ := HFf.out
      refine (groupYes_any r sa sn sc f pn bu bl ro pg pc _ wn ps kd a b c W (HRe.out W hk) (by omega) (by omega) hkb (by omega) (by omega) HRi.out HSI.out b1 b2 b7).mono ?_
      rintro e w' ⟨g, hg, rfl, ho, hk'⟩
      rw [grp_len HSv.out _ wn b8] at ho ⊢
      exact ⟨_, rfl, Own.nums ho (by rw [grp_len HSv.out _ wn b8]), hk'⟩
    have HFi : Hid (∀ W kd a b c, Kept No w4 W → Calls Try.prog 15 #[.pointer (some ⟨r, 0, none⟩), keyV kd a b c, .int .i64 ((grp ps (homeH kd a b c) wn)[0]?.getD 0)] W fun e w' => e = .returned (.bool true) ∧ Below W.heap.size W w') := fun W kd a b c hk => by
      obtain ⟨b1, b2, b3, b4, b5, b6, b7, b8, b9⟩ := HFf.out
      exact isFirst_any r sa sn sc f pn bu bl ro pg pc _ ps kd a b c _ W (HRe.out W hk) b6 b5 HRi.out HH.out (fun i hi => HPz.out _ (HSv.out.mem i hi)) (grp_head _ wn b5 b9)
    have HGm : Hid (∀ h i, i < wn → (grp ps h wn)[i]?.getD 0 ∈ zs ∧ ¬ (grp ps h wn)[i]?.getD 0 ∈ (grp ps h wn).take i ∧ i < (grp ps h wn).length) := fun h i hi => by
      obtain ⟨b1, b2, b3, b4, b5, b6, b7, b8, b9⟩ := HFf.out
      have hl := grp_len HSv.out h wn b8
      refine ⟨?_, grp_not h wn i (by omega), by omega⟩
      refine grp_mem HSv.out b5 h wn _ ?_
      rw [List.getElem?_eq_getElem (by omega)]
      exact List.getElem_mem _
    have HRg : Hid (∀ W kd a b c, Kept No w4 W → Calls Try.prog 11 #[keyV kd a b c, cfgV (.slice xa zs.length xc) f pn bu bl ro] W fun e w' => e = .returned (.bool (keyB kd a b c bu)) ∧ Below W.heap.size W w') := fun W kd a b c _ => toBelow (rright_any kd a b c xa zs.length xc f pn bu bl ro W (by omega) (by omega))
    have HMj : Hid (∀ W, Calls Try.prog 13 #[cfgV (.slice xa zs.length xc) f pn bu bl ro] W fun e w' => e = .returned (.int .i64 (f + 1)) ∧ Kept No W w') := fun W => majority_any xa zs.length xc f pn bu bl ro W hf0 (by omega)
    have HHa : Hid (∀ W v, Kept No w4 W → v ∈ zs → Calls Try.prog 14 #[.slice xa zs.length xc, .int .i64 v] W fun e w' => e = .returned (.bool true) ∧ Below W.heap.size W w') := fun W v hk hv => by
      have := has_below xa xc zs.length zs v rfl W (by omega) (HMe.out W hk).1
      rw [decide_eq_true hv] at this
      exact this
    have HSh : Hid (∀ W s c, Kept No w4 W → c < 2 ^ 53 → cntN ps s ps.length = ((c : Nat) : Int) → Calls Try.prog 16 #[.pointer (some ⟨r, 0, none⟩), .int .i64 s] W fun e w' => e = .returned (.float .f64 (shW c)) ∧ Kept No W w') := fun W s c hk hc he => by
      obtain ⟨b1, b2, b3, b4, b5, b6, b7, b8, b9⟩ := HFf.out
      exact share_any r sa sn sc f pn bu bl ro pg pc _ ps s W (HRe.out W hk) b6 HH.out _ (by rw [he]; exact share_sh c hc)
    have HSu : Hid (∀ i, i < zs.length → ∃ s0 c : Nat, sumC ps ps.length (zs.take i) = (s0 : Int) ∧ cntN ps (zs[i]?.getD 0) ps.length = (c : Int) ∧ sumC ps ps.length (zs.take (i + 1)) = ((s0 + c : Nat) : Int) ∧ s0 + c < 2 ^ 53) := fun i hi => by
      have t1 := sumC_take HRi.out HH.out zs i
      have t2 := sumC_take HRi.out HH.out zs (i + 1)
      have t3 := cnt_nn HRi.out HH.out (zs[i]?.getD 0) ps.length (Nat.le_refl _)
      have t4 := sumC_next (ps := ps) hi
      have t5 := sumC_all HSv.out (by have := HFf.out.2.2.2.2.1; omega)
      obtain ⟨s0, e0⟩ := Int.eq_ofNat_of_zero_le t1.1
      obtain ⟨c, ec⟩ := Int.eq_ofNat_of_zero_le t3
      have e0' : sumC ps ps.length (zs.take i) = (s0 : Int) := e0
      have ec' : cntN ps (zs[i]?.getD 0) ps.length = (c : Int) := ec
      rw [e0', ec'] at t4
      refine ⟨s0, c, e0', ec', by rw [t4]; omega, ?_⟩
      rw [t4, t5] at t2
      omega
    have HSe : Hid (sumC ps ps.length zs = 4294967296) := sumC_all HSv.out (by have := HFf.out.2.2.2.2.1; omega)
    have q1 : IntKind.i64.wrap (2 * f) = 2 * f := by rw [IntKind.wrap_i64]; omega
    have q2 : IntKind.i64.wrap (2 * f + 1) = (wn : Int) := by rw [IntKind.wrap_i64]; omega
    have q3 : ¬ (wn : Int) < f + 1 := by omega
    clear HH HRi HSI HSv HPz HR3 HRe HM HK3 HK34 HK14 HFf hps1 hps2 hwn hwn' hwz hf0 hf3 hf1 hp1 hp2 hu1 hu2 hfn
    go_loopw [6] (fun i wr => ∃ k : Nat, k ≤ n1 ∧ i = .int .i64 k ∧ Hid (Kept No w4 wr)) (fun i _ => n1 - (intOf i).toNat)
    case atStart => exact ⟨0, Nat.zero_le _, rfl, Kept.refl _ _⟩
    case round =>
      obtain ⟨g, hg, rfl, HK⟩ := hrel
      by_cases hgl : g < n1
      · obtain ⟨y, hyk⟩ : ∃ y, ks[g]? = some y := ⟨_, List.getElem?_eq_getElem (by rw [HL1.out]; exact hgl)⟩
        obtain ⟨kb, koff, rfl, y0, y1, y2, y3⟩ := (HKs.out.no (HKw4.out.then HK.out)) g y hyk
        have hk1 : (g : Int) < (n1 : Int) := by omega
        have hk0 : (0 : Int) ≤ (g : Int) := by omega
        obtain ⟨kd, ka, kb', kc⟩ := y
        simp only at y0 y1 y2 y3
        have HKy : Hid (∀ W, Kept No w4 W → W.cell? ⟨kb, koff + g * 4, none⟩ = some (.int .i64 kd) ∧ W.cell? ⟨kb, koff + g * 4 + 1, none⟩ = some (.int .i64 ka) ∧ W.cell? ⟨kb, koff + g * 4 + 2, none⟩ = some (.int .i64 kb') ∧ W.cell? ⟨kb, koff + g * 4 + 3, none⟩ = some (.int .i64 kc)) := fun W hk => by
          obtain ⟨b', o', e', z0, z1, z2, z3⟩ := (HKs.out.no (HKw4.out.then hk)) g _ hyk
          cases e'
          exact ⟨z0, z1, z2, z3⟩
        clear hyk
        obtain ⟨_, c0, c1, c2, c3, c4, c5⟩ := HMe.out wr HK.out
        have z0 := fun dd os => cell_regrown y0 dd os
        have z1 := fun dd os => cell_regrown y1 dd os
        have z2 := fun dd os => cell_regrown y2 dd os
        have z3 := fun dd os => cell_regrown y3 dd os
        have v0 := fun dd os => cell_regrown c0 dd os
        have v1 := fun dd os => cell_regrown c1 dd os
        have v2 := fun dd os => cell_regrown c2 dd os
        have v3 := fun dd os => cell_regrown c3 dd os
        have v4 := fun dd os => cell_regrown c4 dd os
        have v5 := fun dd os => cell_regrown c5 dd os
        have HR1 : Hid (∀ W, Kept No wr W → _) := fun W hk => HRg.out W kd ka kb' kc (HK.out.then hk)
        clear y0 y1 y2 y3 c0 c1 c2 c3 c4 c5
        go_wp2
        refine wp_region_quiet_below hmix (by kernel_rfl) ?_
        repeat (quiet_step (fail))
        quiet_step (exact Calls.regrown_of (HR1.out _ (kept_regrown _ _ _)))
        repeat (quiet_step (fail))
        refine wpQuiet_nil ?_
        intro _ hw'
        obtain ⟨⟨nq, osq⟩, hw''⟩ := hw'
        rw [hw'']
        simp only []
        have HKr : Hid (Kept No w4 (Sort.grow (redrawn wr nq) osq)) := HK.out.then (kept_regrown _ _ _)
        clear hw'' HK z0 z1 z2 z3 v0 v1 v2 v3 v4 v5 HR1
        generalize Sort.grow (redrawn wr nq) osq = wz at HKr
        by_cases hkb : keyB kd ka kb' kc bu = true
        · rw [hkb]
          have HGk : Hid _ := HGy.out wz kd ka kb' kc HKr.out hkb
          obtain ⟨y0, y1, y2, y3⟩ := HKy.out wz HKr.out
          go_wp2_with (go_at_call 12
                       refine Calls.mono HGk.out ?_
                       rintro e wf ⟨ga, rfl, hn3, hk3⟩
                       have HN3 : Hid (Nums .i64 wf ga (grp ps (homeH kd ka kb' kc) wn)) := hn3
                       have HKf : Hid (Kept No w4 wf) := HKr.out.then hk3
                       obtain ⟨_, c0, c1, c2, c3, c4, c5⟩ := HMe.out wf HKf.out
                       clear hn3 hk3 y0 y1 y2 y3)
          refine Calls.mono (HMj.out wf) ?_
          rintro e wg ⟨rfl, hkg⟩
          have HKg : Hid (Kept No w4 wg) := HKf.out.then hkg
          have HNg : Hid (Nums .i64 wg ga (grp ps (homeH kd ka kb' kc) wn)) := HN3.out.no hkg
          have HGi : Hid (∀ i, i < wn → _) := HGm.out (homeH kd ka kb' kc)
          have HFk : Hid (∀ W, Kept No w4 W → _) := fun W hk => HFi.out W kd ka kb' kc hk
          clear hkg HKf HN3 c0 c1 c2 c3 c4 c5 HKr HGk hkb
          generalize grp ps (homeH kd ka kb' kc) wn = l at HNg HGi HFk
          go_wp2_with fail
          go_loopw [9] (fun i wr => ∃ q : Nat, q ≤ wn ∧ i = .int .i64 q ∧ Hid (Kept No wg wr)) (fun i _ => wn - (intOf i).toNat)
          case atStart => exact ⟨0, Nat.zero_le _, rfl, Kept.refl _ _⟩
          case round =>
            obtain ⟨q, hq, rfl, HKq⟩ := hrel
            by_cases hq1 : q < wn
            · obtain ⟨m1, m2, m3⟩ := HGi.out q hq1
              obtain ⟨_, c0, _, _, _, _, _⟩ := HMe.out wr (HKg.out.then HKq.out)
              obtain ⟨lb, loff, rfl, lc⟩ := (HNg.out.no HKq.out) q m3
              have HH1 : Hid (∀ W, Kept No wr W → _) := fun W hk => HHa.out W _ ((HKg.out.then HKq.out).then hk) m1
              have HH2 : Hid (∀ W, Kept No wr W → Calls Try.prog 14 #[.slice (some ⟨lb, loff, none⟩) q wn, .int .i64 (l[q]?.getD 0)] W fun e w' => e = .returned (.bool false) ∧ Below W.heap.size W w') := fun W hk => by
                have := has_below (some ⟨lb, loff, none⟩) wn q (l.take q) (l[q]?.getD 0) (by rw [List.length_take]; omega) W (by omega) ((HNg.out.no (HKq.out.then hk)).front q)
                rw [decide_eq_false m2] at this
                exact this
              generalize l[q]?.getD 0 = v at lc HH1 HH2 m1 m2
              have z0 := fun dd os => cell_regrown lc dd os
              have z1 := fun dd os => cell_regrown c0 dd os
              have r1 : (q : Int) < (wn : Int) := by omega
              have r2 : (0 : Int) ≤ (q : Int) := by omega
              have r3 : (q : Int) ≤ (wn : Int) := by omega
              clear lc c0 m1 m2 m3
              go_wp2
              refine wp_region_quiet_below hmix (by kernel_rfl) ?_
              repeat (quiet_step (fail))
              quiet_step (exact Calls.regrown_of (HH1.out _ (kept_regrown _ _ _)))
              repeat (quiet_step (fail))
              quiet_step (exact Calls.regrown_of (HH2.out _ (kept_regrown _ _ _)))
              repeat (quiet_step (fail))
              refine wpQuiet_nil ?_
              intro _ hw'
              obtain ⟨⟨nq, osq⟩, hw''⟩ := hw'
              rw [hw'']
              simp only []
              have HKr : Hid (Kept No wg (Sort.grow (redrawn wr nq) osq)) := HKq.out.then (kept_regrown _ _ _)
              clear hw'' HKq z0 z1 HH1 HH2
              generalize Sort.grow (redrawn wr nq) osq = wz at HKr
              go_wp2
              go_roundw
              case rel => exact ⟨q + 1, by omega, by go_num, HKr⟩
              case measure => simp [intOf]; omega
            · have r1 : ¬ (q : Int) < (wn : Int) := by omega
              obtain ⟨_, _, m3⟩ := HGi.out 0 (by omega)
              obtain ⟨y0, y1, y2, y3⟩ := HKy.out wr (HKg.out.then HKq.out)
              obtain ⟨lb, loff, rfl, lc⟩ := (HNg.out.no HKq.out) 0 m3
              rw [Nat.add_zero] at lc
              have HF1 : Hid (∀ W, Kept No wr W → _) := fun W hk => HFk.out W ((HKg.out.then HKq.out).then hk)
              generalize l[0]?.getD 0 = v at lc HF1
              have z0 := fun dd os => cell_regrown y0 dd os
              have z1 := fun dd os => cell_regrown y1 dd os
              have z2 := fun dd os => cell_regrown y2 dd os
              have z3 := fun dd os => cell_regrown y3 dd os
              have z4 := fun dd os => cell_regrown lc dd os
              have r2 : (0 : Int) < (wn : Int) := by omega
              have r3 : 0 < wn := by omega
              clear lc y0 y1 y2 y3 m3
              go_wp2
              refine wp_region_quiet_below hmix (by kernel_rfl) ?_
              repeat (quiet_step (fail))
              quiet_step (exact Calls.regrown_of (HF1.out _ (kept_regrown _ _ _)))
              repeat (quiet_step (fail))
              refine wpQuiet_nil ?_
              intro _ hw'
              obtain ⟨⟨nq, osq⟩, hw''⟩ := hw'
              rw [hw'']
              simp only []
              have HKr : Hid (Kept No w4 (Sort.grow (redrawn wr nq) osq)) := (HKg.out.then HKq.out).then (kept_regrown _ _ _)
              clear hw'' HKq z0 z1 z2 z3 z4 HF1
              generalize Sort.grow (redrawn wr nq) osq = wz at HKr
              go_wp2
              go_roundw
              case rel => exact ⟨g + 1, by omega, by go_num, HKr⟩
              case measure => simp [intOf]; omega
        · have hkf : keyB kd ka kb' kc bu = false := by simpa using hkb
          rw [hkf]
          go_wp2
          go_roundw
          case rel => exact ⟨g + 1, by omega, by go_num, HKr⟩
          case measure => simp [intOf]; omega
      · have hk1 : ¬ (g : Int) < (n1 : Int) := by omega
        have HKn := HK
        clear HK HGy HFi HGm HRg HMj HHa q1 q2 q3 HKs
        go_wp2
        go_loopw [10, 11] (fun s i wq => ∃ j sn : Nat, j ≤ zs.length ∧ i = .int .i64 j ∧ s = .float .f64 (shW sn) ∧ Hid (sumC ps ps.length (zs.take j) = (sn : Int)) ∧ Hid (Kept No w4 wq)) (fun _ i _ => zs.length - (intOf i).toNat)
        case atStart => exact ⟨0, 0, Nat.zero_le _, rfl, rfl, rfl, HKn⟩
        case round =>
          obtain ⟨j, s, hj, rfl, rfl, HS, HK⟩ := hrel
          clear HKn
          obtain ⟨hn0, c0, _⟩ := HMe.out wr HK.out
          by_cases hjl : j < zs.length
          · obtain ⟨s0, c, t0, t1, t2, t3⟩ := HSu.out j hjl
            have hs0 : s0 = s := by have := HS.out; omega
            subst hs0
            obtain ⟨zb, zoff, rfl, hc⟩ := hn0 j hjl
            have HSk : Hid _ := HSh.out wr (zs[j]?.getD 0) c HK.out (by omega) t1
            generalize zs[j]?.getD 0 = v at hc HSk
            have HT : Hid (sumC ps ps.length (zs.take (j + 1)) = ((s0 + c : Nat) : Int)) := t2
            have HAd : Hid (floatBits .add .f64 (shW s0) (shW c) = some (shW (s0 + c))) := add_sh s0 c t3
            have hj1 : (j : Int) < (zs.length : Int) := by omega
            have hj0 : (0 : Int) ≤ (j : Int) := by omega
            clear HS t0 t1 t2 t3 hn0
            go_wp2_with (go_at_call 16
                         refine Calls.mono HSk.out ?_
                         rintro e wy ⟨rfl, hky⟩
                         have HKy : Hid (Kept No w4 wy) := HK.out.then hky
                         clear hky)
            rw [run_float_arith _ _ _ _ _ _ _ HAd.out]
            go_wp2
            go_roundw
            case rel => exact ⟨j + 1, s0 + c, by omega, by go_num, rfl, HT, HKy⟩
            case measure => simp [intOf]; omega
          · have hj1 : ¬ (j : Int) < (zs.length : Int) := by omega
            have hse : s = 4294967296 := by
              have h1 := HS.out
              rw [List.take_of_length_le (by omega), HSe.out] at h1
              omega
            subst hse
            clear HS hn0
            have hsh : shW 4294967296 = 4607182418800017408 := by decide +kernel
            rw [hsh]
            have hor : FloatKind.f64.format.order 4607182418800017408 4607182418800017408 = some .eq := by decide +kernel
            go_wp2
            go_ret
            exact ⟨rfl, (HKw4.out.then HK.out).below (Nat.le_refl _) (fun _ e => e.elim)⟩
  · have hcf : cfgB zs f p bu bl ro = false := by simpa using hc
    rw [hcf]
    go_wp2
    go_ret
    exact ⟨rfl, (HK1.out.then HK2.out).below (Nat.le_refl _) (fun _ e => e.elim)⟩

end Go.Proofs.Ytpapbleabjpbfab
