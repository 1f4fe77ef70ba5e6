import Derived.Test.YtpapbleabjpbfabMp
import Derived.Test.YtpapbleabjpbfabWi
import Derived.Test.YtpapbleabjpbfabFx
import Derived.Test.YtpapbleabjpbfabKn
namespace Go.Proofs.Ytpapbleabjpbfab
open Go.RowKit
set_option linter.unusedVariables false

open Ieee in
theorem order_sh (a b : Nat) (h : a ≤ b) (hb : b < 2 ^ 53) : (FloatKind.f64.format.order (shW a) (shW b) == some .gt) = false := by
  obtain ⟨ta, _, _, ha⟩ := read_sh a (by omega)
  obtain ⟨tb, _, _, hb'⟩ := read_sh b hb
  unfold Format.order
  rw [ha, hb']
  simp only [Datum.order, signed_pos]
  obtain ⟨t, ht⟩ : ∃ t, t = max ta tb := ⟨_, rfl⟩
  have hbase : min (-32 - (ta : Int)) (-32 - (tb : Int)) = -32 - (t : Int) := by omega
  rw [hbase]
  have e1 : (-32 - (ta : Int) - (-32 - (t : Int))).toNat = t - ta := by omega
  have e2 : (-32 - (tb : Int) - (-32 - (t : Int))).toNat = t - tb := by omega
  rw [e1, e2]
  have f1 : a * 2 ^ ta * 2 ^ (t - ta) = a * 2 ^ t := by rw [Nat.mul_assoc, ← Nat.pow_add]; congr 2; omega
  have f2 : b * 2 ^ tb * 2 ^ (t - tb) = b * 2 ^ t := by rw [Nat.mul_assoc, ← Nat.pow_add]; congr 2; omega
  rw [f1, f2]
  have hle : a * 2 ^ t ≤ b * 2 ^ t := Nat.mul_le_mul_right _ h
  generalize a * 2 ^ t = x at hle
  generalize b * 2 ^ t = y at hle
  have : compare (x : Int) (y : Int) ≠ .gt := by
    simp only [compare, compareOfLessAndEq]
    split
    · simp
    · split
      · simp
      · omega
  cases hc : compare (x : Int) (y : Int) <;> simp_all
theorem float_ngt (a b : Nat) (h : a ≤ b) (hb : b < 2 ^ 53) (w : World) : Sem.run Try.prog (binOp .gtr 42 (.float .f64 (shW a)) (.float .f64 (shW b))) w = .ok (.bool false) w := by
  have : binOp .gtr 42 (.float .f64 (shW a)) (.float .f64 (shW b)) = (pure (.bool (FloatKind.f64.format.order (shW a) (shW b) == some .gt)) : Sem Value) := by simp [binOp, Op.floatCmp]
  rw [this, order_sh a b h hb]; rfl

theorem Nums.front {k : IntKind} {w : World} {a : Option Addr} {zs : List Int} (h : Nums k w a zs) (i : Nat) : Nums k w a (zs.take i) := by
  intro j hj
  rw [List.length_take] at hj
  obtain ⟨b, off, e, hc⟩ := h j (by omega)
  refine ⟨b, off, e, ?_⟩
  rw [List.getElem?_take, if_pos (by omega)]
  exact hc
/-- The row without the new server, behind k places. -/
def restK (i : Int) (l : List Int) (k : Nat) : List Int := (l.take k).filter (fun z => decide (z ≠ i))
theorem restK_no {i : Int} {l : List Int} {k : Nat} (h : k < l.length) (e : l[k]?.getD 0 = i) : restK i l (k + 1) = restK i l k := by
  unfold restK
  rw [List.take_succ_eq_append_getElem h, List.filter_append]
  rw [List.getElem?_eq_getElem h, Option.getD_some] at e
  rw [List.filter_cons_of_neg (by simpa using e)]
  simp
theorem restK_yes {i : Int} {l : List Int} {k : Nat} (h : k < l.length) (e : ¬ l[k]?.getD 0 = i) : restK i l (k + 1) = restK i l k ++ [l[k]?.getD 0] := by
  unfold restK
  rw [List.take_succ_eq_append_getElem h, List.filter_append]
  rw [List.getElem?_eq_getElem h, Option.getD_some] at *
  rw [List.filter_cons_of_pos (by simpa using e)]
  simp
theorem restK_len (i : Int) (l : List Int) (k : Nat) : (restK i l k).length ≤ l.length := by
  unfold restK
  have h1 := List.length_filter_le (fun z => decide (z ≠ i)) (l.take k)
  have h2 : (l.take k).length ≤ l.length := by simp; omega
  omega
theorem restK_all (i : Int) (l : List Int) : restK i l l.length = l.filter (fun z => decide (z ≠ i)) := by unfold restK; rw [List.take_length]
theorem perm_new {zs zs' : List Int} {i : Int} (hp : zs'.Perm (i :: zs)) (h : zs'.Pairwise (· ≠ ·)) : ¬ i ∈ zs := by
  have := (hp.pairwise_iff (fun {a b} (h : a ≠ b) => h.symm)).1 h
  intro hi
  exact (List.pairwise_cons.1 this).1 i hi rfl

set_option maxRecDepth 100000 in
set_option maxHeartbeats 8000000 in
theorem moreWalk (x : Cfg) (id pl : Int) (a1 : Option Addr) (n1 c1 : Nat) (ks : List Ky) (w : World) (hx : CfgOk w x) (hid : I64 id) (h1 : ks.length = n1) (hk : Keys w a1 ks) (hb1 : n1 ≤ 140737488355328) :
    Calls Try.prog 5 #[cfgV (.slice x.a x.n x.c) x.f x.p x.bu x.bl x.ro, .int .i64 id, .int .i64 pl, .slice a1 n1 c1] w fun e w' => e = .returned (.bool true) ∧ Below w.heap.size w w' := by
  have HL1 : Hid (ks.length = n1) := h1
  have HKs : Hid (Keys w a1 ks) := hk
  clear h1 hk
  have hmix : Try.prog.follows .mixedOrders = true := by kernel_rfl
  obtain ⟨i0, hi, hz0, hz1, hz2⟩ := info_parts Try.info3
  obtain ⟨xa, xn, xc, zs, f, p, bu, bl, ro⟩ := x
  have hln : zs.length = xn := hx.len
  subst hln
  have HX : Hid (CfgOk w ⟨xa, zs.length, xc, zs, f, p, bu, bl, ro⟩) := hx
  have hle : zs.length ≤ 17592186043904 := hx.le
  clear hx
  simp only
  go_enter Try.func5, Try.ntmps5
  go_wp2_with fail
  obtain ⟨w0, hw0⟩ : ∃ w0, w0 = w.alloc (.cells #[.slice xa zs.length xc, .int .i64 f, .int .i64 p, .int .i64 bu, .int .i64 bl, .int .i64 ro] 24) := ⟨_, rfl⟩
  rw [← hw0]
  obtain ⟨cb, hcb⟩ : ∃ cb, cb = w.heap.size := ⟨_, rfl⟩
  have HC0 : Hid (Box w0 cb 24 #[.slice xa zs.length xc, .int .i64 f, .int .i64 p, .int .i64 bu, .int .i64 bl, .int .i64 ro]) := by rw [hw0, hcb]; exact Box.new _ _ _
  have HK0 : Hid (Kept No w w0) := by rw [hw0]; exact (Kept.refl No w).alloc _
  rw [← hcb]
  clear hw0 hcb
  refine Calls.mono (known_any w0) ?_
  rintro e w1 ⟨rfl, hk1⟩
  have HC1 : Hid (Box w1 cb 24 #[.slice xa zs.length xc, .int .i64 f, .int .i64 p, .int .i64 bu, .int .i64 bl, .int .i64 ro]) := HC0.out.kept hk1 (fun e => e)
  have HK1 : Hid (Kept No w w1) := HK0.out.then hk1
  clear hk1 HC0 HK0
  have HM : Hid (∀ W, Kept No w1 W → Nums .i64 W xa zs ∧ W.cell? ⟨cb, 0, none⟩ = some (.slice xa zs.length xc) ∧ W.cell? ⟨cb, 1, none⟩ = some (.int .i64 f) ∧ W.cell? ⟨cb, 2, none⟩ = some (.int .i64 p) ∧ W.cell? ⟨cb, 3, none⟩ = some (.int .i64 bu) ∧ W.cell? ⟨cb, 4, none⟩ = some (.int .i64 bl) ∧ W.cell? ⟨cb, 5, none⟩ = some (.int .i64 ro)) := fun W hk => by
    have hb := HC1.out.kept hk (fun e => e)
    exact ⟨HX.out.nums.no (HK1.out.then hk), (hb.cell 0).trans rfl, (hb.cell 1).trans rfl, (hb.cell 2).trans rfl, (hb.cell 3).trans rfl, (hb.cell 4).trans rfl, (hb.cell 5).trans rfl⟩
  clear HC1
  obtain ⟨hn1, c0, c1, c2, c3, c4, c5⟩ := HM.out w1 (Kept.refl _ _)
  have HN1 : Hid (Nums .i64 w1 xa zs) := hn1
  clear hn1
  go_wp2_with fail
  refine Calls.mono (with_any xa xc zs f p bu bl ro id pl w1 hle HN1.out) ?_
  rintro e w2 ⟨da, dc, ds, rfl, hn2, hl2, hp2, hk2⟩
  have HN2 : Hid (Nums .i64 w2 da ds) := hn2
  have HL2 : Hid (ds.length = zs.length + 1) := hl2
  have HP2 : Hid (ds.Perm (id :: zs)) := hp2
  have HK2 : Hid (Kept No w1 w2) := hk2
  clear hn2 hl2 hp2 hk2 HN1 c0 c1 c2 c3 c4 c5
  obtain ⟨w3, hw3⟩ : ∃ w3, w3 = w2.alloc (.cells #[.slice da (zs.length + 1) dc, .int .i64 f, .int .i64 p, .int .i64 bu, .int .i64 bl, .int .i64 ro] 24) := ⟨_, rfl⟩
  have HK3 : Hid (Kept No w1 w3) := by rw [hw3]; exact HK2.out.alloc _
  have HD3 : Hid (Box w3 w2.heap.size 24 #[.slice da (zs.length + 1) dc, .int .i64 f, .int .i64 p, .int .i64 bu, .int .i64 bl, .int .i64 ro]) := by rw [hw3]; exact Box.new _ _ _
  have HN3 : Hid (Nums .i64 w3 da ds) := by rw [hw3]; exact HN2.out.no ((Kept.refl No w2).alloc _)
  obtain ⟨hn3, c0, c1, c2, c3, c4, c5⟩ := HM.out w3 HK3.out
  have HN3a : Hid (Nums .i64 w3 xa zs) := hn3
  rw [hw3] at c0 c1 c2 c3 c4 c5
  clear hn3 HN2 HK2
  go_wp2_with fail
  rw [← hw3]
  clear hw3 c0 c1 c2 c3 c4 c5
  generalize w2.heap.size = db at HD3 ⊢
  refine Calls.mono (is_any xa xc zs f p bu bl ro w3 HN3a.out) ?_
  rintro e w4 ⟨rfl, hk4⟩
  have HK34 : Hid (Kept No w3 w4) := hk4
  have HME : Hid (∀ W, Kept No w3 W → Nums .i64 W xa zs ∧ W.cell? ⟨cb, 0, none⟩ = some (.slice xa zs.length xc) ∧ W.cell? ⟨cb, 1, none⟩ = some (.int .i64 f) ∧ W.cell? ⟨cb, 2, none⟩ = some (.int .i64 p) ∧ W.cell? ⟨cb, 3, none⟩ = some (.int .i64 bu) ∧ W.cell? ⟨cb, 4, none⟩ = some (.int .i64 bl) ∧ W.cell? ⟨cb, 5, none⟩ = some (.int .i64 ro)) := fun W hk => HM.out W (HK3.out.then hk)
  have HDE : Hid (∀ W, Kept No w3 W → Nums .i64 W da ds ∧ W.cell? ⟨db, 0, none⟩ = some (.slice da (zs.length + 1) dc) ∧ W.cell? ⟨db, 1, none⟩ = some (.int .i64 f) ∧ W.cell? ⟨db, 2, none⟩ = some (.int .i64 p) ∧ W.cell? ⟨db, 3, none⟩ = some (.int .i64 bu) ∧ W.cell? ⟨db, 4, none⟩ = some (.int .i64 bl) ∧ W.cell? ⟨db, 5, none⟩ = some (.int .i64 ro)) := fun W hk => by
    have hb := HD3.out.kept hk (fun e => e)
    exact ⟨HN3.out.no hk, (hb.cell 0).trans rfl, (hb.cell 1).trans rfl, (hb.cell 2).trans rfl, (hb.cell 3).trans rfl, (hb.cell 4).trans rfl, (hb.cell 5).trans rfl⟩
  have HKw3 : Hid (Kept No w w3) := HK1.out.then HK3.out
  clear hk4 HM HD3 HN3 HN3a HK3 HK1
  by_cases hc : cfgB zs f p bu bl ro = true
  · rw [hc]
    obtain ⟨hn4, c0, c1, c2, c3, c4, c5⟩ := HDE.out w4 HK34.out
    have HIs : Hid _ := is_any da dc ds f p bu bl ro w4 hn4
    rw [HL2.out] at HIs
    clear hn4
    go_wp2_with fail
    refine Calls.mono HIs.out ?_
    rintro e w5 ⟨rfl, hk5⟩
    have HK35 : Hid (Kept No w3 w5) := HK34.out.then hk5
    clear hk5 HK34 c0 c1 c2 c3 c4 c5 HIs
    by_cases hc' : cfgB ds f p bu bl ro = true
    · rw [hc']
      obtain ⟨⟨hf0, hf3, hf1, h64⟩, _, ⟨hp1, hp2⟩, ⟨hu1, hu2⟩, _⟩ := cfgB_true hc
      obtain ⟨pn, hpn⟩ := Int.eq_ofNat_of_zero_le (show 0 ≤ p by omega)
      have hpn' : p = (pn : Int) := hpn
      subst hpn'
      have HCt : Hid (cfgB zs f pn bu bl ro = true) := hc
      have HCd : Hid (cfgB ds f pn bu bl ro = true) := hc'
      clear hc hc'
      obtain ⟨hn5, c0, c1, c2, c3, c4, c5⟩ := HME.out w5 HK35.out
      have HMa : Hid _ := made_any xa xc zs f pn bu bl ro w5 hn5 HX.out.all HCt.out
      clear hn5
      go_wp2_with fail
      refine Calls.mono HMa.out ?_
      rintro e w6 ⟨r1, rfl, hr6, hk6⟩
      have HR6 : Hid (RingAt w6 w5.heap.size r1 (sortI zs) f pn bu bl ro (sortP (ptsOf (sortI zs) pn))) := hr6
      have HK36 : Hid (Kept No w3 w6) := HK35.out.then hk6
      clear hr6 hk6 HK35 c0 c1 c2 c3 c4 c5 HMa
      obtain ⟨hn6, c0, c1, c2, c3, c4, c5⟩ := HDE.out w6 HK36.out
      have HMb : Hid _ := made_any da dc ds f pn bu bl ro w6 hn6 (allI_of (fun z hz => by
        rcases List.mem_cons.1 (HP2.out.subset hz) with e | e
        · rw [e]; exact hid
        · exact allI_mem HX.out.all z e)) HCd.out
      rw [HL2.out] at HMb
      clear hn6
      go_wp2_with fail
      refine Calls.mono HMb.out ?_
      rintro e w7 ⟨r2, rfl, hr7, hk7⟩
      have HR7 : Hid (RingAt w7 w6.heap.size r2 (sortI ds) f pn bu bl ro (sortP (ptsOf (sortI ds) pn))) := hr7
      have HR1 : Hid (RingAt w7 w5.heap.size r1 (sortI zs) f pn bu bl ro (sortP (ptsOf (sortI zs) pn))) := HR6.out.no hk7
      have HK37 : Hid (Kept No w3 w7) := HK36.out.then hk7
      clear hr7 hk7 HK36 HR6 HMb c0 c1 c2 c3 c4 c5
      have hnew : ¬ id ∈ zs := perm_new HP2.out ((good_all ds).1 (cfgB_true HCd.out).2.1).2
      obtain ⟨hps1, hps2⟩ := pts_pos HCt.out
      obtain ⟨hqs1, hqs2⟩ := pts_pos HCd.out
      have HEq : Hid (sortP (ptsOf (sortI zs) pn) = (sortP (ptsOf (sortI ds) pn)).filter (notId id)) := pts_more HP2.out hnew pn
      have HH : Hid (HashI (sortP (ptsOf (sortI zs) pn)) ∧ HashI (sortP (ptsOf (sortI ds) pn))) := ⟨pts_hash _ _, pts_hash _ _⟩
      have HRi : Hid (Rising (sortP (ptsOf (sortI zs) pn)) ∧ Rising (sortP (ptsOf (sortI ds) pn))) := ⟨pts_rising _ _, pts_rising _ _⟩
      have HSI : Hid (SrvI (sortP (ptsOf (sortI zs) pn)) ∧ SrvI (sortP (ptsOf (sortI ds) pn))) := ⟨pts_srvI HCt.out, pts_srvI HCd.out⟩
      have HSv : Hid (Srvs (sortP (ptsOf (sortI zs) pn)) zs ∧ Srvs (sortP (ptsOf (sortI ds) pn)) ds) := ⟨pts_srvs HCt.out, pts_srvs HCd.out⟩
      generalize sortP (ptsOf (sortI zs) pn) = ps at HR1 hps1 hps2 HEq HH HRi HSI HSv
      generalize sortP (ptsOf (sortI ds) pn) = qs at HR7 hqs1 hqs2 HEq HH HRi HSI HSv
      have HNw : Hid (∀ z ∈ zs, z ≠ id) := fun z hz e => hnew (e ▸ hz)
      obtain ⟨wn, hwn⟩ := Int.eq_ofNat_of_zero_le (show 0 ≤ 2 * f + 1 by omega)
      have hwn' : (wn : Int) = 2 * f + 1 := hwn.symm
      have hw7 : wn ≤ 7 := by omega
      have hw1 : 1 ≤ wn := by omega
      have hwz : wn ≤ zs.length := by omega
      have hwd : wn ≤ ds.length := by rw [HL2.out]; omega
      have HFf : Hid (0 ≤ f ∧ f ≤ 3 ∧ 1 ≤ bu ∧ bu ≤ 256 ∧ 1 ≤ ps.length ∧ ps.length ≤ 4096 ∧ 1 ≤ qs.length ∧ qs.length ≤ 4096 ∧ (wn : Int) = 2 * f + 1 ∧ wn ≤ zs.length ∧ wn ≤ ds.length) := ⟨hf0, hf3, hu1, hu2, hps1, hps2, hqs1, hqs2, hwn', hwz, hwd⟩
      have HRe : Hid (∀ W, Kept No w7 W → (∃ sa sn sc pg pc, RingV W r1 sa sn sc f pn bu bl ro pg pc ps.length ps) ∧ (∃ sa sn sc pg pc, RingV W r2 sa sn sc f pn bu bl ro pg pc qs.length qs)) := fun W hk => by
        obtain ⟨sa, sn, sc, pg, pc, m, v1⟩ := (HR1.out.no hk).v
        obtain ⟨sa', sn', sc', pg', pc', m', v2⟩ := (HR7.out.no hk).v
        have e1 := v1.len
        have e2 := v2.len
        subst e1
        subst e2
        exact ⟨⟨_, _, _, _, _, v1⟩, ⟨_, _, _, _, _, v2⟩⟩
      have HGy : Hid (∀ W kd a b c, Kept No w7 W → keyB kd a b c bu = true → (Calls Try.prog 12 #[.pointer (some ⟨r1, 0, none⟩), keyV kd a b c] W fun e w' => ∃ ga, e = .returned (.tuple #[.slice ga wn wn, .int .i64 0]) ∧ Nums .i64 w' ga (grp ps (homeH kd a b c) wn) ∧ Kept No W w') ∧ (Calls Try.prog 12 #[.pointer (some ⟨r2, 0, none⟩), keyV kd a b c] W fun e w' => ∃ ga, e = .returned (.tuple #[.slice ga wn wn, .int .i64 0]) ∧ Nums .i64 w' ga (grp qs (homeH kd a b c) wn) ∧ Kept No W w')) := fun W kd a b c hk hkb => by
        obtain ⟨b1, b2, b3, b4, b5, b6, b7, b8, b9, b10, b11⟩ := HFf.out
        obtain ⟨⟨sa, sn, sc, pg, pc, v1⟩, ⟨sa', sn', sc', pg', pc', v2⟩⟩ := HRe.out W hk
        constructor
        · refine (groupYes_any r1 sa sn sc f pn bu bl ro pg pc _ wn ps kd a b c W v1 (by omega) (by omega) hkb (by omega) (by omega) HRi.out.1 HSI.out.1 b1 b2 b9).mono ?_
          rintro e w' ⟨g, hg, rfl, ho, hk'⟩
          rw [grp_len HSv.out.1 _ wn b10] at ho ⊢
          exact ⟨_, rfl, Own.nums ho (by rw [grp_len HSv.out.1 _ wn b10]), hk'⟩
        · refine (groupYes_any r2 sa' sn' sc' f pn bu bl ro pg' pc' _ wn qs kd a b c W v2 (by omega) (by omega) hkb (by omega) (by omega) HRi.out.2 HSI.out.2 b1 b2 b9).mono ?_
          rintro e w' ⟨g, hg, rfl, ho, hk'⟩
          rw [grp_len HSv.out.2 _ wn b11] at ho ⊢
          exact ⟨_, rfl, Own.nums ho (by rw [grp_len HSv.out.2 _ wn b11]), hk'⟩
      have HGn : Hid (∀ W kd a b c, Kept No w7 W → keyB kd a b c bu = false → (Calls Try.prog 12 #[.pointer (some ⟨r1, 0, none⟩), keyV kd a b c] W fun e w' => e = .returned (.tuple #[.slice none 0 0, .int .i64 21]) ∧ Kept No W w') ∧ (Calls Try.prog 12 #[.pointer (some ⟨r2, 0, none⟩), keyV kd a b c] W fun e w' => e = .returned (.tuple #[.slice none 0 0, .int .i64 21]) ∧ Kept No W w')) := fun W kd a b c hk hkb => by
        obtain ⟨b1, b2, b3, b4, _⟩ := HFf.out
        obtain ⟨⟨sa, sn, sc, pg, pc, v1⟩, ⟨sa', sn', sc', pg', pc', v2⟩⟩ := HRe.out W hk
        exact ⟨groupNo_any r1 sa sn sc f pn bu bl ro pg pc _ ps kd a b c W v1 (by omega) (by omega) hkb, groupNo_any r2 sa' sn' sc' f pn bu bl ro pg' pc' _ qs kd a b c W v2 (by omega) (by omega) hkb⟩
      have HGm : Hid (∀ h, (grp ps h wn).length = wn ∧ (grp qs h wn).length = wn ∧ (grp qs h wn).filter (fun z => decide (z ≠ id)) = (grp ps h wn).take ((grp qs h wn).filter (fun z => decide (z ≠ id))).length ∧ ((grp qs h wn).filter (fun z => decide (z ≠ id))).length ≤ wn ∧ wn ≤ ((grp qs h wn).filter (fun z => decide (z ≠ id))).length + 1) := fun h => by
        obtain ⟨b1, b2, b3, b4, b5, b6, b7, b8, b9, b10, b11⟩ := HFf.out
        have l1 := grp_len HSv.out.1 h wn b10
        have l2 := grp_len HSv.out.2 h wn b11
        have := grp_more HEq.out HRi.out.1 HRi.out.2 h wn l2
        rw [l1] at this
        exact ⟨l1, l2, this.1, this.2.1, this.2.2⟩
      have HSh : Hid (∀ s ∈ zs, ∃ c1 c2 : Nat, c2 ≤ c1 ∧ c1 < 2 ^ 53 ∧ ∀ W, Kept No w7 W → (Calls Try.prog 16 #[.pointer (some ⟨r1, 0, none⟩), .int .i64 s] W fun e w' => e = .returned (.float .f64 (shW c1)) ∧ Below W.heap.size W w') ∧ (Calls Try.prog 16 #[.pointer (some ⟨r2, 0, none⟩), .int .i64 s] W fun e w' => e = .returned (.float .f64 (shW c2)) ∧ Below W.heap.size W w')) := fun s hs => by
        obtain ⟨b1, b2, b3, b4, b5, b6, b7, b8, b9, b10, b11⟩ := HFf.out
        have t1 := cnt_nn HRi.out.1 HH.out.1 s ps.length (Nat.le_refl _)
        have t2 := cnt_nn HRi.out.2 HH.out.2 s qs.length (Nat.le_refl _)
        have t3 := share_more HEq.out HRi.out.2 HH.out.2 (HNw.out s hs) (by omega)
        have t4 := cntN_bd HH.out.1 s ps.length
        obtain ⟨c1, e1⟩ := Int.eq_ofNat_of_zero_le t1
        obtain ⟨c2, e2⟩ := Int.eq_ofNat_of_zero_le t2
        have e1' : cntN ps s ps.length = (c1 : Int) := e1
        have e2' : cntN qs s qs.length = (c2 : Int) := e2
        rw [e1', e2'] at t3
        rw [e1'] at t4
        have hc2 : c2 ≤ c1 := by omega
        have hc1 : c1 < 2 ^ 53 := by omega
        refine ⟨c1, c2, hc2, hc1, fun W hk => ?_⟩
        obtain ⟨⟨sa, sn, sc, pg, pc, v1⟩, ⟨sa', sn', sc', pg', pc', v2⟩⟩ := HRe.out W hk
        exact ⟨toBelow (share_any r1 sa sn sc f pn bu bl ro pg pc _ ps s W v1 b6 HH.out.1 _ (by rw [e1']; exact share_sh c1 hc1)), toBelow (share_any r2 sa' sn' sc' f pn bu bl ro pg' pc' _ qs s W v2 b8 HH.out.2 _ (by rw [e2']; exact share_sh c2 (by omega)))⟩
      have HMe : Hid (∀ W, Kept No w7 W → Nums .i64 W xa zs ∧ W.cell? ⟨cb, 0, none⟩ = some (.slice xa zs.length xc)) := fun W hk => ⟨(HME.out W (HK37.out.then hk)).1, (HME.out W (HK37.out.then hk)).2.1⟩
      have HKw7 : Hid (Kept No w w7) := HKw3.out.then HK37.out
      clear HRe HR1 HR7 HEq HH HRi HSI HSv HCt HCd HNw hnew HP2 hwn hwn' hwd hf0 hf3 hf1 hp1 hp2 hu1 hu2 hps1 hps2 hqs1 hqs2 HDE HFf HME HK37 HKw3 HX HL2
      go_wp2_with fail
      go_loopw [12] (fun i wr => ∃ k : Nat, k ≤ zs.length ∧ i = .int .i64 k ∧ Hid (Kept No w7 wr)) (fun i _ => zs.length - (intOf i).toNat)
      case atStart => exact ⟨0, Nat.zero_le _, rfl, Kept.refl _ _⟩
      case round =>
        obtain ⟨k, hk, rfl, HK⟩ := hrel
        obtain ⟨hn0, c0⟩ := HMe.out wr HK.out
        by_cases hlt : k < zs.length
        · obtain ⟨b, off, rfl, hc⟩ := hn0 k hlt
          obtain ⟨m1, m2, hm12, hm53, hcalls⟩ := HSh.out (zs[k]?.getD 0) (by rw [List.getElem?_eq_getElem hlt]; exact List.getElem_mem _)
          generalize zs[k]?.getD 0 = s at hc hcalls
          have z0 := fun dd os => cell_regrown hc dd os
          have z1 := fun dd os => cell_regrown c0 dd os
          have hk1 : (k : Int) < (zs.length : Int) := by omega
          have hk0 : (0 : Int) ≤ (k : Int) := by omega
          have HS1 : Hid (∀ W, Kept No wr W → _) := fun W hk => hcalls W (HK.out.then hk)
          have hngt := fun W => float_ngt m2 m1 hm12 hm53 W
          have hor := order_sh m2 m1 hm12 hm53
          clear hc hcalls hn0 hm12 hm53
          go_wp2
          clear c0
          refine wp_region_quiet_below hmix (by kernel_rfl) ?_
          repeat (quiet_step (fail))
          quiet_step (exact Calls.regrown_of (HS1.out _ (kept_regrown _ _ _)).2)
          repeat (quiet_step (fail))
          quiet_step (exact Calls.regrown_of (HS1.out _ (kept_regrown _ _ _)).1)
          repeat (quiet_step (fail))
          refine wpQuiet_nil ?_
          intro _ hw'
          obtain ⟨⟨nq, osq⟩, hw''⟩ := hw'
          rw [hw'']
          simp only []
          have HKr : Hid (Kept No w7 (Sort.grow (redrawn wr nq) osq)) := HK.out.then (kept_regrown _ _ _)
          clear hw'' HK z0 z1 HS1
          generalize Sort.grow (redrawn wr nq) osq = wz at HKr
          go_wp2
          go_roundw
          case rel => exact ⟨k + 1, by omega, by go_num, HKr⟩
          case measure => simp [intOf]; omega
        · have hk1 : ¬ (k : Int) < (zs.length : Int) := by omega
          clear hn0
          go_wp2
          clear c0 HSh HMe
          have HKn := HK
          clear HK
          go_loopw [13] (fun i wq => ∃ j : Nat, j ≤ n1 ∧ i = .int .i64 j ∧ Hid (Kept No w7 wq)) (fun i _ => n1 - (intOf i).toNat)
          case atStart => exact ⟨0, Nat.zero_le _, rfl, HKn⟩
          case round =>
            obtain ⟨g, hg, rfl, HK⟩ := hrel
            clear HKn
            by_cases hgl : g < n1
            · obtain ⟨y, hyk⟩ : ∃ y, ks[g]? = some y := ⟨_, List.getElem?_eq_getElem (by rw [HL1.out]; exact hgl)⟩
              obtain ⟨kb, koff, rfl, y0, y1, y2, y3⟩ := (HKs.out.no (HKw7.out.then HK.out)) g y hyk
              have hk1 : (g : Int) < (n1 : Int) := by omega
              have HKy : Hid (∀ W, Kept No wr W → W.cell? ⟨kb, koff + g * 4, none⟩ = some (.int .i64 y.kd) ∧ W.cell? ⟨kb, koff + g * 4 + 1, none⟩ = some (.int .i64 y.a) ∧ W.cell? ⟨kb, koff + g * 4 + 2, none⟩ = some (.int .i64 y.b) ∧ W.cell? ⟨kb, koff + g * 4 + 3, none⟩ = some (.int .i64 y.c)) := fun W hk => ⟨hk.cell y0 (fun e => e), hk.cell y1 (fun e => e), hk.cell y2 (fun e => e), hk.cell y3 (fun e => e)⟩
              clear hyk
              by_cases hkb : keyB y.kd y.a y.b y.c bu = true
              · have HGk : Hid (∀ W, Kept No wr W → _) := fun W hk => HGy.out W y.kd y.a y.b y.c (HK.out.then hk) hkb
                obtain ⟨hg1, hg2, hg3, hg4, hg5⟩ := HGm.out (homeH y.kd y.a y.b y.c)
                have HG1 : Hid ((grp ps (homeH y.kd y.a y.b y.c) wn).length = wn ∧ (grp qs (homeH y.kd y.a y.b y.c) wn).length = wn) := ⟨hg1, hg2⟩
                have HG3 : Hid (restK id (grp qs (homeH y.kd y.a y.b y.c) wn) wn = (grp ps (homeH y.kd y.a y.b y.c) wn).take (restK id (grp qs (homeH y.kd y.a y.b y.c) wn) wn).length) := by
                  show _ = _
                  have := restK_all id (grp qs (homeH y.kd y.a y.b y.c) wn)
                  rw [hg2] at this
                  rw [this]
                  exact hg3
                have HG4 : Hid ((restK id (grp qs (homeH y.kd y.a y.b y.c) wn) wn).length ≤ wn ∧ wn ≤ (restK id (grp qs (homeH y.kd y.a y.b y.c) wn) wn).length + 1) := by
                  show _ ∧ _
                  have := restK_all id (grp qs (homeH y.kd y.a y.b y.c) wn)
                  rw [hg2] at this
                  rw [this]
                  exact ⟨hg4, hg5⟩
                clear hg1 hg2 hg3 hg4 hg5 hkb
                generalize grp ps (homeH y.kd y.a y.b y.c) wn = l1 at HGk HG1 HG3
                generalize grp qs (homeH y.kd y.a y.b y.c) wn = l2 at HGk HG1 HG3 HG4
                have TX1 : True := trivial
                have TX2 : True := trivial
                go_wp2_with (first
                  | (go_at_call 12
                     have hguard := TX1
                     clear hguard TX1
                     refine Calls.mono (HGk.out wr (Kept.refl _ _)).1 ?_
                     rintro e wf ⟨ga, rfl, hn3, hk3⟩
                     have HN3 : Hid (Nums .i64 wf ga l1) := hn3
                     have HK3 : Hid (Kept No wr wf) := hk3
                     clear y0 y1 y2 y3
                     obtain ⟨y0, y1, y2, y3⟩ := HKy.out wf hk3
                     clear hn3 hk3)
                  | (go_at_call 12
                     have hguard := TX2
                     clear hguard TX2
                     refine Calls.mono (HGk.out wf HK3.out).2 ?_
                     rintro e wg ⟨gb, rfl, hn4, hk4⟩
                     have HN4 : Hid (Nums .i64 wg gb l2) := hn4
                     have HN3b : Hid (Nums .i64 wg ga l1) := HN3.out.no hk4
                     have HK4 : Hid (Kept No wr wg) := HK3.out.then hk4
                     clear hn4 hk4 y0 y1 y2 y3)
                  | fail)
                have HKi : Hid (Kept No w7 wg) := HK.out.then HK4.out
                clear HGk HN3 HK3 HK4 HK HKy
                go_loopw [18, 19] (fun v i wq => ∃ q : Nat, q ≤ wn ∧ i = .int .i64 q ∧ Hid (wq.ownsRow wg.heap.size 3 1 v (restK id l2 q).length ((restK id l2 q).map (Value.int .i64))) ∧ Hid (Kept No wg wq)) (fun _ i _ => wn - (intOf i).toNat)
                case atStart => exact ⟨0, Nat.zero_le _, rfl, ⟨rfl, .inl ⟨rfl, rfl⟩⟩, Kept.refl _ _⟩
                case round =>
                  obtain ⟨q, hq, rfl, HO, HKq⟩ := hrel
                  by_cases hq1 : q < wn
                  · have hql : q < l2.length := by rw [HG1.out.2]; exact hq1
                    obtain ⟨eb, eoff, rfl, ec⟩ := (HN4.out.no HKq.out) q hql
                    have HRn : Hid (l2[q]?.getD 0 = id → restK id l2 (q + 1) = restK id l2 q) := fun e => restK_no hql e
                    have HRy : Hid (¬ l2[q]?.getD 0 = id → restK id l2 (q + 1) = restK id l2 q ++ [l2[q]?.getD 0]) := fun e => restK_yes hql e
                    have HRl : Hid ((restK id l2 q).length ≤ 7) := by have := restK_len id l2 q; rw [HG1.out.2] at this; show _ ≤ _; omega
                    generalize l2[q]?.getD 0 = v at ec HRn HRy
                    have r1 : (q : Int) < (wn : Int) := by omega
                    have r2 : (0 : Int) ≤ (q : Int) := by omega
                    clear hql
                    by_cases hv : v = id
                    · have HE : Hid (restK id l2 (q + 1) = restK id l2 q) := HRn.out hv
                      have hv' : (v != id) = false := by simp [hv]
                      clear HRn HRy
                      subst hv
                      go_wp2
                      go_roundw
                      case rel => exact ⟨q + 1, by omega, by go_num, by rw [HE.out]; exact HO, HKq⟩
                      case measure => simp [intOf]; omega
                    · have HE : Hid (restK id l2 (q + 1) = restK id l2 q ++ [v]) := HRy.out hv
                      have hv' : (v != id) = true := by simpa using hv
                      have HOa : Hid (∀ o, (wr.alloc o).ownsRow wg.heap.size 3 1 u18 (restK id l2 q).length ((restK id l2 q).map (Value.int .i64))) := fun o => owns_no HO.out ((Kept.refl No wr).alloc o)
                      have HOB : Hid (∀ k, u18.ownBlock = some k → wg.heap.size ≤ k) := fun k e => own_block HO.out k e
                      have HSz : Hid (wg.heap.size ≤ wr.heap.size) := HKq.out.size
                      clear HRn HRy HO
                      generalize restK id l2 q = rk at HOa HE HRl
                      go_wp2_with (first
                        | (at_builtin
                           refine wpList_append_own _ rfl (.tmp 105) (.tmp 110) 22 rfl wg.heap.size 3 i0 (.int .i64 0) 1 8 Try.underlying22 hi hz0 hz1 hz2 rfl (by decide) _ _ _ rfl (HOa.out _) ⟨wr.heap.size, 0, none⟩ 1 1 [.int .i64 v] rfl rfl (cell_new1 _ _ _) (by simp [Value.oneCell']) (by have := HRl.out; unfold maxLen; omega) (by have := HRl.out; omega) (by have := HSz.out; simp; omega) ?_
                           intro v2 wk hown2 hgrow2 hnil2
                           have HO2 : Hid (wk.ownsRow wg.heap.size 3 1 v2 (rk ++ [v]).length ((rk ++ [v]).map (Value.int .i64))) := (by
                             rw [List.length_append, List.map_append]; exact hown2)
                           have HK2 : Hid (Kept No wg wk) := (HKq.out.alloc _).grown hgrow2 (fun k e hk => absurd (HOB.out k e) (by omega))
                           clear hown2 hgrow2 hnil2)
                        | fail)
                      go_roundw
                      case rel => exact ⟨q + 1, by omega, by go_num, by rw [HE.out]; exact HO2, HK2⟩
                      case measure => simp [intOf]; omega
                  · obtain rfl : q = wn := by omega
                    have r1 : ¬ (q : Int) < (q : Int) := by omega
                    generalize restK id l2 q = rk at HO HG3 HG4
                    obtain ⟨va, vc, hv⟩ := own_slice HO.out
                    subst hv
                    have HNr : Hid (Nums .i64 wr va rk) := Own.nums HO.out rfl
                    have HNl : Hid (Nums .i64 wr ga rk) := by
                      have := (HN3b.out.no HKq.out).front rk.length
                      rw [← HG3.out] at this
                      exact this
                    obtain ⟨s1, s2⟩ := HG4.out
                    have r2 : ¬ (rk.length : Int) > (q : Int) := by omega
                    have r3 : ¬ (q : Int) < (rk.length : Int) := by omega
                    have r4 : ¬ (rk.length : Int) + 1 < (q : Int) := by omega
                    have r5 : rk.length ≤ q := s1
                    have r6 : (0 : Int) ≤ (rk.length : Int) := by omega
                    have HSm : Hid _ := sameInts_any va ga vc q rk rk wr (by omega) (by omega) HNr.out HNl.out
                    rw [eqB_refl] at HSm
                    clear HO HG3 HG4
                    go_wp2_with (first
                      | (go_at_call 22
                         refine Calls.mono HSm.out ?_
                         rintro e wi ⟨rfl, nn, hwi⟩
                         have HKz : Hid (Kept No w7 wi) := (by rw [hwi]; exact (HKi.out.then HKq.out).drewN _)
                         clear hwi)
                      | fail)
                    go_roundw
                    case rel => exact ⟨g + 1, by omega, by go_num, HKz⟩
                    case measure => simp [intOf]; omega
              · have HGk : Hid (∀ W, Kept No wr W → _) := fun W hk => HGn.out W y.kd y.a y.b y.c (HK.out.then hk) (by simpa using hkb)
                clear hkb
                have TX1 : True := trivial
                have TX2 : True := trivial
                go_wp2_with (first
                  | (go_at_call 12
                     have hguard := TX1
                     clear hguard TX1
                     refine Calls.mono (HGk.out wr (Kept.refl _ _)).1 ?_
                     rintro e wf ⟨rfl, hk3⟩
                     have HK3 : Hid (Kept No wr wf) := hk3
                     clear y0 y1 y2 y3
                     obtain ⟨y0, y1, y2, y3⟩ := HKy.out wf hk3
                     clear hk3)
                  | (go_at_call 12
                     have hguard := TX2
                     clear hguard TX2
                     refine Calls.mono (HGk.out wf HK3.out).2 ?_
                     rintro e wg ⟨rfl, hk4⟩
                     have HK4 : Hid (Kept No wr wg) := HK3.out.then hk4
                     clear hk4 y0 y1 y2 y3)
                  | fail)
                have HKi : Hid (Kept No w7 wg) := HK.out.then HK4.out
                clear HGk HK3 HK4 HK HKy
                go_loopw [18, 19] (fun v i wq => v = .slice none 0 0 ∧ i = .int .i64 0 ∧ Hid (Kept No wg wq)) (fun _ i _ => 0)
                case atStart => exact ⟨rfl, rfl, Kept.refl _ _⟩
                case round =>
                  obtain ⟨rfl, rfl, HKq⟩ := hrel
                  go_wp2_with (first
                    | (go_at_call 22
                       refine (sameInts_any none none 0 0 [] [] wr (by simp) (by simp) (Nums.nil _ _ _) (Nums.nil _ _ _)).mono ?_
                       rintro e wi ⟨rfl, nn, hwi⟩
                       rw [eqB_refl]
                       have HKz : Hid (Kept No w7 wi) := (by rw [hwi]; exact (HKi.out.then HKq.out).drewN _)
                       clear hwi)
                    | fail)
                  go_roundw
                  case rel => exact ⟨g + 1, by omega, by go_num, HKz⟩
                  case measure => simp [intOf]; omega
            · have hk1 : ¬ (g : Int) < (n1 : Int) := by omega
              go_wp2
              go_ret
              exact ⟨rfl, (HKw7.out.then HK.out).below (Nat.le_refl _) (fun _ e => e.elim)⟩
    · have hcf : cfgB ds f p bu bl ro = false := by simpa using hc'
      rw [hcf]
      go_wp2
      go_ret
      exact ⟨rfl, (HKw3.out.then HK35.out).below (Nat.le_refl _) (fun _ e => e.elim)⟩
  · have hcf : cfgB zs f p bu bl ro = false := by simpa using hc
    rw [hcf]
    go_wp2
    go_ret
    exact ⟨rfl, (HKw3.out.then HK34.out).below (Nat.le_refl _) (fun _ e => e.elim)⟩

end Go.Proofs.Ytpapbleabjpbfab
