import Derived.Test.YtpapbleabjpbfaaTx
import Derived.Deep.RegionHeld3
namespace Go.Proofs.Ytpapbleabjpbfaa
open Go.RowKit
set_option linter.unusedVariables false

/-- Texts that came in. -/
def Strs (w : World) (a : Option Addr) (xs : List ByteArray) : Prop := ∀ (i : Nat) (x : ByteArray), xs[i]? = some x → ∃ b off, a = some ⟨b, off, none⟩ ∧ w.cell? ⟨b, off + i, none⟩ = some (.string x)
theorem Strs.no {w w' : World} {a : Option Addr} {xs : List ByteArray} (h : Strs w a xs) (hk : Kept No w w') : Strs w' a xs := by
  intro i x hx
  obtain ⟨b, off, rfl, h0⟩ := h i x hx
  exact ⟨b, off, rfl, hk.cell h0 id⟩

/-- What both have told: rings or nothing. -/
def BothV (w : World) (base : Nat) (ra rb : Option Addr) : Prop :=
  (ra = none ∧ rb = none) ∨ ∃ r q zs f p bu bl ro ps, ra = some ⟨r, 0, none⟩ ∧ rb = some ⟨q, 0, none⟩ ∧ RingAt w base r zs f p bu bl ro ps ∧ RefAt w base q zs f p bu bl ro ps ∧ 1 ≤ bu ∧ bu ≤ 256

theorem BothV.no {w w' : World} {base : Nat} {ra rb : Option Addr} (h : BothV w base ra rb) (hk : Kept No w w') : BothV w' base ra rb := by
  rcases h with h | ⟨r, q, zs, f, p, bu, bl, ro, ps, e1, e2, e3, e4, e5⟩
  · exact .inl h
  · exact .inr ⟨r, q, zs, f, p, bu, bl, ro, ps, e1, e2, e3.no hk, e4.no hk, e5⟩

theorem both_any (x : Cfg) (w : World) (hx : CfgOk w x) :
    Calls Try.prog 9 #[cfgV (.slice x.a x.n x.c) x.f x.p x.bu x.bl x.ro] w fun e w' => ∃ ra rb, e = .returned (.tuple #[.pointer ra, .pointer rb, .bool true]) ∧ BothV w' w.heap.size ra rb ∧ Kept No w w' := by
  obtain ⟨xa, xn, xc, zs, f, p, bu, bl, ro⟩ := x
  have hl : zs.length = xn := hx.len
  subst hl
  by_cases hc : cfgB zs f p bu bl ro = true
  · obtain ⟨_, _, ⟨hp1, _⟩, ⟨hb1, hb2⟩, _⟩ := cfgB_true hc
    obtain ⟨pn, hpn⟩ := Int.eq_ofNat_of_zero_le (show 0 ≤ p by omega)
    have hpn' : p = (pn : Int) := hpn
    subst hpn'
    refine (bothYes_any xa xc zs f pn bu bl ro w hx.nums hx.all hx.le hc).mono ?_
    rintro e w' ⟨r, q, rfl, hr, hq, hk⟩
    exact ⟨_, _, rfl, .inr ⟨r, q, _, f, pn, bu, bl, ro, _, rfl, rfl, hr, hq, hb1, hb2⟩, hk⟩
  · refine (bothNo_any xa xc zs f p bu bl ro w hx.nums hx.all hx.le (by simpa using hc)).mono ?_
    rintro e w' ⟨rfl, hk⟩
    exact ⟨_, _, rfl, .inl ⟨rfl, rfl⟩, hk⟩

set_option maxRecDepth 100000 in
set_option maxHeartbeats 4000000 in
theorem hashesWalk (x : Cfg) (a1 : Option Addr) (n1 c1 : Nat) (ks : List Ky) (a2 : Option Addr) (n2 c2 : Nat) (ss : List ByteArray) (w : World) (hx : CfgOk w x) (h1 : ks.length = n1) (hk : Keys w a1 ks) (hb1 : n1 ≤ 140737488355328) (h2 : ss.length = n2) (hs : Strs w a2 ss) (hsz : ∀ s ∈ ss, s.size ≤ 9223372036854775807) (hb2 : n2 ≤ 140737488355328) :
    Calls Try.prog 6 #[cfgV (.slice x.a x.n x.c) x.f x.p x.bu x.bl x.ro, .slice a1 n1 c1, .slice a2 n2 c2] w fun e w' => e = .returned (.bool true) ∧ Below w.heap.size w w' := by
  have HL1 : Hid (ks.length = n1) := h1
  have HL2 : Hid (ss.length = n2) := h2
  have HX : Hid (∀ W, Kept No w W → Calls Try.prog 9 #[cfgV (.slice x.a x.n x.c) x.f x.p x.bu x.bl x.ro] W fun e w' => ∃ ra rb, e = .returned (.tuple #[.pointer ra, .pointer rb, .bool true]) ∧ BothV w' W.heap.size ra rb ∧ Kept No W w') := fun W hk => both_any x W (hx.no hk)
  have HKs : Hid (Keys w a1 ks) := hk
  have HSs : Hid (Strs w a2 ss) := hs
  have HSz : Hid (∀ s ∈ ss, s.size ≤ 9223372036854775807) := hsz
  clear h1 h2 hx hk hs hsz
  have hmix : Try.prog.follows .mixedOrders = true := by kernel_rfl
  obtain ⟨xa, xn, xc, zs, f, p, bu, bl, ro⟩ := x
  simp only at HX ⊢
  go_enter Try.func6, Try.ntmps6
  go_wp2_with fail
  refine Calls.mono (HX.out _ ((Kept.refl No w).alloc _)) ?_
  rintro e w1 ⟨ra, rb, rfl, hv1, hk1⟩
  have HV1 : Hid (∃ base, BothV w1 base ra rb) := ⟨_, hv1⟩
  have HK1 : Hid (Kept No w w1) := ((Kept.refl No w).alloc _).then hk1
  clear hv1 hk1 HX
  go_wp2_with (go_at_call 12; refine (known_any _).mono ?_; rintro e w2 ⟨rfl, hk2⟩; have HK12 : Hid (Kept No w1 w2) := hk2; clear hk2)
  have HK2 : Hid (Kept No w w2) := HK1.out.then HK12.out
  go_loopw [10] (fun i wr => ∃ k : Nat, k ≤ n1 ∧ i = .int .i64 k ∧ Hid (Kept No w2 wr)) (fun i _ => n1 - (intOf i).toNat)
  case atStart => exact ⟨0, Nat.zero_le _, rfl, Kept.refl _ _⟩
  case round =>
    obtain ⟨k, hk, rfl, HK⟩ := hrel
    by_cases hlt : k < n1
    · obtain ⟨y, hyk⟩ : ∃ y, ks[k]? = some y := ⟨_, List.getElem?_eq_getElem (by rw [HL1.out]; exact hlt)⟩
      have HY : Hid (ks[k]? = some y) := hyk
      obtain ⟨kb, koff, rfl, y0, y1, y2, y3⟩ := (HKs.out.no (HK2.out.then HK.out)) k y hyk
      have z0 := fun dd os => cell_regrown y0 dd os
      have z1 := fun dd os => cell_regrown y1 dd os
      have z2 := fun dd os => cell_regrown y2 dd os
      have z3 := fun dd os => cell_regrown y3 dd os
      have hk1 : (k : Int) < (n1 : Int) := by omega
      have hk0 : (0 : Int) ≤ (k : Int) := by omega
      have HRa : Hid (∀ W, Calls Try.prog 17 #[keyV y.kd y.a y.b y.c] W fun e w' => e = .returned (.int .i64 (hashK y.kd y.a y.b y.c)) ∧ Below W.heap.size W w') := fun W => toBelow (hash_any _ _ _ _ W)
      have HRb : Hid (∀ W, Calls Try.prog 18 #[keyV y.kd y.a y.b y.c] W fun e w' => e = .returned (.int .i64 (hashK y.kd y.a y.b y.c)) ∧ Below W.heap.size W w') := fun W => toBelow (refHash_any _ _ _ _ W)
      generalize hashK y.kd y.a y.b y.c = h1 at HRa HRb
      clear hyk y0 y1 y2 y3
      go_wp2
      refine wp_region_quiet_below hmix (by kernel_rfl) ?_
      repeat (quiet_step (first | exact Calls.regrown_of (HRa.out _) | exact Calls.regrown_of (HRb.out _)))
      refine wpQuiet_nil ?_
      intro _ hw'
      obtain ⟨⟨nq, osq⟩, hw''⟩ := hw'
      rw [hw'']
      simp only []
      have HKr : Hid (Kept No w2 (Sort.grow (redrawn wr nq) osq)) := HK.out.then (kept_regrown _ _ _)
      clear hw'' HK z0 z1 z2 z3 HRa HRb
      generalize Sort.grow (redrawn wr nq) osq = wz at HKr
      go_wp2
      go_loopw [11] (fun i wr => ∃ j : Nat, j ≤ n1 ∧ i = .int .i64 j ∧ Hid (Kept No w2 wr)) (fun i _ => n1 - (intOf i).toNat)
      case atStart => exact ⟨0, Nat.zero_le _, rfl, HKr⟩
      case round =>
        obtain ⟨j, hj, rfl, HKj⟩ := hrel
        clear HKr
        by_cases hjl : j < n1
        · by_cases hj64 : j < 64
          · obtain ⟨u, huj⟩ : ∃ u, ks[j]? = some u := ⟨_, List.getElem?_eq_getElem (by rw [HL1.out]; exact hjl)⟩
            obtain ⟨kb', koff', e, y0, y1, y2, y3⟩ := (HKs.out.no (HK2.out.then HKj.out)) k y HY.out
            cases e
            obtain ⟨kb', koff', e, u0, u1, u2, u3⟩ := (HKs.out.no (HK2.out.then HKj.out)) j u huj
            cases e
            have z0 := fun dd os => cell_regrown y0 dd os
            have z1 := fun dd os => cell_regrown y1 dd os
            have z2 := fun dd os => cell_regrown y2 dd os
            have z3 := fun dd os => cell_regrown y3 dd os
            have q0 := fun dd os => cell_regrown u0 dd os
            have q1 := fun dd os => cell_regrown u1 dd os
            have q2 := fun dd os => cell_regrown u2 dd os
            have q3 := fun dd os => cell_regrown u3 dd os
            have hj1 : (j : Int) < (n1 : Int) := by omega
            have hj2 : (j : Int) < 64 := by omega
            have hj0 : (0 : Int) ≤ (j : Int) := by omega
            have HRa : Hid (∀ W, Calls Try.prog 19 #[keyV y.kd y.a y.b y.c, keyV u.kd u.a u.b u.c] W fun e w' => e = .returned (.bool (lessK y.kd y.a y.b y.c u.kd u.a u.b u.c)) ∧ Below W.heap.size W w') := fun W => toBelow (less_any _ _ _ _ _ _ _ _ W)
            have HRb : Hid (∀ W, Calls Try.prog 20 #[keyV y.kd y.a y.b y.c, keyV u.kd u.a u.b u.c] W fun e w' => e = .returned (.bool (lessK y.kd y.a y.b y.c u.kd u.a u.b u.c)) ∧ Below W.heap.size W w') := fun W => toBelow (refLess_any _ _ _ _ _ _ _ _ W)
            generalize lessK y.kd y.a y.b y.c u.kd u.a u.b u.c = l1 at HRa HRb
            clear huj y0 y1 y2 y3 u0 u1 u2 u3
            go_wp2
            refine wp_region_quiet_below hmix (by kernel_rfl) ?_
            repeat (quiet_step (first | exact Calls.regrown_of (HRa.out _) | exact Calls.regrown_of (HRb.out _)))
            refine wpQuiet_nil ?_
            intro _ hw'
            obtain ⟨⟨nq, osq⟩, hw''⟩ := hw'
            rw [hw'']
            simp only []
            have HKr : Hid (Kept No w2 (Sort.grow (redrawn wr nq) osq)) := HKj.out.then (kept_regrown _ _ _)
            clear hw'' HKj z0 z1 z2 z3 q0 q1 q2 q3 HRa HRb
            generalize Sort.grow (redrawn wr nq) osq = wz at HKr
            go_wp2
            go_roundw
            case rel => exact ⟨j + 1, by omega, by go_num, HKr⟩
            case measure => simp [intOf]; omega
          · have hj1 : (j : Int) < (n1 : Int) := by omega
            have hj2 : ¬ (j : Int) < 64 := by omega
            go_wp2
            go_roundw
            case rel => exact ⟨k + 1, by omega, by go_num, HKj⟩
            case measure => simp [intOf]; omega
        · have hj1 : ¬ (j : Int) < (n1 : Int) := by omega
          go_wp2
          go_roundw
          case rel => exact ⟨k + 1, by omega, by go_num, HKj⟩
          case measure => simp [intOf]; omega
    · have hk1 : ¬ (k : Int) < (n1 : Int) := by omega
      obtain ⟨base, hV1⟩ := HV1.out
      have hV := hV1.no (HK12.out.then HK.out)
      clear hV1
      rcases hV with ⟨rfl, rfl⟩ | ⟨r, q, zs, f, p, bu, bl, ro, ps, rfl, rfl, hR, hQ, hb3, hb4⟩
      · go_wp2
        go_ret
        exact ⟨rfl, (HK2.out.then HK.out).below (Nat.le_refl _) (fun _ e => e.elim)⟩
      · obtain ⟨sa, sn, sc, pg, pc, m, hRv⟩ := hR.v
        have HRv : Hid (RingV wr r sa sn sc f p bu bl ro pg pc m ps) := hRv
        have HQv : Hid (RefAt wr base q zs f p bu bl ro ps) := hQ
        clear hR hRv hQ
        obtain ⟨w9, hw9⟩ : ∃ w9, w9 = wr := ⟨_, rfl⟩
        rw [← hw9] at HRv HQv HK ⊢
        clear hw9
        go_wp2
        go_loopw [12] (fun i wq => ∃ j : Nat, j ≤ n2 ∧ i = .int .i64 j ∧ Hid (Kept No w9 wq)) (fun i _ => n2 - (intOf i).toNat)
        case atStart => exact ⟨0, Nat.zero_le _, rfl, Kept.refl _ _⟩
        case round =>
          obtain ⟨j, hj, rfl, HKj⟩ := hrel
          by_cases hjl : j < n2
          · obtain ⟨t, htj⟩ : ∃ t, ss[j]? = some t := ⟨_, List.getElem?_eq_getElem (by rw [HL2.out]; exact hjl)⟩
            have htz := HSz.out t (List.mem_of_getElem? htj)
            obtain ⟨tb, toff, rfl, t0⟩ := (HSs.out.no ((HK2.out.then HK.out).then HKj.out)) j t htj
            have z0 := fun dd os => cell_regrown t0 dd os
            have hj1 : (j : Int) < (n2 : Int) := by omega
            have hj0 : (0 : Int) ≤ (j : Int) := by omega
            have HRa : Hid (∀ W, Kept No wr W → Calls Try.prog 21 #[.pointer (some ⟨r, 0, none⟩), .string t] W fun e w' => e = .returned (.int .i64 (fnv (strB t) % bu)) ∧ Below W.heap.size W w') := fun W hk => toBelow (bucket2_any r sa sn sc f p bu bl ro pg pc m ps t W (HRv.out.no (HKj.out.then hk)) hb3 hb4 htz)
            have HRb : Hid (∀ W, Kept No wr W → Calls Try.prog 22 #[.pointer (some ⟨q, 0, none⟩), .string t] W fun e w' => e = .returned (.int .i64 (fnv (strB t) % bu)) ∧ Below W.heap.size W w') := fun W hk => toBelow (refBucket_any base q zs f p bu bl ro ps t W (HQv.out.no (HKj.out.then hk)) hb3 hb4 htz)
            generalize fnv (strB t) % bu = l1 at HRa HRb
            clear htj t0 htz hb3 hb4
            go_wp2
            refine wp_region_quiet_below hmix (by kernel_rfl) ?_
            repeat (quiet_step (first | exact Calls.regrown_of (HRa.out _ (kept_regrown _ _ _)) | exact Calls.regrown_of (HRb.out _ (kept_regrown _ _ _))))
            refine wpQuiet_nil ?_
            intro _ hw'
            obtain ⟨⟨nq, osq⟩, hw''⟩ := hw'
            rw [hw'']
            simp only []
            have HKr : Hid (Kept No w9 (Sort.grow (redrawn wr nq) osq)) := HKj.out.then (kept_regrown _ _ _)
            clear hw'' HKj z0 HRa HRb
            generalize Sort.grow (redrawn wr nq) osq = wz at HKr
            go_wp2
            go_roundw
            case rel => exact ⟨j + 1, by omega, by go_num, HKr⟩
            case measure => simp [intOf]; omega
          · have hj1 : ¬ (j : Int) < (n2 : Int) := by omega
            go_wp2
            go_ret
            exact ⟨rfl, ((HK2.out.then HK.out).then HKj.out).below (Nat.le_refl _) (fun _ e => e.elim)⟩

end Go.Proofs.Ytpapbleabjpbfaa
