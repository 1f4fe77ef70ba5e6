import Derived.Test.YtpapbleabjpbfaaCg
import Derived.Deep.RegionHeld3
namespace Go.Proofs.Ytpapbleabjpbfaa
open Go.RowKit
set_option linter.unusedVariables false

set_option maxRecDepth 100000 in
set_option maxHeartbeats 4000000 in
theorem newsWalk (a0 : Option Addr) (n0 c0 : Nat) (xs : List Cfg) (w : World) (h0 : xs.length = n0) (hx : Cfgs w a0 xs) (hok : ∀ x ∈ xs, CfgOk w x) (hb0 : n0 ≤ 140737488355328) :
    Calls Try.prog 3 #[.slice a0 n0 c0] w fun e w' => e = .returned (.bool true) ∧ Below w.heap.size w w' := by
  have HL0 : Hid (xs.length = n0) := h0
  have HX : Hid (Cfgs w a0 xs) := hx
  have HO : Hid (∀ x ∈ xs, CfgOk w x) := hok
  clear h0 hx hok
  go_enter Try.func3, Try.ntmps3
  go_wp2
  go_loopw [3] (fun i wr => ∃ k : Nat, k ≤ n0 ∧ i = .int .i64 k ∧ Hid (Kept No w wr)) (fun i _ => n0 - (intOf i).toNat)
  case atStart => exact ⟨0, Nat.zero_le _, rfl, Kept.refl _ _⟩
  case round =>
    obtain ⟨k, hk, rfl, HK⟩ := hrel
    by_cases hlt : k < n0
    · obtain ⟨x, hxk⟩ : ∃ x, xs[k]? = some x := ⟨_, List.getElem?_eq_getElem (by rw [HL0.out]; exact hlt)⟩
      have hcx := (HO.out x (List.mem_of_getElem? hxk)).no HK.out
      obtain ⟨b, off, rfl, e0, e1, e2, e3, e4, e5⟩ := (HX.out.no HK.out) k x hxk
      have HC : Hid (CfgOk wr x) := hcx
      obtain ⟨xa, xn, xc, zs, f, p, bu, bl, ro⟩ := x
      simp only at e0 e1 e2 e3 e4 e5
      have hln : zs.length = xn := hcx.len
      subst hln
      have hk1 : (k : Int) < (n0 : Int) := by omega
      clear hxk hcx
      by_cases hc : cfgB zs f p bu bl ro = true
      · obtain ⟨⟨_, _, hf1, h64⟩, _, ⟨hp1, hp2⟩, _⟩ := cfgB_true hc
        obtain ⟨pn, hpn⟩ := Int.eq_ofNat_of_zero_le (show 0 ≤ p by omega)
        have hpn' : p = (pn : Int) := hpn
        subst hpn'
        have h1z : 1 ≤ zs.length := by have := (cfgB_true hc).1.1; omega
        have HCt : Hid (cfgB zs f pn bu bl ro = true) := hc
        clear hc hf1 hp1 hp2 hpn
        go_wp2_with fail
        refine Calls.mono (bothYes_any xa xc zs f pn bu bl ro wr HC.out.nums HC.out.all HC.out.le HCt.out) ?_
        rintro e w1 ⟨r, q, rfl, hr1, hq1, hk1'⟩
        have HK1 : Hid (Kept No w w1) := HK.out.then hk1'
        have HR1 : Hid (RingAt w1 wr.heap.size r (sortI zs) f pn bu bl ro (sortP (ptsOf (sortI zs) pn))) := hr1
        obtain ⟨sv, v, L, hbq, hoq, _⟩ := hq1
        obtain ⟨qa, qc, rfl⟩ := owns_slice hoq
        rw [sortI_len] at hbq hoq
        have HQ1 : Hid (Box w1 q 34 #[.slice qa zs.length qc, .int .i64 f, .int .i64 pn, .int .i64 bu, .int .i64 bl, .int .i64 ro, v]) := hbq
        have HO1 : Hid (Nums .i64 w1 qa (sortI zs)) := Own.nums (t := 3) hoq (sortI_len zs)
        have HQc : Hid (∀ W, Kept No w1 W → W.cell? ⟨q, 0, none⟩ = some (.slice qa zs.length qc) ∧ W.cell? ⟨q, 1, none⟩ = some (.int .i64 f) ∧ W.cell? ⟨q, 2, none⟩ = some (.int .i64 pn) ∧ W.cell? ⟨q, 3, none⟩ = some (.int .i64 bu) ∧ W.cell? ⟨q, 4, none⟩ = some (.int .i64 bl) ∧ W.cell? ⟨q, 5, none⟩ = some (.int .i64 ro)) := fun W hk => by
          have hb := HQ1.out.kept hk (fun e => e)
          exact ⟨hb.cell 0, hb.cell 1, hb.cell 2, hb.cell 3, hb.cell 4, hb.cell 5⟩
        obtain ⟨t0, t1, t2, t3, t4, t5⟩ := HQc.out w1 (Kept.refl _ _)
        have HCf : Hid (∀ W, Kept No w1 W → Calls Try.prog 11 #[.pointer (some ⟨r, 0, none⟩)] W fun e w' => ∃ g c, e = .returned (cfgV (.slice (some ⟨g, 0, none⟩) zs.length c) f pn bu bl ro) ∧ Own 3 1 w' W.heap.size (some ⟨g, 0, none⟩) c zs.length ((sortI zs).map (Value.int .i64)) ∧ Kept No W w') := fun W hk => by
          have := config_any wr.heap.size r (sortI zs) f pn bu bl ro _ W (HR1.out.no hk) (by rw [sortI_len]; exact h1z) (by rw [sortI_len]; exact h64)
          rw [sortI_len] at this
          exact this
        have HSc : Hid (∀ W a c, Nums .i64 W a (sortI zs) → Nums .i64 W qa (sortI zs) → Calls Try.prog 10 #[cfgV (.slice a zs.length c) f pn bu bl ro, cfgV (.slice qa zs.length qc) f pn bu bl ro] W fun e w' => e = .returned (.bool true) ∧ Kept No W w') := fun W a c ha hb => by
          have := sameConfig_any a qa c qc (sortI zs) f pn bu bl ro W (by rw [sortI_len]; exact h64) ha hb
          rw [sortI_len] at this
          exact this
        clear e0 e1 e2 e3 e4 e5 hk1' hr1 hbq hoq HC HK
        go_wp2
        go_region_held3 (fun w' => w'.cell? ⟨q, 0, none⟩ = some (.slice qa zs.length qc) ∧ w'.cell? ⟨q, 1, none⟩ = some (.int .i64 f) ∧ w'.cell? ⟨q, 2, none⟩ = some (.int .i64 pn) ∧ w'.cell? ⟨q, 3, none⟩ = some (.int .i64 bu) ∧ w'.cell? ⟨q, 4, none⟩ = some (.int .i64 bl) ∧ w'.cell? ⟨q, 5, none⟩ = some (.int .i64 ro)) (go_keep) (first
          | (go_at_call 11
             refine Calls.mono (HCf.out _ (by first | exact (Kept.refl No w1).drew | exact (Kept.refl No w1).drewN _)) ?_
             rintro e w2 ⟨g2, c2, rfl, ho2, hk2⟩
             have HK2 : Hid (Kept No w1 w2) := (by first | exact (Kept.refl No w1).drew.then hk2 | exact ((Kept.refl No w1).drewN _).then hk2)
             have HN2 : Hid (Nums .i64 w2 (some ⟨g2, 0, none⟩) (sortI zs)) := Own.nums ho2 (sortI_len zs)
             obtain ⟨u0, u1, u2, u3, u4, u5⟩ := HQc.out w2 HK2.out
             clear ho2 hk2)
          | (go_at_call 10
             refine Calls.mono (HSc.out w2 _ _ HN2.out (HO1.out.no HK2.out)) ?_
             rintro e w3 ⟨rfl, hk3⟩
             have HK3 : Hid (Kept No w1 w3) := HK2.out.then hk3
             obtain ⟨v0, v1, v2, v3, v4, v5⟩ := HQc.out w3 HK3.out
             clear hk3))
        go_wp2
        go_roundw
        case rel => exact ⟨k + 1, by omega, by go_num, HK1.out.then HK3.out⟩
        case measure => simp [intOf]; omega
      · have hc' : cfgB zs f p bu bl ro = false := by simpa using hc
        go_wp2_with fail
        refine Calls.mono (bothNo_any xa xc zs f p bu bl ro wr HC.out.nums HC.out.all HC.out.le hc') ?_
        rintro e w1 ⟨rfl, hk1'⟩
        have HK1 : Hid (Kept No w w1) := HK.out.then hk1'
        clear e0 e1 e2 e3 e4 e5 hk1' hc hc' HC HK
        go_wp2
        go_quiet (fail)
        go_wp2
        go_roundw
        case rel => exact ⟨k + 1, by omega, by go_num, HK1.out.drewN _⟩
        case measure => simp [intOf]; omega
    · obtain rfl : k = n0 := by omega
      have hk1 : ¬ (k : Int) < (k : Int) := by omega
      go_wp2_with (go_at_call 12; refine (known_any _).mono ?_; rintro e w1 ⟨rfl, hk1⟩; have HK1 : Hid (Kept No w w1) := HK.out.then hk1; clear hk1)
      go_ret
      exact ⟨rfl, HK1.out.below (Nat.le_refl _) (fun _ e => e.elim)⟩

end Go.Proofs.Ytpapbleabjpbfaa
