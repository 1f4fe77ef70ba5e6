import Derived.Test.YtpapbleabjpbfaaRp
namespace Go.Proofs.Ytpapbleabjpbfaa
open Go.RowKit
set_option linter.unusedVariables false

set_option maxRecDepth 100000 in
set_option maxHeartbeats 4000000 in
theorem pointsWalk (a0 : Option Addr) (n0 c0 : Nat) (xs : List Cfg) (w : World) (h0 : xs.length = n0) (hx : Cfgs w a0 xs) (hok : ∀ x ∈ xs, CfgOk w x) (hb0 : n0 ≤ 140737488355328) :
    Calls Try.prog 4 #[.slice a0 n0 c0] w fun e w' => e = .returned (.bool true) ∧ Below w.heap.size w w' := by
  have HL0 : Hid (xs.length = n0) := h0
  have HX : Hid (Cfgs w a0 xs) := hx
  have HO : Hid (∀ x ∈ xs, CfgOk w x) := hok
  clear h0 hx hok
  go_enter Try.func4, Try.ntmps4
  go_wp2
  go_loopw [3] (fun i wr => ∃ k : Nat, k ≤ n0 ∧ i = .int .i64 k ∧ Hid (Kept No w wr)) (fun i _ => n0 - (intOf i).toNat)
  case atStart => exact ⟨0, Nat.zero_le _, rfl, Kept.refl _ _⟩
  case round =>
    obtain ⟨k, hk, rfl, HK⟩ := hrel
    by_cases hlt : k < n0
    · obtain ⟨x, hxk⟩ : ∃ x, xs[k]? = some x := ⟨_, List.getElem?_eq_getElem (by rw [HL0.out]; exact hlt)⟩
      have hcx := (HO.out x (List.mem_of_getElem? hxk)).no HK.out
      obtain ⟨b, off, rfl, e0, e1, e2, e3, e4, e5⟩ := (HX.out.no HK.out) k x hxk
      have HB : Hid _ := bothP_any x wr hcx
      obtain ⟨xa, xn, xc, zs, f, p, bu, bl, ro⟩ := x
      simp only at e0 e1 e2 e3 e4 e5 HB
      have hk1 : (k : Int) < (n0 : Int) := by omega
      clear hxk hcx
      go_wp2_with fail
      refine Calls.mono HB.out ?_
      rintro e w1 ⟨ra, rb, rfl, hv1, hk1'⟩
      have HK1 : Hid (Kept No w w1) := HK.out.then hk1'
      clear e0 e1 e2 e3 e4 e5 hk1' HB HK
      rcases hv1 with ⟨rfl, rfl⟩ | ⟨r, q, ys, yf, yp, ybu, ybl, yro, rfl, rfl, hR, hQ, hc⟩
      · go_wp2
        go_roundw
        case rel => exact ⟨k + 1, by omega, by go_num, HK1⟩
        case measure => simp [intOf]; omega
      · obtain ⟨hp1, hp2⟩ := pts_pos hc
        obtain ⟨sa, sn, sc, pg, pc, m, hRv⟩ := hR.v
        obtain ⟨qa, qc, qg, qpc, mq, hQv, hqn⟩ := hQ.v hp1
        obtain rfl : m = mq := by rw [← hRv.len, hQv.len]
        have HPs : Hid _ := pointsSame_any r sa sn sc yf yp ybu ybl yro pg pc m _ q _ yf yp ybu ybl yro qg qpc w1 hRv hQv (by rw [← hRv.len]; exact hp2) (by rw [← hRv.len]; exact hp1)
        clear hR hQ hc hp1 hp2 hRv hQv hqn
        go_wp2_with (go_at_call 13
                     refine Calls.mono HPs.out ?_
                     rintro e w2 ⟨rfl, hb2⟩
                     have HK2 : Hid (Kept No w w2) := HK1.out.then (Kept.of_below hb2)
                     clear hb2)
        go_roundw
        case rel => exact ⟨k + 1, by omega, by go_num, HK2⟩
        case measure => simp [intOf]; omega
    · obtain rfl : k = n0 := by omega
      have hk1 : ¬ (k : Int) < (k : Int) := by omega
      go_wp2_with (go_at_call 12; refine (known_any _).mono ?_; rintro e w1 ⟨rfl, hk1⟩; have HK1 : Hid (Kept No w w1) := HK.out.then hk1; clear hk1)
      go_ret
      exact ⟨rfl, HK1.out.below (Nat.le_refl _) (fun _ e => e.elim)⟩

end Go.Proofs.Ytpapbleabjpbfaa
