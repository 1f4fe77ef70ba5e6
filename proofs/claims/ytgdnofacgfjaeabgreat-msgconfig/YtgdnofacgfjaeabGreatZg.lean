import Derived.Test.YtgdnofacgfjaeabGreatZf
namespace Go.Proofs.YtgdnofacgfjaeabGreat
open Go.RowKit
set_option linter.unusedVariables false

/-- All other fields are empty. -/
def onlyB (m : MsgD) (fs : List Int) : Bool := decide (∀ f : Nat, f < 7 → (emptyF m f || hasB fs (f : Int)) = true)
theorem onlyB_no {m : MsgD} {fs : List Int} {f : Nat} (hf : f < 7) (h1 : emptyF m f = false) (h2 : hasB fs (f : Int) = false) : false = onlyB m fs := by
  unfold onlyB; symm; refine decide_eq_false (fun h => ?_)
  have := h f hf; rw [h1, h2] at this; cases this
theorem onlyB_yes {m : MsgD} {fs : List Int} (h : ∀ f : Nat, f < 7 → (emptyF m f || hasB fs (f : Int)) = true) : true = onlyB m fs := by
  unfold onlyB; symm; exact decide_eq_true h

set_option maxRecDepth 100000 in
set_option maxHeartbeats 2000000 in
theorem only_any (m : MsgD) (fa : Option Addr) (fn fc : Nat) (fs : List Int) (w : World) (hn : fs.length = fn) (h7 : fn ≤ 7) (hb : Nums .i64 w fa fs) :
    Calls Tryz.prog 109 #[.agg m.cells, .slice fa fn fc] w fun e w' => e = .returned (.bool (onlyB m fs)) ∧ Kept No w w' := by
  have HB : Hid (∀ (v : Int) W, Kept No w W → Calls Tryz.prog 146 #[.slice fa fn fc, .int .i64 v] W fun e w' => e = .returned (.bool (hasB fs v)) ∧ w' = W) := fun v W hW => by
    have := containsF_any fa fc fs v W (by omega) (hb.no hW)
    rw [hn] at this
    exact this
  clear hb hn h7
  have TB : Hid (1 = 1) := rfl
  obtain ⟨w0, hw0⟩ : ∃ w0, w0 = w.alloc (.cells m.cells 71) := ⟨_, rfl⟩
  have HK0 : Hid (Kept No w w0) := by rw [hw0]; exact (Kept.refl No w).alloc _
  have HM0 : Hid (Box w0 w.heap.size 71 m.cells) := by rw [hw0]; exact (MsgAt.new w m).box
  go_enter Tryz.func109, Tryz.ntmps109
  go_wp2_with (have hguard := TB; clear hguard; refine wp_boxV rfl 71 _ rfl m.cells rfl w.heap.size rfl ?_; rw [← hw0]; clear hw0 TB)
  go_loopw [6] (fun i wr => ∃ k : Nat, k ≤ 7 ∧ i = .int .i64 (k : Int) ∧ Hid (∀ f : Nat, f < k → (emptyF m f || hasB fs (f : Int)) = true) ∧ Hid (Kept No w0 wr)) (fun i _ => 7 - (intOf i).toNat)
  case atStart => exact ⟨0, Nat.zero_le _, rfl, fun f hf => absurd hf (Nat.not_lt_zero _), Kept.refl _ _⟩
  case round =>
    obtain ⟨k, hk, rfl, HE, HK⟩ := hrel
    by_cases hlt : k < 7
    · have hlt' : (k : Int) < 7 := by omega
      have HMr : Hid (Box wr w.heap.size 71 m.cells) := HM0.out.kept HK.out (fun e => e)
      have HEk : Hid (∀ W, Calls Tryz.prog 145 #[.agg m.cells, .int .i64 (k : Int)] W fun e w' => e = .returned (.bool (emptyF m k)) ∧ Kept No W w') := fun W => empty_any m k hlt W
      have HBk : Hid (∀ W, Kept No w W → Calls Tryz.prog 146 #[.slice fa fn fc, .int .i64 (k : Int)] W fun e w' => e = .returned (.bool (hasB fs (k : Int))) ∧ w' = W) := fun W hW => HB.out _ W hW
      have TL : Hid (1 = 1) := rfl
      cases he : emptyF m k with
      | true =>
        have HE2 : Hid (∀ f : Nat, f < k + 1 → (emptyF m f || hasB fs (f : Int)) = true) := fun f hf => by
          by_cases e : f = k
          · subst e; rw [he]; rfl
          · exact HE.out f (by omega)
        rw [he] at HEk
        clear HE he
        go_wp2_with (first
          | (have hguard := TL; clear hguard; refine wp_loadM rfl _ rfl w.heap.size m.cells rfl m.size HMr.out ?_; clear TL)
          | (go_at_call 145; refine (HEk.out _).mono ?_; rintro e w2 ⟨rfl, hk2⟩; have HK2 : Hid (Kept No w0 w2) := HK.out.then hk2; clear hk2))
        go_roundw
        case rel => exact ⟨k + 1, by omega, by go_num, HE2, HK2⟩
        case measure => simp [intOf]; omega
      | false =>
        rw [he] at HEk
        cases hh : hasB fs (k : Int) with
        | true =>
          have HE2 : Hid (∀ f : Nat, f < k + 1 → (emptyF m f || hasB fs (f : Int)) = true) := fun f hf => by
            by_cases e : f = k
            · subst e; rw [hh]; simp
            · exact HE.out f (by omega)
          rw [hh] at HBk
          clear HE he hh
          go_wp2_with (first
            | (have hguard := TL; clear hguard; refine wp_loadM rfl _ rfl w.heap.size m.cells rfl m.size HMr.out ?_; clear TL)
            | (go_at_call 145; refine (HEk.out _).mono ?_; rintro e w2 ⟨rfl, hk2⟩; have HK2 : Hid (Kept No w0 w2) := HK.out.then hk2; clear hk2)
            | (go_at_call 146; refine (HBk.out _ (HK0.out.then HK2.out)).mono ?_; rintro e w3 ⟨rfl, h3⟩; rw [h3]; clear h3 w3))
          go_roundw
          case rel => exact ⟨k + 1, by omega, by go_num, HE2, HK2⟩
          case measure => simp [intOf]; omega
        | false =>
          have HX : Hid (false = onlyB m fs) := onlyB_no hlt he hh
          rw [hh] at HBk
          clear HE he hh
          go_wp2_with (first
            | (have hguard := TL; clear hguard; refine wp_loadM rfl _ rfl w.heap.size m.cells rfl m.size HMr.out ?_; clear TL)
            | (go_at_call 145; refine (HEk.out _).mono ?_; rintro e w2 ⟨rfl, hk2⟩; have HK2 : Hid (Kept No w0 w2) := HK.out.then hk2; clear hk2)
            | (go_at_call 146; refine (HBk.out _ (HK0.out.then HK2.out)).mono ?_; rintro e w3 ⟨rfl, h3⟩; rw [h3]; clear h3 w3))
          go_ret
          exact ⟨ret_bool HX.out, HK0.out.then HK2.out⟩
    · have hlt' : ¬ (k : Int) < 7 := by omega
      obtain rfl : k = 7 := by omega
      go_wp2
      go_ret
      exact ⟨ret_bool (onlyB_yes HE.out), HK0.out.then HK.out⟩

/-- The key is of the kind's own. -/
def keyOkB (m : MsgD) (bu : Int) : Bool := keyB m.kk m.ka m.kb m.kc bu && (if m.kind = 1 ∨ m.kind = 2 ∨ m.kind = 11 ∨ m.kind = 12 then m.kk == 1 else if m.kind = 21 ∨ m.kind = 22 then (m.kk == 1 || m.kk == 2) else m.kk == 3)

set_option maxRecDepth 100000 in
set_option maxHeartbeats 2000000 in
theorem rightKey_any (m : MsgD) (sa : Option Addr) (sn sc : Nat) (f p bu bl ro : Int) (w : World) (h0 : 0 ≤ bu) (h1 : bu ≤ 9223372036854775807) :
    Calls Tryz.prog 108 #[.agg m.cells, cfgV (.slice sa sn sc) f p bu bl ro] w fun e w' => e = .returned (.bool (keyOkB m bu)) ∧ Kept No w w' := by
  have TB : Hid (1 = 1) := rfl
  go_enter Tryz.func108, Tryz.ntmps108
  go_upto_region 1 with (have hguard := TB; clear hguard; refine wp_boxV rfl 71 _ rfl m.cells rfl w.heap.size rfl ?_; clear TB)
  obtain ⟨w0, hw0⟩ : ∃ w0, w0 = (w.alloc (.cells m.cells 71)).alloc (.cells #[.slice sa sn sc, .int .i64 f, .int .i64 p, .int .i64 bu, .int .i64 bl, .int .i64 ro] 24) := ⟨_, rfl⟩
  rw [← hw0]
  have HK0 : Hid (Kept No w w0) := by rw [hw0]; exact ((Kept.refl No w).alloc _).alloc _
  have HM0 : Hid (MsgAt w0 w.heap.size m) := by rw [hw0]; exact (MsgAt.new w m).no ((Kept.refl No _).alloc _)
  have hB0 : Box w0 (w.heap.size + 1) 24 #[.slice sa sn sc, .int .i64 f, .int .i64 p, .int .i64 bu, .int .i64 bl, .int .i64 ro] := by
    rw [hw0]
    have := Box.new (w.alloc (.cells m.cells 71)) 24 #[.slice sa sn sc, .int .i64 f, .int .i64 p, .int .i64 bu, .int .i64 bl, .int .i64 ro]
    simpa using this
  clear hw0
  have d0 := hB0.cell 0
  have d1 := hB0.cell 1
  have d2 := hB0.cell 2
  have d3 := hB0.cell 3
  have d4 := hB0.cell 4
  have d5 := hB0.cell 5
  simp only [List.getElem?_toArray, List.getElem?_cons_zero, List.getElem?_cons_succ] at d0 d1 d2 d3 d4 d5
  obtain ⟨c7, c8, c9, c10⟩ := HM0.out.key
  obtain ⟨kk, hkk⟩ : ∃ kk, m.kk = kk := ⟨_, rfl⟩
  obtain ⟨kd, hkd⟩ : ∃ kd, m.kind = kd := ⟨_, rfl⟩
  have HE : Hid (∀ b, b = (keyB kk m.ka m.kb m.kc bu && (if kd = 1 ∨ kd = 2 ∨ kd = 11 ∨ kd = 12 then kk == 1 else if kd = 21 ∨ kd = 22 then (kk == 1 || kk == 2) else kk == 3)) → Ending.returned (.bool b) = .returned (.bool (keyOkB m bu))) := fun b e => by rw [e]; unfold keyOkB; rw [hkk, hkd]
  have HM1 : Hid (∀ W, Kept No w0 W → W.cell? ⟨w.heap.size, 0, none⟩ = some (.int .i64 kd) ∧ W.cell? ⟨w.heap.size, 7, none⟩ = some (.int .i64 kk)) := fun W hW => by
    have h := HM0.out.no hW
    exact ⟨by rw [← hkd]; exact h.ends.1, by rw [← hkk]; exact h.key.1⟩
  rw [hkk] at c7
  clear hkk hkd HM0
  have HKr : Hid (Calls Tryz.prog 144 #[keyV kk m.ka m.kb m.kc, cfgV (.slice sa sn sc) f p bu bl ro] w0 fun e w' => e = .returned (.bool (keyB kk m.ka m.kb m.kc bu)) ∧ Kept No w0 w') := keyRight_any kk m.ka m.kb m.kc sa sn sc f p bu bl ro w0 h0 h1
  generalize keyB kk m.ka m.kb m.kc bu = kb at HE HKr
  have TA : Hid (1 = 1) := rfl
  cases kb with
  | false =>
    go_wp2_with (go_at_call 144; have hguard := TA; clear hguard; refine Calls.mono HKr.out ?_; rintro e w2 ⟨rfl, hk2⟩; have HK2 : Hid (Kept No w w2) := HK0.out.then hk2; clear hk2 TA)
    go_ret
    exact ⟨HE.out _ (by simp), HK2.out⟩
  | true =>
    go_wp2_with (go_at_call 144; have hguard := TA; clear hguard; refine Calls.mono HKr.out ?_; rintro e w2 ⟨rfl, hk2⟩; have HK2 : Hid (Kept No w w2) := HK0.out.then hk2; obtain ⟨x0, x7⟩ := HM1.out w2 hk2; clear hk2 TA)
    all_goals go_ret
    all_goals exact ⟨HE.out _ (by simp_all), HK2.out⟩

end Go.Proofs.YtgdnofacgfjaeabGreat
