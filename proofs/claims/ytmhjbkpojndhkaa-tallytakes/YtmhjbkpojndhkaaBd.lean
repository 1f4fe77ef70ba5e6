import Derived.Test.YtmhjbkpojndhkaaLe
namespace Go.Proofs.Ytmhjbkpojndhkaa
open Go.RowKit
set_option linter.unusedVariables false
set_option linter.unusedSimpArgs false

set_option maxHeartbeats 1000000 in
theorem back_any (g n cap : Nat) (a : Option Addr) (zs : List Int) (w : World) (hz : zs.length = n) (hn : n ≤ 17592186043904) (hb : Box w g 3 ((lent zs).map (Value.int .i64)).toArray) (ha : Nums .i64 w a zs) :
    Calls Try.prog 12 #[.slice (some ⟨g, 0, none⟩) n (n + 67), .slice a n cap] w fun e w' => e = .returned (.bool true) ∧ Kept No w w' := by
  have HB : Hid (Box w g 3 ((lent zs).map (Value.int .i64)).toArray) := hb
  have HZ : Hid (zs.length = n) := hz
  have HA : Hid (Nums .i64 w a zs) := ha
  have HL : Hid (Nums .i64 w (some ⟨g, 0, none⟩) zs) := by
    have := hb.nums n
    rw [show (lent zs).take n = zs by rw [← hz]; simp [lent]] at this
    exact this
  have HC : Hid (∀ k, k < 67 → w.cell? ⟨g, n + k, none⟩ = some (.int .i64 (-77))) := fun k hk => by
    have hlk : (lent zs)[n + k]? = some (-77) := by
      unfold lent
      rw [List.getElem?_append_right (by omega), List.getElem?_replicate, if_pos (by omega)]
    rw [hb.cell, List.getElem?_toArray, List.getElem?_map, hlk]
    rfl
  clear hb hz ha
  go_enter Try.func12, Try.ntmps12
  go_wp2
  go_loopw [6] (fun vi wr => ∃ k : Nat, vi = .int .i64 (n + k) ∧ k ≤ 67 ∧ Hid (Kept No w wr)) (fun i _ => n + 67 - (intOf i).toNat)
  case atStart => exact ⟨0, by go_num, by omega, Kept.refl _ _⟩
  case round =>
    obtain ⟨k, rfl, hk, HK⟩ := hrel
    by_cases hlt : k < 67
    · have hlt' : (n : Int) + (k : Int) < (n : Int) + 67 := by omega
      have h0 : (0 : Int) ≤ (n : Int) + (k : Int) := by omega
      have c0 := HK.out.cell (HC.out k hlt) (fun e => e)
      go_wp2
      go_roundw
      case rel => exact ⟨k + 1, by go_num, by omega, HK⟩
      case measure => simp [intOf]; omega
    · obtain rfl : k = 67 := by omega
      have hlt' : ¬ (n : Int) + ((67 : Nat) : Int) < (n : Int) + 67 := by omega
      go_wp2_with (go_at_call 30
                   refine Calls.mono (same_any _ a n n _ cap zs zs wr HZ.out HZ.out (by omega) (by omega) (HL.out.no HK.out) (HA.out.no HK.out)) ?_
                   rintro e w1 ⟨rfl, hk1⟩
                   have HK1 : Hid (Kept No w w1) := HK.out.then hk1
                   rw [show decide (zs = zs) = true by simp]
                   clear hk1)
      go_ret
      exact ⟨rfl, HK1.out⟩

def zAt (zs : List Int) (i : Nat) : Int := zs[i]?.getD 0
def ltM (m : Int) (zs : List Int) (i j : Nat) : Bool := decide ((zAt zs i).tmod m < (zAt zs j).tmod m)

theorem lessM_any (cb mb : Nat) (a b m : Int) (c : Nat) (w : World) (h1 : Box w cb 3 #[.int .i64 c]) (h2 : Box w mb 3 #[.int .i64 m]) (hne : cb ≠ mb) (hm : 1 ≤ m) (hc : c ≤ 17592186043904) (r : Bool) (hr : decide (a.tmod m < b.tmod m) = r) :
    Calls Try.prog 17 #[.int .i64 a, .int .i64 b, .pointer (some ⟨cb, 0, none⟩), .pointer (some ⟨mb, 0, none⟩)] w fun e w' => e = .returned (.bool r) ∧ Box w' cb 3 #[.int .i64 ((c : Int) + 1)] ∧ Kept (Only cb) w w' := by
  have f0 := h1.frozen 0
  have c0 := h1.cell 0
  simp only [List.getElem?_toArray, List.getElem?_cons_zero] at c0
  obtain ⟨w1, hw1⟩ : ∃ w1, w1 = w.setCell ⟨cb, 0, none⟩ (.int .i64 ((c : Int) + 1)) := ⟨_, rfl⟩
  have HB1 : Hid (Box w1 cb 3 #[.int .i64 ((c : Int) + 1)]) := by rw [hw1]; exact h1.set 0 _
  have HK1 : Hid (Kept (Only cb) w w1) := by rw [hw1]; exact (Kept.refl (Only cb) w).setCell (p := ⟨cb, 0, none⟩) (fun _ => rfl) _
  have HM1 : Hid (Box w1 mb 3 #[.int .i64 m]) := h2.kept HK1.out (fun e => hne e.symm)
  have d0 := HM1.out.cell 0
  simp only [List.getElem?_toArray, List.getElem?_cons_zero] at d0
  rw [hw1] at d0
  have hm0 : ¬ m = 0 := by omega
  have hm1 : (m == 0) = false := by simpa using hm0
  have HR : Hid (decide (a.tmod m < b.tmod m) = r) := hr
  clear h1 h2 hr
  go_enter Try.func17, Try.ntmps17
  go_wp2
  go_quiet (fail)
  go_wp2
  all_goals go_ret
  rw [← hw1]
  exact ⟨ret_bool HR.out, HB1.out.kept (Kept.no_drewN _ _) (fun e => e), HK1.out.drewN _⟩

def BestOutM (w : World) (cb mb : Nat) (m : Int) (zs : List Int) (e : Ending) (w' : World) : Prop :=
  e = .returned (.tuple #[.int .i64 (zAt zs (bi (ltM m zs) (zs.length - 1))), .bool true]) ∧ Box w' cb 3 #[.int .i64 ((zs.length : Int) - 1)] ∧ Kept (Only cb) w w'

set_option maxHeartbeats 1000000 in
theorem bestM_any (cb mb g n cap : Nat) (m : Int) (zs : List Int) (w : World) (hz : zs.length = n + 1) (hn : n + 1 ≤ 17592186043904) (hcap : n + 1 < cap) (hm : 1 ≤ m) (hcp : cap ≤ 9223372036854775807) (hne : cb ≠ mb) (hg : g ≠ cb) (h1 : Box w cb 3 #[.int .i64 0]) (h2 : Box w mb 3 #[.int .i64 m]) (h : Nums .i64 w (some ⟨g, 0, none⟩) zs) :
    Calls Try.prog 18 #[.func (.func 17) #[] #[.pointer (some ⟨cb, 0, none⟩), .pointer (some ⟨mb, 0, none⟩)], .slice (some ⟨g, 0, none⟩) (n + 1) cap] w (BestOutM w cb mb m zs) := by
  have HZ : Hid (zs.length = n + 1) := hz
  have HC : Hid (∀ wr, Kept (Only cb) w wr → ∀ i, i < n + 1 → wr.cell? ⟨g, i, none⟩ = some (.int .i64 (zAt zs i))) := fun wr hk i hi => by
    obtain ⟨b', o', e, hc⟩ := (h.kept hk (fun b off e f => by cases e; exact hg f)) i (by omega)
    cases e
    rw [Nat.zero_add] at hc
    exact hc
  have c0 := HC.out w (Kept.refl _ _) 0 (by omega)
  have H1 : Hid (Box w cb 3 #[.int .i64 ((0 : Nat) : Int)]) := h1
  have HM : Hid (∀ wr, Kept (Only cb) w wr → Box wr mb 3 #[.int .i64 m]) := fun wr hk => h2.kept hk (fun e => hne e.symm)
  clear h1 h2 h hz
  have hb0 : ((n : Int) + 1 == 0) = false := by simp; omega
  have hc1 : ¬ cap = 1 := by omega
  have hzz : Hid (zAt zs 0 = zAt zs (bi (ltM m zs) 0)) := rfl
  generalize zAt zs 0 = z0 at c0 hzz
  go_enter Try.func18, Try.ntmps18
  go_wp2
  go_loopw [7, 20] (fun v vi wr => ∃ k : Nat, vi = .int .i64 k ∧ k ≤ n ∧ v = .int .i64 (zAt zs (bi (ltM m zs) k)) ∧ Hid (Box wr cb 3 #[.int .i64 ((k : Nat) : Int)]) ∧ Hid (Kept (Only cb) w wr)) (fun _ i _ => n - (intOf i).toNat)
  case atStart => exact ⟨0, by go_num, by omega, by rw [hzz.out], H1, Kept.refl _ _⟩
  case round =>
    obtain ⟨k, rfl, hk, rfl, HBk, HK⟩ := hrel
    clear c0
    by_cases hlt : k < n
    · have hlt' : (k : Int) < (n : Int) := by omega
      have e1 := HC.out wr HK.out (k + 1) (by omega)
      rw [show k + 1 = 0 + 1 + k by omega] at e1
      have HMk : Hid (Box wr mb 3 #[.int .i64 m]) := HM.out wr HK.out
      have HY : Hid (∀ b, decide ((zAt zs (bi (ltM m zs) k)).tmod m < (zAt zs (0 + 1 + k)).tmod m) = b → (b = true → zAt zs (bi (ltM m zs) (k + 1)) = zAt zs (0 + 1 + k)) ∧ (b = false → zAt zs (bi (ltM m zs) (k + 1)) = zAt zs (bi (ltM m zs) k))) := by
        rw [show 0 + 1 + k = k + 1 by omega]
        exact fun b hb => ⟨fun e => by rw [bi_yes (lt := ltM m zs) (by subst e; exact hb)], fun e => by rw [bi_no (lt := ltM m zs) (by subst e; exact hb)]⟩
      generalize zAt zs (bi (ltM m zs) k) = s at HY
      generalize zAt zs (0 + 1 + k) = r at e1 HY
      rw [show 0 + 1 + k = 1 + k by omega] at e1
      have HNe : Hid (cb ≠ mb) := hne
      cases hb : decide (s.tmod m < r.tmod m) with
      | true =>
        have HU : Hid _ := (HY.out true hb).1 rfl
        have HLs : Hid _ := lessM_any cb mb s r m k wr HBk.out HMk.out hne hm (by omega) true hb
        clear HY hb
        go_wp2_with (go_at_call 17
                     refine Calls.mono HLs.out ?_
                     rintro e w2 ⟨rfl, hb2, hk2⟩
                     have HB2 : Hid (Box w2 cb 3 #[.int .i64 ((k : Int) + 1)]) := hb2
                     have HK2 : Hid (Kept (Only cb) w w2) := HK.out.then hk2
                     clear hb2 hk2)
        go_roundw
        case rel => exact ⟨k + 1, by go_num, by omega, by rw [HU.out], HB2, HK2⟩
        case measure => simp [intOf]; omega
      | false =>
        have HU : Hid _ := (HY.out false hb).2 rfl
        have HLs : Hid _ := lessM_any cb mb s r m k wr HBk.out HMk.out hne hm (by omega) false hb
        clear HY hb
        go_wp2_with (go_at_call 17
                     refine Calls.mono HLs.out ?_
                     rintro e w2 ⟨rfl, hb2, hk2⟩
                     have HB2 : Hid (Box w2 cb 3 #[.int .i64 ((k : Int) + 1)]) := hb2
                     have HK2 : Hid (Kept (Only cb) w w2) := HK.out.then hk2
                     clear hb2 hk2)
        go_roundw
        case rel => exact ⟨k + 1, by go_num, by omega, by rw [HU.out], HB2, HK2⟩
        case measure => simp [intOf]; omega
    · have hlt' : ¬ (k : Int) < (n : Int) := by omega
      obtain rfl : k = n := by omega
      go_wp2
      go_ret2
      refine ⟨?_, ?_, HK.out⟩
      · rw [show zs.length - 1 = k by rw [HZ.out]; omega]
        rfl
      · rw [HZ.out, show ((k + 1 : Nat) : Int) - 1 = (k : Int) by omega]
        exact HBk.out

theorem bestM_nil (cap : Nat) (a : Option Addr) (f : Value) (w : World) :
    Calls Try.prog 18 #[f, .slice a 0 cap] w fun e w' => e = .returned (.tuple #[.int .i64 0, .bool false]) ∧ w' = w := by
  go_enter Try.func18, Try.ntmps18
  go_wp2
  all_goals go_ret2
  all_goals exact ⟨rfl, rfl⟩

end Go.Proofs.Ytmhjbkpojndhkaa
