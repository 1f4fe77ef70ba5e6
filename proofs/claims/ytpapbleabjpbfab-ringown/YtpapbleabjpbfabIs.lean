import Derived.Test.YtpapbleabjpbfabE
namespace Go.Proofs.Ytpapbleabjpbfab
open Go.RowKit
set_option linter.unusedVariables false

/-- The servers up to n: ids, unlike. -/
def Good (zs : List Int) (n : Nat) : Prop := ∀ i : Nat, i < n → (1 ≤ zs[i]?.getD 0 ∧ zs[i]?.getD 0 ≤ 255) ∧ ∀ k : Nat, k < i → zs[k]?.getD 0 ≠ zs[i]?.getD 0
def HeadOk (zs : List Int) (f : Int) : Prop := 0 ≤ f ∧ f ≤ 3 ∧ 2 * f + 1 ≤ (zs.length : Int) ∧ zs.length ≤ 64

open Classical in
noncomputable def cfgB (zs : List Int) (f p bu bl ro : Int) : Bool :=
  decide (HeadOk zs f ∧ Good zs zs.length) && (inB p 1 64 && (inB bu 1 256 && (inB bl 1 4096 && inB ro 1 256)))

open Classical in
theorem cfgB_no {zs : List Int} {f p bu bl ro : Int} (h : ¬ (HeadOk zs f ∧ Good zs zs.length)) : false = cfgB zs f p bu bl ro := by
  unfold cfgB; rw [decide_eq_false h]; rfl
open Classical in
theorem cfgB_yes {zs : List Int} {f p bu bl ro : Int} (h : HeadOk zs f ∧ Good zs zs.length) : (inB p 1 64 && (inB bu 1 256 && (inB bl 1 4096 && inB ro 1 256))) = cfgB zs f p bu bl ro := by
  unfold cfgB; rw [decide_eq_true h]; rfl

set_option maxRecDepth 100000 in
set_option maxHeartbeats 2000000 in
theorem is_any (a : Option Addr) (cap : Nat) (zs : List Int) (f p bu bl ro : Int) (w : World) (hb : Nums .i64 w a zs) :
    Calls Try.prog 8 #[cfgV (.slice a zs.length cap) f p bu bl ro] w fun e w' => e = .returned (.bool (cfgB zs f p bu bl ro)) ∧ Kept No w w' := by
  have HB : Hid (Nums .i64 w a zs) := hb
  clear hb
  by_cases hh : HeadOk zs f
  · have HH : Hid (HeadOk zs f) := hh
    obtain ⟨h1, h2, h3, h4⟩ := hh
    have h3' : ¬ ((zs.length : Int) < 2 * f + 1) := by omega
    have h4' : ¬ ((zs.length : Int) > 64) := by omega
    go_enter Try.func8, Try.ntmps8
    go_wp2
    obtain ⟨w0, hw0⟩ : ∃ w0, w0 = w.alloc (.cells #[.slice a zs.length cap, .int .i64 f, .int .i64 p, .int .i64 bu, .int .i64 bl, .int .i64 ro] 24) := ⟨_, rfl⟩
    rw [← hw0]
    have HC : Hid (Box w0 w.heap.size 24 #[.slice a zs.length cap, .int .i64 f, .int .i64 p, .int .i64 bu, .int .i64 bl, .int .i64 ro]) := by rw [hw0]; exact Box.new _ _ _
    have HK0 : Hid (Kept No w w0) := by rw [hw0]; exact (Kept.refl No w).alloc _
    have c0 := HC.out.cell 0
    have c2 := HC.out.cell 2
    have c3 := HC.out.cell 3
    have c4 := HC.out.cell 4
    have c5 := HC.out.cell 5
    simp only [List.getElem?_toArray, List.getElem?_cons_zero, List.getElem?_cons_succ] at c0 c2 c3 c4 c5
    have HB0 : Hid (Nums .i64 w0 a zs) := HB.out.no HK0.out
    clear hw0 HC HB h1 h2 h3 h3' h4'
    go_loopw [3] (fun i wr => ∃ j : Nat, j ≤ zs.length ∧ i = .int .i64 j ∧ Hid (Good zs j) ∧ ∃ n, wr = w0.drewN n) (fun i _ => zs.length - (intOf i).toNat)
    case atStart => exact ⟨0, Nat.zero_le _, rfl, fun j hj => absurd hj (Nat.not_lt_zero _), 0, rfl⟩
    case round =>
      obtain ⟨j, hj, rfl, HG, n, rfl⟩ := hrel
      by_cases hlt : j < zs.length
      · obtain ⟨b, off, rfl, hc⟩ := HB0.out j hlt
        have HZ : Hid (∃ z, zs[j]?.getD 0 = z) := ⟨_, rfl⟩
        obtain ⟨z, hz⟩ := HZ.out
        rw [hz] at hc
        have HZ2 : Hid (zs[j]?.getD 0 = z) := hz
        clear hz HZ
        by_cases hr : 1 ≤ z ∧ z ≤ 255
        · obtain ⟨hr1, hr2⟩ := hr
          go_wp2
          go_loopw [4] (fun i wr => ∃ k : Nat, k ≤ j ∧ i = .int .i64 k ∧ Hid (∀ m : Nat, m < k → zs[m]?.getD 0 ≠ z) ∧ ∃ n, wr = w0.drewN n) (fun i _ => j - (intOf i).toNat)
          case atStart => exact ⟨0, Nat.zero_le _, rfl, fun m hm => absurd hm (Nat.not_lt_zero _), _, rfl⟩
          case round =>
            obtain ⟨k, hk, rfl, HE, n2, rfl⟩ := hrel
            by_cases hkj : k < j
            · obtain ⟨b', off', e', hc'⟩ := HB0.out k (by omega)
              cases e'
              obtain ⟨y, hy⟩ : ∃ y, zs[k]?.getD 0 = y := ⟨_, rfl⟩
              rw [hy] at hc'
              have HY : Hid (zs[k]?.getD 0 = y) := hy
              clear hy
              by_cases hyz : y = z
              · subst hyz
                have HX : Hid (¬ Good zs zs.length) := fun hg => (hg j hlt).2 k hkj (by rw [HY.out, HZ2.out])
                clear HE
                go_wp2
                go_quiet (fail)
                go_wp2
                go_ret
                exact ⟨ret_bool (cfgB_no (fun h => HX.out h.2)), (HK0.out.drewN _).drewN _⟩
              · have hyz' : (y == z) = false := by simpa using hyz
                have HE' : Hid (∀ m : Nat, m < k + 1 → zs[m]?.getD 0 ≠ z) := fun m hm => by
                  by_cases e : m = k
                  · rw [e, HY.out]; exact hyz
                  · exact HE.out m (by omega)
                clear HE hyz
                go_wp2
                go_quiet (fail)
                go_wp2
                go_roundw
                case rel => exact ⟨k + 1, by omega, by go_num, HE', _, rfl⟩
                case measure => simp [intOf]; omega
            · obtain rfl : k = j := by omega
              go_wp2
              go_roundw
              case rel =>
                refine ⟨k + 1, by omega, by go_num, fun i hi => ?_, _, rfl⟩
                by_cases e : i = k
                · subst e; rw [HZ2.out]; exact ⟨⟨hr1, hr2⟩, HE.out⟩
                · exact HG.out i (by omega)
              case measure => simp [intOf]; omega
        · have HX : Hid (¬ Good zs zs.length) := fun hg => hr (by have := (hg j hlt).1; rwa [HZ2.out] at this)
          have hr' : z < 1 ∨ 255 < z := by omega
          clear hr HG
          rcases hr' with h | h
          · go_wp2
            all_goals go_ret
            all_goals exact ⟨ret_bool (cfgB_no (fun h => HX.out h.2)), HK0.out.drewN _⟩
          · have h' : ¬ z < 1 := by omega
            go_wp2
            all_goals go_ret
            all_goals exact ⟨ret_bool (cfgB_no (fun h => HX.out h.2)), HK0.out.drewN _⟩
      · obtain rfl : j = zs.length := by omega
        go_wp2_with (go_at_call 28; refine (rwithin_any _ _ _ _).mono ?_; rintro e w' ⟨rfl, rfl⟩)
        all_goals go_ret
        all_goals refine ⟨ret_bool ?_, HK0.out.drewN _⟩
        all_goals rw [← cfgB_yes ⟨HH.out, HG.out⟩]
        all_goals simp_all
  · have HN : Hid (¬ HeadOk zs f) := hh
    clear hh
    go_enter Try.func8, Try.ntmps8
    go_wp2
    all_goals first
      | (go_ret; exact ⟨ret_bool (cfgB_no (fun h => HN.out h.1)), (Kept.refl No w).alloc _⟩)
      | (exfalso; exact HN.out ⟨by omega, by omega, by omega, by omega⟩)

end Go.Proofs.Ytpapbleabjpbfab
