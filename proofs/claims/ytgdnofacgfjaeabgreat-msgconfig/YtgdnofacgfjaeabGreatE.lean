import Derived.Test.YtgdnofacgfjaeabGreatR
import Derived.Test.YtgdnofacgfjaeabGreatK
import Derived.Deep.QuietTactic
import Derived.BigQuiet
namespace Go.Proofs.YtgdnofacgfjaeabGreat
open Go.RowKit
set_option linter.unusedVariables false

def eqB (xs ys : List Int) : Bool := decide (xs = ys)
theorem eqB_len {xs ys : List Int} (h : xs.length ≠ ys.length) : false = eqB xs ys := by
  unfold eqB; symm; exact decide_eq_false (fun e => h (by rw [e]))
theorem eqB_not {xs ys : List Int} (k : Nat) (h : xs[k]?.getD 0 ≠ ys[k]?.getD 0) : false = eqB xs ys := by
  unfold eqB; symm; exact decide_eq_false (fun e => h (by rw [e]))
theorem eqB_all {xs ys : List Int} (hl : xs.length = ys.length) (h : ∀ j, j < xs.length → xs[j]?.getD 0 = ys[j]?.getD 0) : true = eqB xs ys := by
  unfold eqB; symm; refine decide_eq_true (List.ext_getElem hl fun i h1 h2 => ?_)
  have := h i h1
  simpa [List.getElem?_eq_getElem h1, List.getElem?_eq_getElem h2] using this
theorem eqB_refl (xs : List Int) : eqB xs xs = true := by simp [eqB]
theorem eqB_eq {xs ys : List Int} (h : xs = ys) : eqB xs ys = true := by subst h; simp [eqB]

theorem drewN2 (w : World) (n m : Nat) : (w.drewN n).drewN m = w.drewN (n + m) := by simp [World.drewN, Nat.add_assoc]

theorem ret_bool {a b : Bool} (h : a = b) : Ending.returned (.bool a) = .returned (.bool b) := by rw [h]

set_option maxRecDepth 1000000 in
set_option maxHeartbeats 400000 in
theorem same_any (a b : Option Addr) (ca cb : Nat) (xs ys : List Int) (w : World) (hm : xs.length ≤ 281474976710656) (hn : ys.length ≤ 281474976710656) (hx : Bytes w a xs) (hy : Bytes w b ys) :
    Calls Tryz.prog 10 #[.slice a xs.length ca, .slice b ys.length cb] w fun e w' => e = .returned (.bool (eqB xs ys)) ∧ ∃ n, w' = w.drewN n := by
  have HX : Hid (Bytes w a xs) := hx
  have HY : Hid (Bytes w b ys) := hy
  clear hx hy
  by_cases hl : xs.length = ys.length
  · have HL : Hid (xs.length = ys.length) := hl
    go_enter Tryz.func10, Tryz.ntmps10
    go_wp2
    go_loopw [5] (fun i wr => ∃ k : Nat, k ≤ xs.length ∧ i = .int .i64 k ∧ Hid (∀ j, j < k → xs[j]?.getD 0 = ys[j]?.getD 0) ∧ ∃ n, wr = w.drewN n) (fun i _ => xs.length - (intOf i).toNat)
    case atStart => exact ⟨0, Nat.zero_le _, rfl, fun j hj => absurd hj (Nat.not_lt_zero _), 0, rfl⟩
    case round =>
      obtain ⟨k, hk, rfl, HE, n, rfl⟩ := hrel
      by_cases hlt : k < xs.length
      · have hlt2 : k < ys.length := by omega
        clear hl
        obtain ⟨b1, o1, rfl, hc1⟩ := HX.out k hlt
        obtain ⟨b2, o2, rfl, hc2⟩ := HY.out k hlt2
        by_cases he : xs[k]?.getD 0 = ys[k]?.getD 0
        · have HE' : Hid (∀ j, j < k + 1 → xs[j]?.getD 0 = ys[j]?.getD 0) := fun j hj => by
            by_cases e : j = k
            · subst e; exact he
            · exact HE.out j (by omega)
          rw [← he] at hc2
          clear he HE
          generalize xs[k]?.getD 0 = z at hc1 hc2
          go_wp2
          go_quiet (fail)
          go_wp2
          go_roundw
          case rel => exact ⟨k + 1, by omega, by go_num, HE', _, rfl⟩
          case measure => simp [intOf]; omega
        · have HN : Hid (xs[k]?.getD 0 ≠ ys[k]?.getD 0) := he
          have hne : (xs[k]?.getD 0 == ys[k]?.getD 0) = false := by simpa using he
          clear he HE
          generalize hz : xs[k]?.getD 0 = z at hc1 hne
          generalize hu : ys[k]?.getD 0 = u at hc2 hne
          have HZ : Hid (xs[k]?.getD 0 = z) := hz
          have HU : Hid (ys[k]?.getD 0 = u) := hu
          clear hz hu
          go_wp2
          go_quiet (fail)
          go_wp2
          go_ret
          exact ⟨ret_bool (eqB_not k HN.out), _, drewN2 _ _ _⟩
      · clear hl
        go_wp2
        go_ret
        exact ⟨ret_bool (eqB_all HL.out (fun j hj => HE.out j (by omega))), _, rfl⟩
  · have hl' : ((xs.length : Int) == (ys.length : Int)) = false := by simp; omega
    go_enter Tryz.func10, Tryz.ntmps10
    go_wp2
    go_ret
    exact ⟨ret_bool (eqB_len hl), 0, rfl⟩

end Go.Proofs.YtgdnofacgfjaeabGreat
