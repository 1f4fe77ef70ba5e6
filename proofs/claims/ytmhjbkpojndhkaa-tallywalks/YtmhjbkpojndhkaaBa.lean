import Derived.Test.YtmhjbkpojndhkaaTi
namespace Go.Proofs.Ytmhjbkpojndhkaa
open Go.RowKit
set_option linter.unusedVariables false
set_option linter.unusedSimpArgs false

/-- The place of the best of the first k + 1, gone through from the left. -/
def bi (lt : Nat → Nat → Bool) : Nat → Nat
  | 0 => 0
  | k + 1 => if lt (bi lt k) (k + 1) then k + 1 else bi lt k
theorem bi_le (lt : Nat → Nat → Bool) : ∀ k, bi lt k ≤ k
  | 0 => Nat.le_refl _
  | k + 1 => by
    have := bi_le lt k
    unfold bi
    split <;> omega
theorem bi_yes {lt : Nat → Nat → Bool} {k : Nat} (h : lt (bi lt k) (k + 1) = true) : bi lt (k + 1) = k + 1 := if_pos h
theorem bi_no {lt : Nat → Nat → Bool} {k : Nat} (h : lt (bi lt k) (k + 1) = false) : bi lt (k + 1) = bi lt k := by
  show (if lt (bi lt k) (k + 1) then k + 1 else bi lt k) = _
  rw [h]; rfl

/-- A row of texts. -/
def sAt (ss : List ByteArray) (i : Nat) : ByteArray := ss[i]?.getD ByteArray.empty
def Strs (w : World) (a : Option Addr) (ss : List ByteArray) : Prop :=
  ∀ i, i < ss.length → ∃ b off, a = some ⟨b, off, none⟩ ∧ w.cell? ⟨b, off + i, none⟩ = some (.string (sAt ss i))
theorem Strs.no {w w' : World} {a : Option Addr} {ss : List ByteArray} (h : Strs w a ss) (hk : Kept No w w') : Strs w' a ss := fun i hi => by
  obtain ⟨b, off, e, hc⟩ := h i hi
  exact ⟨b, off, e, hk.cell hc (fun e => e)⟩
def ltS (ss : List ByteArray) (i j : Nat) : Bool := decide ((sAt ss j).size < (sAt ss i).size)

theorem lessS_any (s r : ByteArray) (w : World) (b : Bool) (hb : decide (r.size < s.size) = b) :
    Calls Try.prog 20 #[.string s, .string r] w fun e w' => e = .returned (.bool b) ∧ w' = w := by
  subst hb
  go_enter Try.func20, Try.ntmps20
  go_wp2
  all_goals go_ret
  all_goals refine ⟨ret_bool ?_, rfl⟩
  all_goals simp

def BestOutS (w : World) (ss : List ByteArray) (e : Ending) (w' : World) : Prop :=
  e = .returned (.tuple #[.string (sAt ss (bi (ltS ss) (ss.length - 1))), .bool true]) ∧ Kept No w w'

set_option maxHeartbeats 1000000 in
theorem bestS_any (a : Option Addr) (n cap : Nat) (ss : List ByteArray) (w : World) (hs : ss.length = n + 1) (hn : n + 1 ≤ 9223372036854775807) (hcap : n + 1 ≤ cap) (hm : cap ≤ 9223372036854775807) (h : Strs w a ss) :
    Calls Try.prog 19 #[.func (.func 20) #[] #[], .slice a (n + 1) cap] w (BestOutS w ss) := by
  have HS : Hid (ss.length = n + 1) := hs
  have H1 : Hid (Strs w a ss) := h
  obtain ⟨b, off, rfl, c0⟩ := h 0 (by omega)
  clear hs h
  have HC : Hid (∀ wr, Kept No w wr → ∀ i, i < n + 1 → wr.cell? ⟨b, off + i, none⟩ = some (.string (sAt ss i))) := fun wr hk i hi => by
    obtain ⟨b', o', e, hc⟩ := (H1.out.no hk) i (by rw [HS.out]; exact hi)
    cases e; exact hc
  rw [Nat.add_zero] at c0
  have hb0 : ((n : Int) + 1 == 0) = false := by simp; omega
  have hz : Hid (sAt ss 0 = sAt ss (bi (ltS ss) 0)) := rfl
  generalize sAt ss 0 = s0 at c0 hz
  by_cases hc1 : cap = 1
  · subst hc1
    obtain rfl : n = 0 := by omega
    go_enter Try.func19, Try.ntmps19
    go_wp2
    go_loopw [7, 20] (fun v vi wr => v = .string s0 ∧ vi = .int .i64 0 ∧ Hid (Kept No w wr)) (fun _ _ _ => 0)
    case atStart => exact ⟨rfl, rfl, Kept.refl _ _⟩
    case round =>
      obtain ⟨rfl, rfl, HK⟩ := hrel
      have hx0 : ¬ ((0 : Int) < 0) := by omega
      go_wp2
      go_ret2
      refine ⟨?_, HK.out⟩
      rw [show ss.length - 1 = 0 by rw [HS.out]]
      rw [hz.out]
      rfl
  · go_enter Try.func19, Try.ntmps19
    go_wp2
    go_loopw [7, 20] (fun v vi wr => ∃ k : Nat, vi = .int .i64 k ∧ k ≤ n ∧ v = .string (sAt ss (bi (ltS ss) k)) ∧ Hid (Kept No w wr)) (fun _ i _ => n - (intOf i).toNat)
    case atStart => exact ⟨0, by go_num, by omega, by rw [hz.out], Kept.refl _ _⟩
    case round =>
      obtain ⟨k, rfl, hk, rfl, HK⟩ := hrel
      clear c0
      by_cases hlt : k < n
      · have hlt' : (k : Int) < (n : Int) := by omega
        have e1 := HC.out wr HK.out (k + 1) (by omega)
        rw [show off + (k + 1) = off + 1 + k by omega] at e1
        have HY : Hid (∀ b, decide ((sAt ss (k + 1)).size < (sAt ss (bi (ltS ss) k)).size) = b → (b = true → sAt ss (bi (ltS ss) (k + 1)) = sAt ss (k + 1)) ∧ (b = false → sAt ss (bi (ltS ss) (k + 1)) = sAt ss (bi (ltS ss) k))) := fun b hb => ⟨fun e => by rw [bi_yes (lt := ltS ss) (by subst e; exact hb)], fun e => by rw [bi_no (lt := ltS ss) (by subst e; exact hb)]⟩
        generalize sAt ss (bi (ltS ss) k) = s at HY
        generalize sAt ss (k + 1) = r at e1 HY
        cases hb : decide (r.size < s.size) with
        | true =>
          have HU : Hid _ := (HY.out true hb).1 rfl
          clear HY
          go_wp2_with (go_at_call 20
                       refine Calls.mono (lessS_any s r _ true hb) ?_
                       rintro e w2 ⟨rfl, rfl⟩)
          go_roundw
          case rel => exact ⟨k + 1, by go_num, by omega, by rw [HU.out], HK⟩
          case measure => simp [intOf]; omega
        | false =>
          have HU : Hid _ := (HY.out false hb).2 rfl
          clear HY
          go_wp2_with (go_at_call 20
                       refine Calls.mono (lessS_any s r _ false hb) ?_
                       rintro e w2 ⟨rfl, rfl⟩)
          go_roundw
          case rel => exact ⟨k + 1, by go_num, by omega, by rw [HU.out], HK⟩
          case measure => simp [intOf]; omega
      · have hlt' : ¬ (k : Int) < (n : Int) := by omega
        obtain rfl : k = n := by omega
        go_wp2
        go_ret2
        refine ⟨?_, HK.out⟩
        rw [show ss.length - 1 = k by rw [HS.out]; omega]
        rfl

theorem bestS_nil (cap : Nat) (a : Option Addr) (w : World) :
    Calls Try.prog 19 #[.func (.func 20) #[] #[], .slice a 0 cap] w fun e w' => e = .returned (.tuple #[.string ⟨#[]⟩, .bool false]) ∧ w' = w := by
  go_enter Try.func19, Try.ntmps19
  go_wp2
  all_goals go_ret2
  all_goals exact ⟨rfl, rfl⟩

end Go.Proofs.Ytmhjbkpojndhkaa
