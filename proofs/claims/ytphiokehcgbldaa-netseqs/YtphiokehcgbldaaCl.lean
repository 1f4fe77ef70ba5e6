import Derived.Test.YtphiokehcgbldaaTb
import Derived.Lib.SliceRun
import Derived.WalkSpells
namespace Go.Proofs.Ytphiokehcgbldaa
open Go.RowKit
set_option linter.unusedVariables false
set_option linter.unusedSimpArgs false

/-- A slice of bytes that the call itself has made, or nil. -/
abbrev OwnB (w : World) (base : Nat) (a : Option Addr) (cap : Nat) (zs : List Int) : Prop := Own 5 1 w base a cap zs.length (zs.map (Value.int .u8))
theorem OwnB.bytes {w : World} {base : Nat} {a : Option Addr} {cap : Nat} {zs : List Int} (h : OwnB w base a cap zs) : Bytes w a zs := h.nums rfl

theorem Bytes.none {w : World} {zs : List Int} (h : Bytes w none zs) : zs = [] := by
  cases zs with
  | nil => rfl
  | cons z l => obtain ⟨b, o, e, _⟩ := h 0 (by simp); cases e

def CloneOut (w : World) (a : Option Addr) (zs : List Int) (e : Ending) (w' : World) : Prop :=
  ∃ a' cap', e = .returned (.slice a' zs.length cap') ∧ OwnB w' w.heap.size a' cap' zs ∧ Kept No w w' ∧ (a = none → a' = none) ∧ (a' = none → a = none)

set_option maxHeartbeats 2000000 in
set_option maxRecDepth 100000 in
theorem clone_some (ad0 : Addr) (n c : Nat) (zs : List Int) (w : World) (hz : zs.length = n) (hn : n ≤ 140737488355328) (hb : Bytes w (some ad0) zs) :
    Calls Try.prog 35 #[.slice (some ad0) n c] w (CloneOut w (some ad0) zs) := by
  obtain ⟨i0, hi, hz0, hz1, hz2⟩ := info_parts Try.info5
  have q25 : ∀ (w : World) (a : Option Addr) (n c n' c' : Nat), (binOp .eql 35 (.slice a n c) (.slice none n' c')).run Try.prog w = .ok (.bool a.isNone) w := fun w a n c n' c' => Lib.run_eql_slice_nil w _ _ a n c n' c' Try.underlying35
  have HB : Hid (Bytes w (some ad0) zs) := hb
  have HZ : Hid (zs.length = n) := hz
  clear hb hz
  go_enter Try.func35, Try.ntmps35
  go_wp2_with (at_builtin; refine wpList_append_own _ rfl _ _ 35 rfl w.heap.size 5 i0 (.int .u8 0) 1 1 Try.underlying35 hi hz0 hz1 hz2 rfl (by decide) _ _ _ rfl (World.ownsRow_made w #[] 0 (Nat.le_refl _) (Nat.zero_le _) rfl) ad0 n c (zs.map (Value.int .u8)) rfl ?qc1 ?qc2 ?qc3 ?qc4 ?qc5 ?qc6 ?_)
  case qc1 => simp [HZ.out]
  case qc2 =>
    intro j u hj
    have hj0 : 0 < (zs.map (Value.int .u8)).length := by have := (List.getElem?_eq_some_iff.1 hj).1; omega
    obtain ⟨ad, e, h⟩ := HB.out.src hj0
    cases e
    exact Lib.cell?_alloc_some _ (h j u hj)
  case qc3 => exact num_one _ _
  case qc4 => unfold maxLen; omega
  case qc5 => omega
  case qc6 => simp
  intro v' w1 hown hgrow hnil
  go_wp2
  go_ret
  have hk : Kept No w w1 := ((Kept.refl No w).alloc _).grown hgrow (by intro k hk h; simp [Value.ownBlock] at hk; omega)
  rcases hown.2 with ⟨e, _⟩ | ⟨g, cap', cur, e, hr⟩
  · exact absurd e (by first | exact hnil | (intro e; exact absurd (hnil.1 e).1 (by simp)))
  · have hown' := hown
    subst e
    refine ⟨some ⟨g, 0, none⟩, cap', by rw [HZ.out]; simp, ?_, hk, fun e => (by cases e), fun e => (by cases e)⟩
    unfold OwnB Own
    rw [HZ.out]
    simpa using hown'

set_option maxRecDepth 100000 in
set_option maxHeartbeats 1000000 in
theorem clone_nil (n c : Nat) (w : World) :
    Calls Try.prog 35 #[.slice none n c] w (fun e w' => e = .returned (.slice none 0 0) ∧ w' = w) := by
  have q25 : ∀ (w : World) (a : Option Addr) (n c n' c' : Nat), (binOp .eql 35 (.slice a n c) (.slice none n' c')).run Try.prog w = .ok (.bool a.isNone) w := fun w a n c n' c' => Lib.run_eql_slice_nil w _ _ a n c n' c' Try.underlying35
  go_enter Try.func35, Try.ntmps35
  go_wp2
  go_ret
  exact ⟨rfl, rfl⟩

theorem clone_any (a : Option Addr) (n c : Nat) (zs : List Int) (w : World) (hz : zs.length = n) (hn : n ≤ 140737488355328) (hb : Bytes w a zs) :
    Calls Try.prog 35 #[.slice a n c] w (CloneOut w a zs) := by
  cases a with
  | none =>
    obtain rfl := hb.none
    refine (clone_nil n c w).mono ?_
    rintro e w' ⟨rfl, rfl⟩
    exact ⟨none, 0, rfl, Own.nil _ _ _ _, Kept.refl _ _, fun _ => rfl, fun _ => rfl⟩
  | some ad =>
    exact clone_some ad n c zs w hz hn hb

/-- The order of stamps. -/
def lessB (n c m d : Int) : Bool := decide (n < m) || (decide (n = m) && decide (c < d))
end Go.Proofs.Ytphiokehcgbldaa
