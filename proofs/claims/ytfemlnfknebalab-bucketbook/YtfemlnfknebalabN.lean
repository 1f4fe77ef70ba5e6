import Derived.Test.YtfemlnfknebalabM
namespace Go.Proofs.Ytfemlnfknebalab
open Go.RowKit
set_option linter.unusedVariables false
set_option linter.unusedSimpArgs false

/-- Begins so? -/
def hasP (s p : ByteArray) : Bool := decide (p.size ≤ s.size) && eqN (s.extract 0 p.size) p
set_option maxRecDepth 100000 in
theorem pref_any (s p : ByteArray) (w : World) : Calls Try.prog 36 #[.string s, .string p] w (fun e w' => e = .returned (.bool (hasP s p)) ∧ w' = w) := by
  have HE : Hid (hasP s p = (decide (p.size ≤ s.size) && eqN (s.extract 0 p.size) p)) := rfl
  by_cases h : p.size ≤ s.size
  · have h' : (p.size : Int) ≤ (s.size : Int) := by omega
    go_enter Try.func36, Try.ntmps36
    go_wp2
    go_ret
    refine ⟨ret_bool ?_, rfl⟩
    rw [HE.out, decide_eq_true h]
    simp [eqN]
  · have h' : ¬ (p.size : Int) ≤ (s.size : Int) := by omega
    go_enter Try.func36, Try.ntmps36
    go_wp2
    go_ret
    refine ⟨ret_bool ?_, rfl⟩
    rw [HE.out, decide_eq_false h]
    rfl
theorem hasPrefix_any (s p : ByteArray) (w : World) : Calls Try.prog 29 #[.string s, .string p] w (fun e w' => e = .returned (.bool (hasP s p)) ∧ w' = w) := by
  have HX : Hid _ := pref_any s p w
  generalize hasP s p = b at HX ⊢
  go_enter Try.func29, Try.ntmps29
  go_wp2_with (go_at_call 36
               refine Calls.mono HX.out ?_
               rintro e w1 ⟨rfl, rfl⟩)
  go_ret
  exact ⟨rfl, rfl⟩

end Go.Proofs.Ytfemlnfknebalab
