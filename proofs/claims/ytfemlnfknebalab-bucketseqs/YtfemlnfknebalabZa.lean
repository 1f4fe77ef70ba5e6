import Derived.Test.YtfemlnfknebalabZ
namespace Go.Proofs.Ytfemlnfknebalab
open Go.RowKit
set_option linter.unusedVariables false
set_option linter.unusedSimpArgs false
/-- The reference's place. -/
def plc : List En → ByteArray → Nat
  | [], _ => 0
  | e :: t, nm => if ltN e.nm nm then plc t nm + 1 else 0
def pIs (es : List En) (nm : ByteArray) : Bool := decide (plc es nm < es.length) && eqN (eAt es (plc es nm)).nm nm
theorem plc_eq : ∀ (es : List En) (nm : ByteArray) (i : Nat), (∀ j, j < i → ltN (eAt es j).nm nm = true) → i ≤ es.length → (i < es.length → ltN (eAt es i).nm nm = false) → plc es nm = i
  | [], nm, i, _, h2, _ => (Nat.le_zero.1 h2).symm
  | e :: t, nm, 0, _, _, h3 => by
    have : ltN e.nm nm = false := h3 (by simp)
    simp [plc, this]
  | e :: t, nm, i + 1, h1, h2, h3 => by
    have h0 : ltN e.nm nm = true := h1 0 (by omega)
    have := plc_eq t nm i (fun j hj => h1 (j + 1) (by omega)) (by simpa using h2) (fun hi => h3 (by simpa using hi))
    simp [plc, h0, this]
theorem plc_le : ∀ (es : List En) (nm : ByteArray), plc es nm ≤ es.length
  | [], _ => Nat.le_refl _
  | e :: t, nm => by
    have := plc_le t nm
    unfold plc
    split <;> simp <;> omega
/-- Of a rising list it is the place. -/
theorem plc_rise {es : List En} (h : RiseE es) (nm : ByteArray) : plc es nm = eIx es nm := by
  obtain ⟨h1, h2, h3⟩ := gIx_spec (d := enZ) ordB h nm
  refine plc_eq es nm _ (fun j hj => ?_) h3 (fun hi => ?_)
  · exact decide_eq_true (h1 j _ hj (eAt_some (Nat.lt_of_lt_of_le hj h3)))
  · exact decide_eq_false (h2 _ _ (Nat.le_refl _) (eAt_some hi))
theorem pIs_rise {es : List En} (h : RiseE es) (nm : ByteArray) : pIs es nm = eIs es nm := by
  unfold pIs eIs
  rw [plc_rise h]
  congr 1
  by_cases e : (eAt es (eIx es nm)).nm = nm
  · rw [eqN_iff.2 e, (ordB.zero _ _).2 e]; rfl
  · have h1 : eqN (eAt es (eIx es nm)).nm nm = false := by
      cases hz : eqN (eAt es (eIx es nm)).nm nm
      · rfl
      · exact absurd (eqN_iff.1 hz) e
    rw [h1]
    have h2 : cmpB (eAt es (eIx es nm)).nm nm ≠ 0 := fun hz => e ((ordB.zero _ _).1 hz)
    exact (beq_eq_false_iff_ne.2 h2).symm
end Go.Proofs.Ytfemlnfknebalab
