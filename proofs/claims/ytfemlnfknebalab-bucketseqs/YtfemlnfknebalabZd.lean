import Derived.Test.YtfemlnfknebalabZc
namespace Go.Proofs.Ytfemlnfknebalab
open Go.RowKit
set_option linter.unusedVariables false
set_option linter.unusedSimpArgs false

theorem note_ge : ∀ (B : List La) (x : La), (∀ b ∈ B, b.cl ≠ x.cl) → noteS B x true = B
  | [], x, _ => rfl
  | y :: t, x, h => by
    have h1 : (y.cl == x.cl) = false := beq_eq_false_iff_ne.2 (h y (by simp))
    have h2 := note_ge t x (fun b hb => h b (by simp [hb]))
    show _ ++ ((if (y.cl == x.cl) = true then [] else [y]) ++ noteS t x (true || _)) = _
    rw [h1, Bool.true_or, h2]
    rfl
theorem note_lt : ∀ (A B : List La) (x : La), (∀ a ∈ A, a.cl < x.cl) → noteS (A ++ B) x false = A ++ noteS B x false
  | [], B, x, _ => rfl
  | y :: t, B, x, h => by
    have h0 : y.cl < x.cl := h y (by simp)
    have h1 : (y.cl == x.cl) = false := beq_eq_false_iff_ne.2 (by omega)
    have h3 : decide (x.cl ≤ y.cl) = false := decide_eq_false (by omega)
    have h2 := note_lt t B x (fun b hb => h b (by simp [hb]))
    show (if (!false && decide (x.cl ≤ y.cl)) = true then [x] else []) ++ ((if (y.cl == x.cl) = true then [] else [y]) ++ noteS (t ++ B) x (false || decide (x.cl ≤ y.cl))) = _
    rw [h1, h3, Bool.or_false, h2]
    rfl
theorem note_keep {ls : List La} (h : RiseL ls) (x : La) : noteS ls x false = keepS ls x := by
  obtain ⟨h1, h2, h3⟩ := gIx_spec (d := laZ) ordI h x.cl
  have hk0 : gIx La.cl cmpI laZ ls x.cl = lIx ls x.cl := rfl
  rw [hk0] at h1 h2 h3
  have e1 : noteS ls x false = ls.take (lIx ls x.cl) ++ noteS (ls.drop (lIx ls x.cl)) x false := by
    have := note_lt (ls.take (lIx ls x.cl)) (ls.drop (lIx ls x.cl)) x (fun a ha => by
      obtain ⟨i, hi⟩ := List.getElem?_of_mem ha
      rw [List.getElem?_take] at hi
      split at hi
      · rename_i hlt
        exact (cmpI_lt _ _).1 (h1 i a hlt hi)
      · cases hi)
    rw [List.take_append_drop] at this
    exact this
  rw [e1]
  unfold keepS
  by_cases hk : lIx ls x.cl < ls.length
  · have hd : ls.drop (lIx ls x.cl) = lAt ls (lIx ls x.cl) :: ls.drop (lIx ls x.cl + 1) := by
      rw [List.drop_eq_getElem_cons hk]
      have h4 := lAt_some hk
      rw [List.getElem?_eq_getElem hk] at h4
      rw [Option.some.inj h4]
    have hge : x.cl ≤ (lAt ls (lIx ls x.cl)).cl := by
      have := h2 _ _ (Nat.le_refl _) (lAt_some hk)
      rw [cmpI_lt] at this
      omega
    have hrest : noteS (ls.drop (lIx ls x.cl + 1)) x true = ls.drop (lIx ls x.cl + 1) := note_ge _ _ (fun b hb => by
      obtain ⟨i, hi⟩ := List.getElem?_of_mem hb
      rw [List.getElem?_drop] at hi
      have := (cmpI_lt _ _).1 (h _ _ _ _ (lAt_some hk) hi (by omega))
      omega)
    have e2 : noteS (ls.drop (lIx ls x.cl)) x false = [x] ++ ((if ((lAt ls (lIx ls x.cl)).cl == x.cl) = true then [] else [lAt ls (lIx ls x.cl)]) ++ ls.drop (lIx ls x.cl + 1)) := by
      rw [hd]
      show (if (!false && decide (x.cl ≤ (lAt ls (lIx ls x.cl)).cl)) = true then [x] else []) ++ ((if ((lAt ls (lIx ls x.cl)).cl == x.cl) = true then [] else [lAt ls (lIx ls x.cl)]) ++ noteS (ls.drop (lIx ls x.cl + 1)) x (false || decide (x.cl ≤ (lAt ls (lIx ls x.cl)).cl))) = _
      rw [decide_eq_true hge, Bool.or_true, hrest]
      rfl
    rw [e2]
    by_cases hq : lIs ls x.cl = true
    · rw [if_pos hq, beq_iff_eq.2 (lAt_cl hq), List.set_eq_take_append_cons_drop, if_pos hk]
      rfl
    · have hne : ((lAt ls (lIx ls x.cl)).cl == x.cl) = false := by
        refine beq_eq_false_iff_ne.2 (fun e => hq ?_)
        unfold lIs
        rw [decide_eq_true hk, (ordI.zero _ _).2 e]
        rfl
      rw [if_neg hq, hne]
      unfold insL
      rw [hd]
      rfl
  · have hq : ¬ lIs ls x.cl = true := fun e => hk (lIs_lt e)
    rw [if_neg hq, List.drop_of_length_le (by omega)]
    unfold insL
    rw [List.drop_of_length_le (by omega)]
    rfl
/-- What the reference's answered makes, of any list. -/
def actR (es : List En) (c : Cm) (room : Int) : List En × An :=
  if c.k == 4 then (es, ⟨0, enZ, es⟩) else if c.k == 1 then
    (if pIs es c.nm then (es, ⟨101, eAt es (plc es c.nm), []⟩) else if decide (room ≤ (es.length : Int)) then (es, ⟨103, enZ, []⟩) else (insL es (plc es c.nm) (newE c), ⟨0, newE c, []⟩)) else
  if pIs es c.nm then
    (if c.k == 3 then (es, ⟨0, eAt es (plc es c.nm), []⟩) else if c.k == 2 then (delL es (plc es c.nm), ⟨0, eAt es (plc es c.nm), []⟩) else
      (es.set (plc es c.nm) (chgS (eAt es (plc es c.nm)) c).1, (chgS (eAt es (plc es c.nm)) c).2))
  else (es, ⟨102, enZ, []⟩)
theorem act_R {es : List En} (h : RiseE es) (c : Cm) (room : Int) : actR es c room = actS es c room := by
  unfold actR actS creS
  rw [plc_rise h, pIs_rise h]
theorem pIs_lt {es : List En} {nm : ByteArray} (h : pIs es nm = true) : plc es nm < es.length := by simp [pIs] at h; exact h.1
theorem out_ins (es : List En) (k : Nat) (x : En) : es.take k ++ [x] ++ es.drop (k + 0) = insL es k x := by unfold insL; rw [List.append_assoc]; rfl
theorem out_del (es : List En) (k : Nat) : es.take k ++ [] ++ es.drop (k + 1) = delL es k := by unfold delL; rw [List.append_nil]
theorem out_set (es : List En) (k : Nat) (x : En) (h : k < es.length) : es.take k ++ [x] ++ es.drop (k + 1) = es.set k x := by rw [List.set_eq_take_append_cons_drop, if_pos h, List.append_assoc]; rfl
theorem out_all (es : List En) : es.take 0 ++ [] ++ es.drop (0 + 0) = es := by simp

end Go.Proofs.Ytfemlnfknebalab
