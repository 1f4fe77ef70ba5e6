import Derived.Test.YtgnfeegnhdbnkaaC
namespace Go.Proofs.Ytgnfeegnhdbnkaa
open Go.RowKit
set_option linter.unusedVariables false
set_option linter.unusedSimpArgs false

theorem hexI_neg (r : Int) : (hexI r < 0) ↔ hexD r = none := by
  unfold hexI
  cases h : hexD r with
  | none => simp
  | some x => have := hexD_le h; simp; omega
theorem hexI_some {r h : Int} (e : hexD r = some h) : hexI r = h := by unfold hexI; rw [e]; rfl

/-- One byte below 128. -/
theorem Rl.low {l : List UInt8} {i : Nat} {s : Cs} {t : St} (h : Rl l i s t) {c : UInt8} (hc : l[i]? = some c) (h0 : s.pl = 0 → bi c ≠ 35) (h7 : s.pl ≠ 7) : Rl l (i + 1) (stepC l s i (bi c)) (nextS t c) := by
  obtain ⟨pl, fr, ws, bt⟩ := s
  obtain ⟨inn, word, tw, dg, bad⟩ := t
  simp only at h0 h7
  unfold Rl at h
  simp only at h
  unfold stepC
  match pl, h, h0, h7 with
  | 0, h, h0, _ =>
    obtain ⟨rfl, rfl, rfl, rfl⟩ := h
    have h35 := h0 rfl
    simp only [begS, nextS]
    by_cases e : bi c = 34
    · have eb : isB (bi c) = false := by rw [e]; decide
      simp [e, eb, Rl, cutL_self]
      rw [e] at eb; simp [eb]
    · by_cases eb : isB (bi c) = true
      · simp [e, eb, Rl]
      · simp [e, eb, h35, Rl, cutL_snoc (Nat.le_refl i) hc, cutL_self]
  | 1, h, _, _ =>
    obtain ⟨rfl, hf, rfl, rfl, rfl⟩ := h
    simp only [plaS, nextS]
    by_cases e : bi c = 34
    · have eb : isB (bi c) = false := by rw [e]; decide
      simp [e, Rl]
      rw [e] at eb; simp [eb]
    · by_cases eb : isB (bi c) = true
      · simp [e, eb, Rl, endS]
      · simp [e, eb, Rl, cutL_snoc hf hc]; omega
  | 2, h, _, _ =>
    obtain ⟨rfl, hf, rfl, rfl, rfl⟩ := h
    simp only [quoS, nextS]
    by_cases e : bi c = 92
    · simp [e, Rl]
    · by_cases e2 : bi c = 34
      · simp [e2, Rl, endS]
      · simp [e, e2, Rl, cutL_snoc hf hc]; omega
  | 3, h, _, _ =>
    obtain ⟨rfl, rfl, rfl, rfl⟩ := h
    have hb : UInt8.ofNat (bi c).toNat = c := by unfold bi; simp
    simp only [eseS, nextS, escS]
    by_cases e1 : bi c = 34
    · simp [e1, Rl, cutL_self]; rw [e1] at hb; rw [← hb]; rfl
    · by_cases e2 : bi c = 92
      · simp [e2, Rl, cutL_self]; rw [e2] at hb; rw [← hb]; rfl
      · by_cases e3 : bi c = 110
        · simp [e3, Rl, cutL_self]
        · by_cases e4 : bi c = 116
          · simp [e4, Rl, cutL_self]
          · by_cases e5 : bi c = 120
            · simp [e5, Rl]
            · simp [e1, e2, e3, e4, e5, Rl]
  | 4, h, _, _ =>
    obtain ⟨rfl, rfl, rfl, rfl⟩ := h
    simp only [digS, nextS]
    cases e : hexD (bi c) with
    | none => simp [Rl, (hexI_neg (bi c)).2 e]
    | some x =>
      have hx := hexD_le e
      have hn : ¬ hexI (bi c) < 0 := by rw [hexI_some e]; omega
      simp [Rl, hn, hexI_some e, setLast_snoc]
      omega
  | 5, h, _, _ =>
    obtain ⟨rfl, hd0, hd1, rfl, rfl, rfl⟩ := h
    simp only [digS, nextS]
    cases e : hexD (bi c) with
    | none => simp [Rl, (hexI_neg (bi c)).2 e]
    | some x =>
      have hx := hexD_le e
      have hn : ¬ hexI (bi c) < 0 := by rw [hexI_some e]; omega
      have hl : (((word ++ [UInt8.ofNat (16 * dg).toNat]).getLastD 0).toNat : Int) = 16 * dg := by
        have h1 : (word ++ [UInt8.ofNat (16 * dg).toNat]).getLastD 0 = UInt8.ofNat (16 * dg).toNat := by simp
        rw [h1, UInt8.toNat_ofNat']
        omega
      simp only [hl]
      simp [Rl, hn, hexI_some e, setLast_snoc, cutL_self]
      omega
  | 6, h, _, _ =>
    obtain ⟨rfl, rfl, rfl, rfl⟩ := h
    simp only [behS, nextS]
    by_cases eb : isB (bi c) = true
    · simp [eb, Rl]
    · simp [eb, Rl]
  | 7, _, _, h7 => exact absurd rfl h7
  | n + 8, h, _, _ => exact h.elim
theorem isB_high {r : Int} (h : 128 ≤ r) : isB r = false := by
  unfold isB
  have h1 : (r == 32) = false := by simp; omega
  have h2 : (r == 9) = false := by simp; omega
  rw [h1, h2]; rfl
theorem hexD_high {r : Int} (h : 128 ≤ r) : hexD r = none := by
  unfold hexD
  rw [if_neg (by omega), if_neg (by omega)]
/-- More of a rune's bytes: in a plain word or a quoted one they are its bytes, elsewhere all is wrong already. -/
theorem Rl.more {l : List UInt8} {i : Nat} {s : Cs} {t : St} (h : Rl l i s t) (hs : s.pl = 1 ∨ s.pl = 2 ∨ s.pl = 7) {c : UInt8} (hc : l[i]? = some c) (hh : 128 ≤ bi c) : Rl l (i + 1) s (runS t [c]) := by
  obtain ⟨pl, fr, ws, bt⟩ := s
  obtain ⟨inn, word, tw, dg, bad⟩ := t
  simp only at hs
  unfold Rl at h
  simp only at h
  have n34 : ¬ bi c = 34 := by omega
  have n92 : ¬ bi c = 92 := by omega
  rcases hs with rfl | rfl | rfl
  · obtain ⟨rfl, hf, rfl, rfl, rfl⟩ := h
    simp [runS, nextS, isB_high hh, n34, Rl, cutL_snoc hf hc]; omega
  · obtain ⟨rfl, hf, rfl, rfl, rfl⟩ := h
    simp [runS, nextS, n34, n92, Rl, cutL_snoc hf hc]; omega
  · simp only at h
    subst h
    simp [runS, Rl]
/-- A rune's first byte, if it is 128 or more. -/
theorem Rl.high {l : List UInt8} {i : Nat} {s : Cs} {t : St} (h : Rl l i s t) {c : UInt8} (hc : l[i]? = some c) (hh : 128 ≤ bi c) {r : Int} (hr : 128 ≤ r) (h7 : s.pl ≠ 7) : Rl l (i + 1) (stepC l s i r) (nextS t c) ∧ ((stepC l s i r).pl = 1 ∨ (stepC l s i r).pl = 2 ∨ (stepC l s i r).pl = 7) := by
  have e : stepC l s i r = stepC l s i (bi c) := by
    have n34 : ¬ bi c = 34 := by omega
    have n92 : ¬ bi c = 92 := by omega
    have m34 : ¬ r = 34 := by omega
    have m92 : ¬ r = 92 := by omega
    have a1 : ¬ bi c = 110 := by omega
    have a2 : ¬ bi c = 116 := by omega
    have a3 : ¬ bi c = 120 := by omega
    have b1 : ¬ r = 110 := by omega
    have b2 : ¬ r = 116 := by omega
    have b3 : ¬ r = 120 := by omega
    unfold stepC
    simp only [begS, plaS, quoS, eseS, digS, behS, isB_high hh, isB_high hr, hexD_high hh, hexD_high hr, n34, n92, m34, m92, a1, a2, a3, b1, b2, b3]
    simp
  rw [e]
  refine ⟨h.low hc (fun _ => by omega) h7, ?_⟩
  obtain ⟨pl, fr, ws, bt⟩ := s
  have n34 : ¬ bi c = 34 := by omega
  have n92 : ¬ bi c = 92 := by omega
  have a1 : ¬ bi c = 110 := by omega
  have a2 : ¬ bi c = 116 := by omega
  have a3 : ¬ bi c = 120 := by omega
  unfold Rl at h
  unfold stepC
  match pl, h with
  | 0, _ => simp [begS, isB_high hh, n34]
  | 1, _ => simp [plaS, isB_high hh, n34]
  | 2, _ => simp [quoS, n34, n92]
  | 3, _ => simp [eseS, n34, n92, a1, a2, a3]
  | 4, _ => simp [digS, hexD_high hh]
  | 5, _ => simp [digS, hexD_high hh]
  | 6, _ => simp [behS, isB_high hh]
  | 7, _ => simp
  | n + 8, h => exact h.elim
end Go.Proofs.Ytgnfeegnhdbnkaa
