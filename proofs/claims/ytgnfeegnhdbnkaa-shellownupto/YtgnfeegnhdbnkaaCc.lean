import Derived.Test.YtgnfeegnhdbnkaaCb
namespace Go.Proofs.Ytgnfeegnhdbnkaa
open Go.RowKit
set_option linter.unusedVariables false
set_option linter.unusedSimpArgs false

theorem decode_bytes (s : ByteArray) (i : Nat) (h : i < s.size) (ha : 128 ≤ (s[i]'h).toNat) : i + (Utf8.decode s i).2 ≤ s.size ∧ ∀ j, j < (Utf8.decode s i).2 → 128 ≤ (s.get! (i + j)).toNat := by
  have h0 : 128 ≤ (s.get! (i + 0)).toNat := by rw [get_at s i h]; exact ha
  have hn : ¬ (s.get! (i + 0)).toNat < 128 := by omega
  simp only [Utf8.decode, hn, if_false]
  repeat' split
  all_goals simp_all [Utf8.runeError]
  all_goals first
    | omega
    | (refine ⟨by omega, fun j hj => ?_⟩
       match j, hj with
       | 0, _ => simp; omega
       | 1, _ => omega
       | 2, _ => omega
       | 3, _ => omega
       | j + 4, hj => omega)
    | (intro j hj
       match j, hj with
       | 0, _ => simpa using h0)
theorem bs_get (l : List UInt8) (i : Nat) (c : UInt8) (hc : l[i]? = some c) : (bs l).get! i = c := by
  obtain ⟨hi, rfl⟩ := List.getElem?_eq_some_iff.1 hc
  simp [bs, ByteArray.get!, hi]
theorem bs_at (l : List UInt8) (i : Nat) (h : i < (bs l).size) : (bs l)[i]'h = l[i]'(by rwa [bs_size] at h) := by
  simp [bs, ByteArray.getElem_eq_getElem_data]
theorem cutL_cons {l : List UInt8} {i k : Nat} {c : UInt8} (hc : l[i]? = some c) : cutL l i (i + (k + 1)) = c :: cutL l (i + 1) (i + (k + 1)) := by
  obtain ⟨hi, rfl⟩ := List.getElem?_eq_some_iff.1 hc
  unfold cutL
  rw [List.drop_eq_getElem_cons hi, show i + (k + 1) - i = k + 1 by omega, show i + (k + 1) - (i + 1) = k by omega, List.take_succ_cons]
theorem Rl.mores {l : List UInt8} {s : Cs} (hs : s.pl = 1 ∨ s.pl = 2 ∨ s.pl = 7) : ∀ (k i : Nat) (t : St), Rl l i s t → i + k ≤ l.length → (∀ j, j < k → ∀ c, l[i + j]? = some c → 128 ≤ bi c) → Rl l (i + k) s (runS t (cutL l i (i + k)))
  | 0, i, t, h, _, _ => by simpa [cutL_self, runS] using h
  | k + 1, i, t, h, hl, hb => by
    have hc : l[i]? = some (l[i]'(by omega)) := List.getElem?_eq_getElem (by omega)
    have h1 := h.more hs hc (hb 0 (by omega) _ (by simp))
    have := Rl.mores hs k (i + 1) _ h1 (by omega) (fun j hj c hcj => hb (j + 1) (by omega) c (by rw [← hcj]; congr 1; omega))
    rw [cutL_cons hc, show l[i] :: cutL l (i + 1) (i + (k + 1)) = [l[i]] ++ cutL l (i + 1) (i + (k + 1)) from rfl, runS_app, show i + (k + 1) = i + 1 + k by omega]
    exact this
theorem Rl.good {l : List UInt8} {i : Nat} {s : Cs} {t : St} (h : Rl l i s t) (h7 : s.pl ≠ 7) : t.bad = false := by
  unfold Rl at h
  split at h
  all_goals first | exact h.2.2.2 | exact h.2.2.2.2 | exact h.2.2.2.2.2 | exact h.elim | (rename_i e; exact absurd e h7)
/-- One rune. -/
theorem Rl.rune {l : List UInt8} {i : Nat} {s : Cs} {t : St} (h : Rl l i s t) (hi : i < l.length) (h7 : s.pl ≠ 7) (h0 : s.pl = 0 → ((Utf8.decode (bs l) i).1 : Int) ≠ 35) :
    Rl l (i + (Utf8.decode (bs l) i).2) (stepC l s i ((Utf8.decode (bs l) i).1 : Int)) (runS t (cutL l i (i + (Utf8.decode (bs l) i).2))) ∧ 1 ≤ (Utf8.decode (bs l) i).2 ∧ i + (Utf8.decode (bs l) i).2 ≤ l.length := by
  have hc : l[i]? = some (l[i]'hi) := List.getElem?_eq_getElem hi
  have hsz : i < (bs l).size := by rw [bs_size]; exact hi
  have hb := h.good h7
  by_cases ha : (l[i]'hi).toNat < 128
  · have hd := decode_ascii (bs l) i hsz (by rw [bs_at]; exact ha)
    rw [bs_at] at hd
    rw [hd] at h0 ⊢
    refine ⟨?_, Nat.le_refl _, by show i + 1 ≤ _; omega⟩
    have := h.low hc h0 h7
    show Rl l (i + 1) _ (runS t (cutL l i (i + (0 + 1))))
    rw [cutL_cons hc, show i + (0 + 1) = i + 1 from rfl, cutL_self]
    simp only [runS, hb]
    simpa [bi] using this
  · have hh : 128 ≤ ((bs l)[i]'hsz).toNat := by rw [bs_at]; omega
    obtain ⟨d1, d2⟩ := decode_high (bs l) i hsz hh
    obtain ⟨d3, d4⟩ := decode_bytes (bs l) i hsz hh
    generalize (Utf8.decode (bs l) i).1 = r at *
    generalize (Utf8.decode (bs l) i).2 = k at *
    rw [bs_size] at d3
    obtain ⟨k, rfl⟩ : ∃ k', k = k' + 1 := ⟨k - 1, by omega⟩
    refine ⟨?_, d2, d3⟩
    obtain ⟨g1, g2⟩ := h.high hc (by unfold bi; omega) (r := (r : Int)) (by omega) h7
    have := Rl.mores g2 k (i + 1) _ g1 (by omega) (fun j hj c hcj => by
      have := d4 (j + 1) (by omega)
      rw [bs_get l (i + (j + 1)) c (by rw [← hcj]; congr 1; omega)] at this
      unfold bi; omega)
    rw [cutL_cons hc]
    simp only [runS, hb]
    rw [show i + (k + 1) = i + 1 + k by omega]
    simpa using this
/-- What the cutter tells at its end. -/
def endC (l : List UInt8) (s : Cs) : Option (List (List UInt8)) :=
  if s.pl = 0 ∨ s.pl = 6 then some s.ws else if s.pl = 1 then some (s.ws ++ [l.drop s.fr]) else none
theorem Rl.end {l : List UInt8} {s : Cs} (h : Rl l l.length s (runS s0 l)) : endC l s = wordsOf l := by
  unfold wordsOf
  generalize runS s0 l = t at h
  obtain ⟨pl, fr, ws, bt⟩ := s
  obtain ⟨inn, word, tw, dg, bad⟩ := t
  unfold Rl at h
  unfold endC
  match pl, h with
  | 0, h => obtain ⟨h1, h2, h3, h4⟩ := h; simp only at h1 h2 h3 h4; subst h1 h2 h3 h4; simp
  | 1, h =>
    obtain ⟨h1, h2, h3, h4, h5⟩ := h
    simp only at h1 h2 h3 h4 h5
    subst h1 h3 h4 h5
    simp [cutL, List.take_of_length_le]
  | 2, h => obtain ⟨h1, h2, h3, h4, h5⟩ := h; simp only at h1; subst h1; simp
  | 3, h => obtain ⟨h1, h2, h3, h4⟩ := h; simp only at h1; subst h1; simp
  | 4, h => obtain ⟨h1, h2, h3, h4⟩ := h; simp only at h1; subst h1; simp
  | 5, h => obtain ⟨h1, h2⟩ := h; simp only at h1; subst h1; simp
  | 6, h => obtain ⟨h1, h2, h3, h4⟩ := h; simp only at h1 h2 h3 h4; subst h1 h2 h3 h4; simp
  | 7, h => simp only at h; subst h; simp
  | n + 8, h => exact h.elim
/-- A remark: nothing behind it counts. -/
theorem Rl.mark {l : List UInt8} {i : Nat} {s : Cs} (h : Rl l i s (runS s0 (l.take i))) (hi : i < l.length) (h0 : s.pl = 0) (h35 : ((Utf8.decode (bs l) i).1 : Int) = 35) : some s.ws = wordsOf l := by
  have hc : l[i]? = some (l[i]'hi) := List.getElem?_eq_getElem hi
  have hsz : i < (bs l).size := by rw [bs_size]; exact hi
  have hb : bi (l[i]'hi) = 35 := by
    by_cases ha : (l[i]'hi).toNat < 128
    · have hd := decode_ascii (bs l) i hsz (by rw [bs_at]; exact ha)
      rw [bs_at] at hd
      rw [hd] at h35
      exact h35
    · have := (decode_high (bs l) i hsz (by rw [bs_at]; omega)).1
      omega
  have hl : l = l.take i ++ (l[i]'hi :: l.drop (i + 1)) := by rw [← List.drop_eq_getElem_cons hi, List.take_append_drop]
  have hr : runS s0 l = runS (runS s0 (l.take i)) (l[i]'hi :: l.drop (i + 1)) := by
    conv => lhs; rw [hl]
    rw [runS_app]
  unfold wordsOf
  rw [hr]
  generalize runS s0 (l.take i) = t at h
  obtain ⟨pl, fr, ws, bt⟩ := s
  simp only at h0
  subst h0
  obtain ⟨inn, word, tw, dg, bad⟩ := t
  unfold Rl at h
  obtain ⟨h1, h2, h3, h4⟩ := h
  simp only at h1 h2 h3 h4
  subst h1 h2 h3 h4
  have hn : nextS ⟨0, [], tw, dg, false⟩ (l[i]'hi) = ⟨7, [], tw, dg, false⟩ := by
    have e : isB (35 : Int) = false := by decide
    simp [nextS, hb, e]
  have hrun : runS ⟨0, [], tw, dg, false⟩ (l[i]'hi :: l.drop (i + 1)) = ⟨7, [], tw, dg, false⟩ := by
    simp only [runS]
    simp only [Bool.false_eq_true, if_false]
    rw [hn]
    exact runS_rem _ _ rfl
  rw [hrun]
  simp
/-- All is wrong: it stays so. -/
theorem Rl.wrong {l : List UInt8} {i : Nat} {s : Cs} (h : Rl l i s (runS s0 (l.take i))) (h7 : s.pl = 7) : wordsOf l = none := by
  have hr : runS s0 l = runS (runS s0 (l.take i)) (l.drop i) := by
    conv => lhs; rw [← List.take_append_drop i l]
    rw [runS_app]
  have hb : (runS s0 (l.take i)).bad = true := by
    obtain ⟨pl, fr, ws, bt⟩ := s
    simp only at h7
    subst h7
    exact h
  unfold wordsOf
  rw [hr, runS_bad hb]
  simp [hb]
end Go.Proofs.Ytgnfeegnhdbnkaa
