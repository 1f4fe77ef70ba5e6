import Derived.Test.YtgnfeegnhdbnkaaM
namespace Go.Proofs.Ytgnfeegnhdbnkaa
open Go.RowKit Go.Lib
set_option linter.unusedVariables false
set_option linter.unusedSimpArgs false

/-- What holds of a reader ahead of the i-th byte. -/
structure Rin (t : St) (i : Nat) : Prop where
  inn : t.inn ≤ 7
  dg : t.bad = false → t.inn = 5 → 0 ≤ t.dg ∧ t.dg ≤ 15
  len : t.ws.length + t.word.length ≤ i
theorem Rin.next {t : St} {i : Nat} (h : Rin t i) (c : UInt8) : Rin (nextS t c) (i + 1) := by
  obtain ⟨inn, word, ws, dg, bad⟩ := t
  obtain ⟨h1, h2, h3⟩ := h
  simp only at h1 h2 h3
  have hk : inn = 0 ∨ inn = 1 ∨ inn = 2 ∨ inn = 3 ∨ inn = 4 ∨ inn = 5 ∨ inn = 6 ∨ inn = 7 := by omega
  rcases hk with rfl | rfl | rfl | rfl | rfl | rfl | rfl | rfl
  · show Rin (if isB (bi c) = true then _ else if bi c = 35 then _ else if bi c = 34 then _ else _) _
    by_cases q1 : isB (bi c) = true
    · rw [if_pos q1]; exact ⟨by show 0 ≤ 7; omega, by simp, by simp; omega⟩
    rw [if_neg q1]
    by_cases q2 : bi c = 35
    · rw [if_pos q2]; exact ⟨by show 7 ≤ 7; omega, by simp, by simp; omega⟩
    rw [if_neg q2]
    by_cases q3 : bi c = 34
    · rw [if_pos q3]; exact ⟨by show 2 ≤ 7; omega, by simp, by simp; omega⟩
    rw [if_neg q3]; exact ⟨by show 1 ≤ 7; omega, by simp, by simp; omega⟩
  · show Rin (if isB (bi c) = true then _ else if bi c = 34 then _ else _) _
    by_cases q1 : isB (bi c) = true
    · rw [if_pos q1]; exact ⟨by show 0 ≤ 7; omega, by simp [endS], by simp [endS]; omega⟩
    rw [if_neg q1]
    by_cases q3 : bi c = 34
    · rw [if_pos q3]; exact ⟨by show 1 ≤ 7; omega, by simp, by simp; omega⟩
    rw [if_neg q3]; exact ⟨by show 1 ≤ 7; omega, by simp, by simp; omega⟩
  · show Rin (if bi c = 34 then _ else if bi c = 92 then _ else _) _
    by_cases q1 : bi c = 34
    · rw [if_pos q1]; exact ⟨by show 6 ≤ 7; omega, by simp [endS], by simp [endS]; omega⟩
    rw [if_neg q1]
    by_cases q3 : bi c = 92
    · rw [if_pos q3]; exact ⟨by show 3 ≤ 7; omega, by simp, by simp; omega⟩
    rw [if_neg q3]; exact ⟨by show 2 ≤ 7; omega, by simp, by simp; omega⟩
  · show Rin (escS ⟨3, word, ws, dg, bad⟩ c) _
    unfold escS
    by_cases q1 : bi c = 92 ∨ bi c = 34
    · rw [if_pos q1]; exact ⟨by show 2 ≤ 7; omega, by simp, by simp; omega⟩
    rw [if_neg q1]
    by_cases q2 : bi c = 110
    · rw [if_pos q2]; exact ⟨by show 2 ≤ 7; omega, by simp, by simp; omega⟩
    rw [if_neg q2]
    by_cases q3 : bi c = 116
    · rw [if_pos q3]; exact ⟨by show 2 ≤ 7; omega, by simp, by simp; omega⟩
    rw [if_neg q3]
    by_cases q4 : bi c = 120
    · rw [if_pos q4]; exact ⟨by show 4 ≤ 7; omega, by simp, by simp; omega⟩
    rw [if_neg q4]; exact ⟨by show 2 ≤ 7; omega, by simp, by simp; omega⟩
  · have hx := hexI_le (bi c)
    refine ⟨by show 5 ≤ 7; omega, ?_, by show ws.length + word.length ≤ i + 1; omega⟩
    intro hb _
    have hb : (bad || decide (hexI (bi c) < 0)) = false := hb
    show 0 ≤ hexI (bi c) ∧ hexI (bi c) ≤ 15
    simp at hb
    omega
  · refine ⟨by show 2 ≤ 7; omega, fun _ e => (by have e : (2 : Nat) = 5 := e; omega), ?_⟩
    show ws.length + (if (bad || decide (hexI (bi c) < 0)) = true then word else word ++ [UInt8.ofNat (16 * dg + hexI (bi c)).toNat]).length ≤ _
    have hq : (if (bad || decide (hexI (bi c) < 0)) = true then word else word ++ [UInt8.ofNat (16 * dg + hexI (bi c)).toNat]).length ≤ word.length + 1 := by
      by_cases q : (bad || decide (hexI (bi c) < 0)) = true
      · rw [if_pos q]; omega
      · rw [if_neg q]; simp
    omega
  · exact ⟨by show 0 ≤ 7; omega, fun _ e => (by have e : (0 : Nat) = 5 := e; omega), by show ws.length + word.length ≤ i + 1; omega⟩
  · exact ⟨by show 7 ≤ 7; omega, fun _ e => (by have e : (7 : Nat) = 5 := e; omega), by show ws.length + word.length ≤ i + 1; omega⟩
theorem next_any {n0 g : Nat} {t : St} {i : Nat} (hi : Rin t i) (hb : t.bad = false) (hl : i ≤ 1000000000000) (c : UInt8) (w : World) (hcut : RdA n0 w g t) : Calls Try.prog 20 #[.pointer (some ⟨g, 0, none⟩), .int .u8 (bi c)] w (PostR n0 g (nextS t c) w) := by
  obtain ⟨inn, word, ws, dg, bad⟩ := t
  obtain ⟨h1, h2, h3⟩ := hi
  simp only at h1 h2 h3 hb
  subst hb
  have hw : ws.length ≤ 1000000000000 := by omega
  have hbt : word.length ≤ 1000000000000 := by omega
  have hk : inn = 0 ∨ inn = 1 ∨ inn = 2 ∨ inn = 3 ∨ inn = 4 ∨ inn = 5 ∨ inn = 6 ∨ inn = 7 := by omega
  rcases hk with rfl | rfl | rfl | rfl | rfl | rfl | rfl | rfl
  · skip
    by_cases a32 : bi c = 32
    · exact nx_0s n0 g word ws dg c w hcut hw hbt  a32
    by_cases a9 : bi c = 9
    · exact nx_0t n0 g word ws dg c w hcut hw hbt a32 a9
    by_cases a35 : bi c = 35
    · exact nx_0r n0 g word ws dg c w hcut hw hbt a32 a9 a35
    by_cases a34 : bi c = 34
    · exact nx_0q n0 g word ws dg c w hcut hw hbt a32 a9 a35 a34
    exact nx_0p n0 g word ws dg c w hcut hw hbt a32 a9 a35 a34
  · skip
    by_cases a32 : bi c = 32
    · exact nx_1s n0 g word ws dg c w hcut hw hbt  a32
    by_cases a9 : bi c = 9
    · exact nx_1t n0 g word ws dg c w hcut hw hbt a32 a9
    by_cases a34 : bi c = 34
    · exact nx_1q n0 g word ws dg c w hcut hw hbt a32 a9 a34
    exact nx_1p n0 g word ws dg c w hcut hw hbt a32 a9 a34
  · skip
    by_cases a32 : bi c = 32
    · exact nx_2ps n0 g word ws dg c w hcut hw hbt a32 (by omega) (by omega)
    by_cases a9 : bi c = 9
    · exact nx_2pt n0 g word ws dg c w hcut hw hbt a32 a9 (by omega) (by omega)
    by_cases a34 : bi c = 34
    · exact nx_2q n0 g word ws dg c w hcut hw hbt a32 a9 a34
    by_cases a92 : bi c = 92
    · exact nx_2e n0 g word ws dg c w hcut hw hbt a32 a9 a34 a92
    exact nx_2pn n0 g word ws dg c w hcut hw hbt a32 a9 a34 a92
  · skip
    by_cases a32 : bi c = 32
    · exact nx_3s n0 g word ws dg c w hcut hw hbt  a32
    by_cases a9 : bi c = 9
    · exact nx_3t n0 g word ws dg c w hcut hw hbt a32 a9
    exact nx_3n n0 g word ws dg c w hcut hw hbt a32 a9
  · skip
    by_cases a32 : bi c = 32
    · exact nx_4s n0 g word ws dg c w hcut hw hbt  a32
    by_cases a9 : bi c = 9
    · exact nx_4t n0 g word ws dg c w hcut hw hbt a32 a9
    exact nx_4n n0 g word ws dg c w hcut hw hbt a32 a9
  · skip
    have hd := h2 rfl rfl
    by_cases hlt : hexI (bi c) < 0
    · by_cases a32 : bi c = 32
      · exact nx_5ws n0 g word ws dg c w hcut hw hbt a32 hd hlt
      by_cases a9 : bi c = 9
      · exact nx_5wt n0 g word ws dg c w hcut hw hbt a32 a9 hd hlt
      exact nx_5wn n0 g word ws dg c w hcut hw hbt a32 a9 hd hlt
    · have n32 : bi c ≠ 32 := fun e => by rw [e] at hlt; exact hlt (by decide)
      have n9 : bi c ≠ 9 := fun e => by rw [e] at hlt; exact hlt (by decide)
      exact nx_5 n0 g word ws dg c w hcut hw hbt n32 n9 hd hlt
  · skip
    by_cases a32 : bi c = 32
    · exact nx_6s n0 g word ws dg c w hcut hw hbt  a32
    by_cases a9 : bi c = 9
    · exact nx_6t n0 g word ws dg c w hcut hw hbt a32 a9
    exact nx_6n n0 g word ws dg c w hcut hw hbt a32 a9
  · skip
    by_cases a32 : bi c = 32
    · exact nx_7s n0 g word ws dg c w hcut hw hbt  a32
    by_cases a9 : bi c = 9
    · exact nx_7t n0 g word ws dg c w hcut hw hbt a32 a9
    exact nx_7n n0 g word ws dg c w hcut hw hbt a32 a9

end Go.Proofs.Ytgnfeegnhdbnkaa
