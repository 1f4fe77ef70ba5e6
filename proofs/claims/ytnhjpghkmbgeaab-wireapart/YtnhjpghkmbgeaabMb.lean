import Derived.Test.YtnhjpghkmbgeaabCh
namespace Go.Proofs.Ytnhjpghkmbgeaab
open Go.RowKit
set_option linter.unusedVariables false

theorem byt_at {zs : List Int} (h8 : U8 zs) (i : Nat) : zs[i]?.getD 0 = (byt zs i : Int) := by have := h8 i; unfold byt; omega
theorem byt_app (pre : List Int) (x : Int) (r : List Int) : byt (pre ++ (x :: r)) pre.length = x.toNat := by unfold byt; simp

/-- What was put as a varint is read as one. -/
theorem vrGo_vint (v : Nat) : ∀ (pre rest : List Int) (f : Nat), pre.length + f = 10 → acc (pre ++ (vint v ++ rest)) pre.length + v * 128 ^ pre.length < 18446744073709551616 → (0 < pre.length → 0 < v) → pre.length ≤ 9 →
    vrGo (pre ++ (vint v ++ rest)) pre.length f = .ok (acc (pre ++ (vint v ++ rest)) pre.length + v * 128 ^ pre.length, pre.length + (vint v).length) := by
  induction v using Nat.strongRecOn with
  | _ v ih =>
    intro pre rest f hf hb hpos hp9
    obtain ⟨f', rfl⟩ : ∃ f', f = f' + 1 := ⟨f - 1, by omega⟩
    by_cases hv : v < 128
    · rw [vint_lo hv] at hb ⊢
      have hB : byt (pre ++ ([(v : Int)] ++ rest)) pre.length = v := by have := byt_app pre (v : Int) rest; simpa using this
      rw [vrGo, if_neg (by simp), hB, if_pos hv, if_neg ?_]
      · rw [acc, hB, Nat.mod_eq_of_lt hv]; rfl
      · rintro (⟨h1, h2⟩ | ⟨h1, h2⟩)
        · have := hpos h1; omega
        · rw [h1] at hb
          have : 2 * 128 ^ 9 ≤ v * 128 ^ 9 := Nat.mul_le_mul_right _ h2
          omega
    · rw [vint_hi hv] at hb ⊢
      have hB : byt (pre ++ (((v % 128 + 128 : Nat) : Int) :: vint (v / 128) ++ rest)) pre.length = v % 128 + 128 := by
        have := byt_app pre ((v % 128 + 128 : Nat) : Int) (vint (v / 128) ++ rest)
        rw [List.cons_append, this]; exact Int.toNat_natCast _
      have e : pre ++ (((v % 128 + 128 : Nat) : Int) :: vint (v / 128) ++ rest) = (pre ++ [((v % 128 + 128 : Nat) : Int)]) ++ (vint (v / 128) ++ rest) := by simp
      have hl : (pre ++ [((v % 128 + 128 : Nat) : Int)]).length = pre.length + 1 := by simp
      have hacc : acc (pre ++ (((v % 128 + 128 : Nat) : Int) :: vint (v / 128) ++ rest)) (pre.length + 1) = acc (pre ++ (((v % 128 + 128 : Nat) : Int) :: vint (v / 128) ++ rest)) pre.length + v % 128 * 128 ^ pre.length := by
        rw [acc, hB, Nat.add_mod_right, Nat.mod_mod]
      have hsplit : v % 128 * 128 ^ pre.length + v / 128 * 128 ^ (pre.length + 1) = v * 128 ^ pre.length := by
        have : v / 128 * 128 ^ (pre.length + 1) = (v / 128 * 128) * 128 ^ pre.length := by rw [Nat.pow_succ, Nat.mul_assoc, Nat.mul_comm 128]
        rw [this, ← Nat.add_mul]; congr 1; omega
      have h9 : pre.length + 1 ≤ 9 := by
        by_cases h : pre.length = 9
        · rw [h] at hb
          have : 128 * 128 ^ 9 ≤ v * 128 ^ 9 := Nat.mul_le_mul_right _ (by omega)
          omega
        · omega
      rw [vrGo, if_neg (by simp), hB, if_neg (by omega)]
      have := ih (v / 128) (by omega) (pre ++ [((v % 128 + 128 : Nat) : Int)]) rest f' (by rw [hl]; omega) (by rw [hl, ← e, hacc]; omega) (fun _ => by omega) (by rw [hl]; exact h9)
      rw [hl, ← e, hacc] at this
      rw [this]
      congr 2
      · omega
      · simp; omega

theorem vr_vint (u : Nat) (rest : List Int) (h : W64 u) : vr (vint u ++ rest) = .ok (u, (vint u).length) := by
  have := vrGo_vint u [] rest 10 rfl (by simp [acc]; exact h) (by simp) (by simp)
  simpa [acc, vr] using this

theorem nr_vint (u : Nat) (rest : List Int) (h : u ≤ 9223372036854775807) : nr (vint u ++ rest) = .ok (u, (vint u).length) := by
  unfold nr
  rw [vr_vint u rest (by unfold W64; omega)]
  simp only
  rw [if_neg (by omega)]

theorem cr_vint (ys rest : List Int) (h : ys.length ≤ 140737488355328) : cr (vint ys.length ++ ys ++ rest) = .ok (ys.length, (vint ys.length).length) := by
  unfold cr
  rw [List.append_assoc, nr_vint _ _ (by omega)]
  simp only
  rw [if_neg (by simp)]

theorem unzz_zz (n : Int) : unzz (zz n) = n := by
  unfold unzz zz
  split <;> split <;> omega

/-- What is read as a varint is the one that would be put. -/
theorem vrGo_form {zs : List Int} (h8 : U8 zs) {u k : Nat} : ∀ f i, i + f = 10 → vrGo zs i f = .ok (u, k) → ∃ v, u = acc zs i + v * 128 ^ i ∧ i < k ∧ (zs.drop i).take (k - i) = vint v ∧ (0 < i → 0 < v) := by
  intro f
  induction f with
  | zero => intro i _ h; simp [vrGo] at h
  | succ f ih =>
    intro i hi h
    rw [vrGo] at h
    split at h
    · cases h
    · rename_i hlen
      have hcons : zs.drop i = (byt zs i : Int) :: zs.drop (i + 1) := by
        rw [List.drop_eq_getElem_cons (by omega)]
        congr 1
        have := byt_at h8 i
        rw [List.getElem?_eq_getElem (by omega)] at this
        exact this
      split at h
      · rename_i hb
        split at h
        · cases h
        · rename_i hg
          simp only [Except.ok.injEq, Prod.mk.injEq] at h
          obtain ⟨rfl, rfl⟩ := h
          refine ⟨byt zs i, by rw [acc, Nat.mod_eq_of_lt hb], by omega, ?_, fun h0 => by omega⟩
          rw [hcons, show i + 1 - i = 1 from by omega, vint_lo hb]; rfl
      · rename_i hb
        obtain ⟨v, h1, h2, h3, h4⟩ := ih (i + 1) (by omega) h
        have hv := h4 (by omega)
        have hb255 : byt zs i ≤ 255 := by have := h8 i; unfold byt; omega
        refine ⟨byt zs i % 128 + 128 * v, ?_, by omega, ?_, fun _ => by omega⟩
        · rw [h1, acc, Nat.pow_succ, Nat.add_mul, Nat.add_assoc]
          congr 2
          rw [Nat.mul_comm (128 ^ i) 128, ← Nat.mul_assoc, Nat.mul_comm v 128]
        · rw [hcons, show k - i = (k - (i + 1)) + 1 from by omega, List.take_succ_cons, h3, vint_hi (u := byt zs i % 128 + 128 * v) (by omega)]
          have e1 : (byt zs i % 128 + 128 * v) / 128 = v := by omega
          have e2 : (byt zs i % 128 + 128 * v) % 128 + 128 = byt zs i := by omega
          rw [e1, e2]

theorem vr_form {zs : List Int} (h8 : U8 zs) {u k : Nat} (h : vr zs = .ok (u, k)) : zs.take k = vint u := by
  obtain ⟨v, h1, h2, h3, _⟩ := vrGo_form h8 10 0 rfl h
  have : u = v := by simpa [acc] using h1
  rw [this]
  simpa using h3

theorem zz_unzz (u : Nat) : zz (unzz u) = u := by
  unfold unzz zz
  split <;> split <;> omega

end Go.Proofs.Ytnhjpghkmbgeaab
