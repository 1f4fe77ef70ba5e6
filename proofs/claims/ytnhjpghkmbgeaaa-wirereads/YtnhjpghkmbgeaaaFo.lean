import Derived.Test.YtnhjpghkmbgeaaaRj
namespace Go.Proofs.Ytnhjpghkmbgeaaa
open Go.RowKit
set_option linter.unusedVariables false

/-- What was read and put again, beside what is left. -/
def FI (b : List Int) (st : RS) (out : List Int) (i : Nat) : Prop :=
  match st with
  | .ok rest _ => out ++ rest = b ∧ U8 rest
  | .bad _ _ => out.length ≤ b.length + i

theorem vint_zero : vint 0 = [0] := vint_lo (by omega)

theorem putOf_zero (k : Int) (a : Option Addr) (m c : Nat) : (putOf ⟨k, 0, a, m, c, []⟩).length = 1 := by
  unfold putOf
  split
  · simp [vint_zero]
  · split
    · simp [zz, vint_zero]
    · simp [vint_zero]

theorem FI.len {b : List Int} {st : RS} {out : List Int} {i : Nat} (h : FI b st out i) : out.length ≤ b.length + i := by
  cases st with
  | ok rest at_ => have := congrArg List.length h.1; rw [List.length_append] at this; omega
  | bad p c => exact h

/-- One read, and what it answers put again. -/
theorem FI.step {b : List Int} {st : RS} {out : List Int} {i : Nat} (h : FI b st out i) (hb : b.length ≤ 140737488351232) (k : Int) (hk : 1 ≤ k ∧ k ≤ 4) (a : Option Addr) (m c : Nat) :
    (k = 1 → 0 ≤ (readS st k).2.1) ∧ (-9223372036854775808 ≤ (readS st k).2.1 ∧ (readS st k).2.1 ≤ 9223372036854775807) ∧ out.length + (readS st k).2.2.length ≤ b.length + i ∧
    FI b (readS st k).1 (out ++ putOf ⟨k, (readS st k).2.1, a, m, c, (readS st k).2.2⟩) (i + 1) := by
  have hlen := h.len
  have zero : ∀ (st' : RS), (∀ o, o.length ≤ b.length + (i + 1) → FI b st' o (i + 1)) → readS st k = (st', 0, []) →
      (k = 1 → 0 ≤ (readS st k).2.1) ∧ (-9223372036854775808 ≤ (readS st k).2.1 ∧ (readS st k).2.1 ≤ 9223372036854775807) ∧ out.length + (readS st k).2.2.length ≤ b.length + i ∧
      FI b (readS st k).1 (out ++ putOf ⟨k, (readS st k).2.1, a, m, c, (readS st k).2.2⟩) (i + 1) := by
    intro st' hst e
    rw [e]
    refine ⟨fun _ => by simp, by simp, by simpa using hlen, hst _ ?_⟩
    rw [List.length_append, putOf_zero]; omega
  cases st with
  | bad p cc =>
    refine zero (.bad p cc) (fun o ho => ho) ?_
    unfold readS
    split
    · rfl
    · split <;> rfl
  | ok zs at_ =>
    have h8 := h.2
    have hz : out.length + zs.length = b.length := by have := congrArg List.length h.1; rwa [List.length_append] at this
    by_cases k1 : k = 1
    · cases hv : nr zs with
      | error cc =>
        refine zero (.bad at_ cc) (fun o ho => ho) ?_
        unfold readS; rw [if_pos k1]; simp only [numS, hv]
      | ok x =>
        obtain ⟨u, j⟩ := x
        have hn := nr_bd hv
        have e : readS (.ok zs at_) k = (.ok (zs.drop j) (at_ + j), (u : Int), []) := by unfold readS; rw [if_pos k1]; simp only [numS, hv]
        rw [e]
        refine ⟨fun _ => by simp only; omega, by simp only; omega, by simp; omega, ?_, h8.drop j⟩
        have ep : putOf ⟨k, (u : Int), a, m, c, []⟩ = zs.take j := by
          unfold putOf; rw [if_pos k1, vr_form h8 hn.2.2.2.2]; simp
        show (out ++ putOf ⟨k, (u : Int), a, m, c, []⟩) ++ zs.drop j = b
        rw [ep, List.append_assoc, List.take_append_drop]; exact h.1
    · by_cases k2 : k = 2
      · cases hv : vr zs with
        | error cc =>
          refine zero (.bad at_ cc) (fun o ho => ho) ?_
          unfold readS; rw [if_neg k1, if_pos k2]; simp only [intS, hv]
        | ok x =>
          obtain ⟨u, j⟩ := x
          have hn := vr_64 hv
          have hu := hn.1
          unfold W64 at hu
          have e : readS (.ok zs at_) k = (.ok (zs.drop j) (at_ + j), unzz u, []) := by unfold readS; rw [if_neg k1, if_pos k2]; simp only [intS, hv]
          rw [e]
          refine ⟨fun e => absurd e k1, ?_, by simp; omega, ?_, h8.drop j⟩
          · simp only [unzz]; split <;> omega
          · have ep : putOf ⟨k, unzz u, a, m, c, []⟩ = zs.take j := by
              unfold putOf; rw [if_neg k1, if_pos k2, vr_form h8 hv, zz_unzz]
            show (out ++ putOf ⟨k, unzz u, a, m, c, []⟩) ++ zs.drop j = b
            rw [ep, List.append_assoc, List.take_append_drop]; exact h.1
      · cases hv : cr zs with
        | error cc =>
          refine zero (.bad at_ cc) (fun o ho => ho) ?_
          unfold readS; rw [if_neg k1, if_neg k2]; simp only [bytesS, hv]
        | ok x =>
          obtain ⟨n, j⟩ := x
          have hc := cr_bd hv
          have hn := nr_bd hc.2.2.2
          have e : readS (.ok zs at_) k = (.ok (zs.drop (j + n)) (at_ + (j + n)), 0, (zs.drop j).take n) := by unfold readS; rw [if_neg k1, if_neg k2]; simp only [bytesS, hv]
          have hL : ((zs.drop j).take n).length = n := by rw [List.length_take, List.length_drop]; omega
          rw [e]
          refine ⟨fun e => absurd e k1, by simp, by simp only [hL]; omega, ?_, h8.drop (j + n)⟩
          have ep : putOf ⟨k, 0, a, m, c, (zs.drop j).take n⟩ = zs.take (j + n) := by
            unfold putOf; rw [if_neg k1, if_neg k2]
            simp only [hL]
            rw [← vr_form h8 hn.2.2.2.2, List.take_add]
          show (out ++ putOf ⟨k, 0, a, m, c, (zs.drop j).take n⟩) ++ zs.drop (j + n) = b
          rw [ep, List.append_assoc, List.take_append_drop]; exact h.1

/-- Numbers behind a slice's address. -/
def Ints (w : World) (a : Option Addr) (ns : List Int) : Prop :=
  ∀ i, i < ns.length → ∃ b off, a = some ⟨b, off, none⟩ ∧ w.cell? ⟨b, off + i, none⟩ = some (.int .i64 (ns[i]?.getD 0))
theorem Ints.no {w w' : World} {a : Option Addr} {ns : List Int} (h : Ints w a ns) (hk : Kept No w w') : Ints w' a ns := by
  intro i hi
  obtain ⟨b, off, rfl, hc⟩ := h i hi
  exact ⟨b, off, rfl, hk.cell hc (fun e => e)⟩

end Go.Proofs.Ytnhjpghkmbgeaaa
