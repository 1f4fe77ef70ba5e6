import Derived.Test.YtpapbleabjpbfaaRi
namespace Go.Proofs.Ytpapbleabjpbfaa
open Go.RowKit
set_option linter.unusedVariables false
set_option linter.unusedSimpArgs false

/-- A point of the document's ring. -/
def ptV (h s n : Int) : Value := .agg #[.int .i64 h, .int .i64 s, .int .i64 n]
/-- Which stands ahead. -/
def aheadB (x y : Int × Int × Int) : Bool := if x.1 = y.1 then (if x.2.1 = y.2.1 then decide (x.2.2 < y.2.2) else decide (x.2.1 < y.2.1)) else decide (x.1 < y.1)

set_option maxRecDepth 100000 in
set_option maxHeartbeats 1000000 in
theorem ahead_any (h1 s1 n1 h2 s2 n2 : Int) (w : World) : Calls Try.prog 62 #[ptV h1 s1 n1, ptV h2 s2 n2] w fun e w' => e = .returned (.bool (aheadB (h1, s1, n1) (h2, s2, n2))) ∧ Kept No w w' := by
  have HK : Hid (∀ o p : Obj, Kept No w ((w.alloc o).alloc p)) := fun o p => ((Kept.refl No w).alloc o).alloc p
  unfold ptV
  by_cases e1 : h1 = h2
  · by_cases e2 : s1 = s2
    · have HL : Hid (aheadB (h1, s1, n1) (h2, s2, n2) = decide (n1 < n2)) := by show _ = _; simp [aheadB, e1, e2]
      go_enter Try.func62, Try.ntmps62
      go_wp2
      go_ret
      rw [HL.out]
      exact ⟨rfl, HK.out _ _⟩
    · have HL : Hid (aheadB (h1, s1, n1) (h2, s2, n2) = decide (s1 < s2)) := by show _ = _; simp [aheadB, e1, e2]
      go_enter Try.func62, Try.ntmps62
      go_wp2
      go_ret
      rw [HL.out]
      exact ⟨rfl, HK.out _ _⟩
  · have HL : Hid (aheadB (h1, s1, n1) (h2, s2, n2) = decide (h1 < h2)) := by show _ = _; simp [aheadB, e1]
    go_enter Try.func62, Try.ntmps62
    go_wp2
    go_ret
    rw [HL.out]
    exact ⟨rfl, HK.out _ _⟩

/-- Two rising lists of the same numbers are one. -/
theorem rising_unique : ∀ (l m : List Int), l.Perm m → l.Pairwise (· ≤ ·) → m.Pairwise (· ≤ ·) → l = m
  | [], m, hp, _, _ => by rw [List.nil_perm.1 hp]
  | x :: l, [], hp, _, _ => by simp at hp
  | x :: l, y :: m, hp, hl, hm => by
    have hx : x ∈ y :: m := hp.subset (List.mem_cons_self)
    have hy : y ∈ x :: l := hp.symm.subset (List.mem_cons_self)
    have e : x = y := by
      have h1 : y ≤ x := by
        rcases List.mem_cons.1 hx with e | e
        · omega
        · exact (List.pairwise_cons.1 hm).1 x e
      have h2 : x ≤ y := by
        rcases List.mem_cons.1 hy with e | e
        · omega
        · exact (List.pairwise_cons.1 hl).1 y e
      omega
    subst e
    rw [rising_unique l m (List.perm_cons x |>.1 hp) (List.pairwise_cons.1 hl).2 (List.pairwise_cons.1 hm).2]

theorem risN_bd (zs : List Int) (k : Nat) (z : Int) (h : z ∈ risN zs k) : z ≤ (k : Int) := by
  induction k with
  | zero => simp [risN] at h
  | succ k ih =>
    rcases List.mem_append.1 h with h | h
    · have := ih h; omega
    · have := (List.mem_filter.1 h).2
      simp only [decide_eq_true_eq] at this
      omega
theorem risN_rising (zs : List Int) (k : Nat) : (risN zs k).Pairwise (· ≤ ·) := by
  induction k with
  | zero => simp [risN]
  | succ k ih =>
    rw [risN, List.pairwise_append]
    refine ⟨ih, ?_, ?_⟩
    · apply List.Pairwise.imp_of_mem (R := fun _ _ => True)
      · intro a b ha hb _
        have h1 := (List.mem_filter.1 ha).2
        have h2 := (List.mem_filter.1 hb).2
        simp only [decide_eq_true_eq] at h1 h2
        omega
      · exact List.pairwise_of_forall (fun _ _ => trivial)
    · intro a ha b hb
      have h1 := risN_bd zs k a ha
      have h2 := (List.mem_filter.1 hb).2
      simp only [decide_eq_true_eq] at h2
      omega
theorem risN_perm (zs : List Int) (k : Nat) : (risN zs k).Perm (zs.filter (fun z => decide (1 ≤ z ∧ z ≤ (k : Int)))) := by
  induction k with
  | zero =>
    have : zs.filter (fun z => decide (1 ≤ z ∧ z ≤ ((0 : Nat) : Int))) = [] := by
      rw [List.filter_eq_nil_iff]
      intro a _
      simp only [decide_eq_true_eq]
      omega
    rw [this]; exact List.Perm.refl _
  | succ k ih =>
    rw [risN]
    refine (List.Perm.append_right _ ih).trans ?_
    have h1 : zs.filter (fun z => decide (1 ≤ z ∧ z ≤ (k : Int))) = (zs.filter (fun z => decide (1 ≤ z ∧ z ≤ ((k + 1 : Nat) : Int)))).filter (fun z => decide (z ≤ (k : Int))) := by
      rw [List.filter_filter]
      apply List.filter_congr
      intro z _
      rw [Bool.eq_iff_iff]
      simp only [Bool.and_eq_true, decide_eq_true_eq, Bool.not_eq_true', decide_eq_false_iff_not]
      omega
    have h2 : zs.filter (fun z => decide (z = ((k + 1 : Nat) : Int))) = (zs.filter (fun z => decide (1 ≤ z ∧ z ≤ ((k + 1 : Nat) : Int)))).filter (fun z => !decide (z ≤ (k : Int))) := by
      rw [List.filter_filter]
      apply List.filter_congr
      intro z _
      rw [Bool.eq_iff_iff]
      simp only [Bool.and_eq_true, decide_eq_true_eq, Bool.not_eq_true', decide_eq_false_iff_not]
      omega
    rw [h1, h2]
    exact List.filter_append_perm _ _
theorem risN_sortI (zs : List Int) (h : ∀ z ∈ zs, 1 ≤ z ∧ z ≤ 255) : risN zs 255 = sortI zs := by
  apply rising_unique
  · refine (risN_perm zs 255).trans ?_
    rw [List.filter_eq_self.2 (by intro a ha; simpa using h a ha)]
    exact (List.mergeSort_perm zs _).symm
  · exact risN_rising zs 255
  · have := List.pairwise_mergeSort (le := fun x y : Int => decide (x ≤ y)) (by intro a b c; simp; omega) (by intro a b; simp; omega) zs
    exact this.imp (by simp)

end Go.Proofs.Ytpapbleabjpbfaa
