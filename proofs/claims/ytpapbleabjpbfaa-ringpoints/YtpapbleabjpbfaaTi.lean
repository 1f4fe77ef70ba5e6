import Derived.Test.YtpapbleabjpbfaaPt
import Derived.Test.YtpapbleabjpbfaaPo
namespace Go.Proofs.Ytpapbleabjpbfaa
open Go.RowKit
set_option linter.unusedVariables false

/-- Two lists in one order, of the same things, are one. -/
theorem order_unique {α : Type} (R : α → α → Prop) (ha : ∀ x y, R x y → R y x → x = y) : ∀ (l m : List α), l.Perm m → l.Pairwise R → m.Pairwise R → l = m
  | [], m, hp, _, _ => by rw [List.nil_perm.1 hp]
  | x :: l, [], hp, _, _ => by simp at hp
  | x :: l, y :: m, hp, hl, hm => by
    have hx : x ∈ y :: m := hp.subset (List.mem_cons_self)
    have hy : y ∈ x :: l := hp.symm.subset (List.mem_cons_self)
    have e : x = y := by
      rcases List.mem_cons.1 hx with e | e
      · exact e
      · rcases List.mem_cons.1 hy with e2 | e2
        · exact e2.symm
        · exact ha x y ((List.pairwise_cons.1 hl).1 y e2) ((List.pairwise_cons.1 hm).1 x e)
    subst e
    rw [order_unique R ha l m (List.perm_cons x |>.1 hp) (List.pairwise_cons.1 hl).2 (List.pairwise_cons.1 hm).2]

abbrev T3 := Int × Int × Int
/-- Ahead, as one sentence. -/
theorem aheadB_iff (x y : T3) : aheadB x y = true ↔ (x.1 < y.1 ∨ (x.1 = y.1 ∧ (x.2.1 < y.2.1 ∨ (x.2.1 = y.2.1 ∧ x.2.2 < y.2.2)))) := by
  unfold aheadB
  split
  · split
    · simp; omega
    · simp; omega
  · simp; omega
theorem aheadB_no (x y : T3) : aheadB x y = false ↔ ¬ (x.1 < y.1 ∨ (x.1 = y.1 ∧ (x.2.1 < y.2.1 ∨ (x.2.1 = y.2.1 ∧ x.2.2 < y.2.2)))) := by
  rw [← aheadB_iff]; simp

/-- In the ring's order. -/
def Ord3 (l : List T3) : Prop := l.Pairwise (fun x y => aheadB y x = false)

/-- One point put into its place. -/
def InsP (p : T3) (ps qs : List T3) : Prop :=
  ∃ i, i ≤ ps.length ∧ qs = ps.take i ++ p :: ps.drop i ∧ (∀ j, i ≤ j → j < ps.length → aheadB p (ps[j]?.getD (0, 0, 0)) = true) ∧ (0 < i → aheadB p (ps[i - 1]?.getD (0, 0, 0)) = false)

theorem InsP.len {p : T3} {ps qs : List T3} (h : InsP p ps qs) : qs.length = ps.length + 1 := by
  obtain ⟨i, hi, rfl, _⟩ := h
  simp; omega
theorem InsP.perm {p : T3} {ps qs : List T3} (h : InsP p ps qs) : qs.Perm (ps ++ [p]) := by
  obtain ⟨i, hi, rfl, _⟩ := h
  have h1 : (ps.take i ++ p :: ps.drop i).Perm (p :: (ps.take i ++ ps.drop i)) := List.perm_middle
  rw [List.take_append_drop] at h1
  exact h1.trans (List.perm_append_comm (l₁ := [p]) (l₂ := ps))
theorem InsP.ord {p : T3} {ps qs : List T3} (h : InsP p ps qs) (ho : Ord3 ps) : Ord3 qs := by
  obtain ⟨i, hi, rfl, hd, ht⟩ := h
  unfold Ord3 at ho ⊢
  have ho' := ho
  rw [← List.take_append_drop i ps, List.pairwise_append] at ho'
  obtain ⟨h1, h2, h3⟩ := ho'
  have hdm : ∀ x ∈ ps.drop i, aheadB p x = true := by
    intro x hx
    obtain ⟨k, hk, rfl⟩ := List.mem_iff_getElem.1 hx
    have hk' : i + k < ps.length := by simp at hk; omega
    have := hd (i + k) (by omega) hk'
    rw [List.getElem?_eq_getElem hk', Option.getD_some] at this
    simpa using this
  have htm : ∀ x ∈ ps.take i, aheadB p x = false := by
    intro x hx
    obtain ⟨k, hk, rfl⟩ := List.mem_iff_getElem.1 hx
    have hk' : k < i := by simp at hk; omega
    have hl := ht (by omega)
    rw [List.getElem?_eq_getElem (by omega), Option.getD_some] at hl
    rw [List.getElem_take]
    by_cases e : k = i - 1
    · subst e; exact hl
    · have hp := List.pairwise_iff_getElem.1 ho k (i - 1) (by omega) (by omega) (by omega)
      rw [aheadB_no] at hp hl ⊢
      omega
  rw [List.pairwise_append]
  refine ⟨h1, List.pairwise_cons.2 ⟨?_, h2⟩, ?_⟩
  · intro x hx
    have := hdm x hx
    rw [aheadB_iff] at this
    rw [aheadB_no]
    omega
  · intro x hx y hy
    rcases List.mem_cons.1 hy with rfl | hy
    · exact htm x hx
    · exact h3 x hx y hy

/-- All points of servers, as the document makes them. -/
def tripAt (s : Int) (n : Nat) : T3 := (fnv (eightsOf [s, n]), s, n)
def tripN (s : Int) (k : Nat) : List T3 := (List.range k).map (tripAt s)
def trips (zs : List Int) (p : Nat) : List T3 := (zs.map (tripN · p)).flatten
def pr (x : T3) : Int × Int := (x.1, x.2.1)
theorem tripN_succ (s : Int) (k : Nat) : tripN s (k + 1) = tripN s k ++ [tripAt s k] := by simp [tripN, List.range_succ]
theorem trips_snoc (zs : List Int) (p k : Nat) (h : k < zs.length) : trips (zs.take (k + 1)) p = trips (zs.take k) p ++ tripN (zs[k]?.getD 0) p := by
  unfold trips
  rw [List.take_succ_eq_append_getElem h, List.map_append, List.flatten_append]
  simp [List.getElem?_eq_getElem h]
theorem trips_pr (zs : List Int) (p : Nat) : (trips zs p).map pr = ptsOf zs p := by
  unfold trips ptsOf
  induction zs with
  | nil => rfl
  | cons z r ih =>
    simp only [List.map_cons, List.flatten_cons, List.map_append, ih]
    congr 1
    simp [tripN, ptN, tripAt, ptAt, pr, List.map_map]
theorem trips_len (zs : List Int) (p : Nat) : (trips zs p).length = zs.length * p := by
  have := congrArg List.length (trips_pr zs p)
  rw [List.length_map, ptsOf_len] at this
  exact this

/-- The document's points, once all are in place, are the program's. -/
theorem trips_sort (L : List T3) (zs : List Int) (p : Nat) (hp : L.Perm (trips zs p)) (ho : Ord3 L) : L.map pr = sortP (ptsOf zs p) := by
  apply order_unique (fun x y => ltP y x = false)
  · intro x y h1 h2
    exact totP x y h2 h1
  · rw [← trips_pr]
    exact (hp.map pr).trans (List.mergeSort_perm _ _).symm
  · refine List.Pairwise.map pr ?_ ho
    intro x y h
    rw [aheadB_no] at h
    rw [ltP_eq, decide_eq_false_iff_not]
    simp only [pr]
    omega
  · have := List.pairwise_mergeSort (le := fun x y : Int × Int => !ltP y x) (by intro a b c; simp only [ltP_eq]; simp; omega) (by intro a b; simp only [ltP_eq]; simp; omega) (ptsOf zs p)
    exact this.imp (by simp)

end Go.Proofs.Ytpapbleabjpbfaa
