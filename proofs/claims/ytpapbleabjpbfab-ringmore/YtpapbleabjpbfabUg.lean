import Derived.Test.YtpapbleabjpbfabMd
namespace Go.Proofs.Ytpapbleabjpbfab
open Go.RowKit
set_option linter.unusedVariables false

theorem uniqN_mem (ps : List (Int × Int)) (fi k : Nat) (x : Int) : x ∈ uniqN ps fi k ↔ ∃ j, j < k ∧ srvAt ps fi j = x := by
  induction k with
  | zero => simp [uniqN]
  | succ k ih =>
    rw [uniqN]
    constructor
    · intro h
      split at h
      · obtain ⟨j, hj, e⟩ := ih.1 h
        exact ⟨j, by omega, e⟩
      · rcases List.mem_append.1 h with h | h
        · obtain ⟨j, hj, e⟩ := ih.1 h
          exact ⟨j, by omega, e⟩
        · simp at h
          exact ⟨k, by omega, h.symm⟩
    · rintro ⟨j, hj, rfl⟩
      by_cases e : j = k
      · subst e
        split
        · assumption
        · simp
      · have := ih.2 ⟨j, by omega, rfl⟩
        split
        · exact this
        · exact List.mem_append.2 (.inl this)
theorem uniqN_nodup (ps : List (Int × Int)) (fi k : Nat) : (uniqN ps fi k).Pairwise (· ≠ ·) := by
  induction k with
  | zero => simp [uniqN]
  | succ k ih =>
    rw [uniqN]
    split
    · exact ih
    · rename_i h
      rw [List.pairwise_append]
      refine ⟨ih, by simp, ?_⟩
      intro a ha b hb e
      simp at hb
      subst hb
      subst e
      exact h ha
theorem nodup_le : ∀ (l m : List Int), l.Pairwise (· ≠ ·) → (∀ x ∈ l, x ∈ m) → l.length ≤ m.length
  | [], m, _, _ => Nat.zero_le _
  | x :: l, m, hl, hs => by
    obtain ⟨h1, h2⟩ := List.pairwise_cons.1 hl
    have hx : x ∈ m := hs x (List.mem_cons_self)
    have := nodup_le l (m.erase x) h2 (fun y hy => by
      have hy' := hs y (List.mem_cons_of_mem _ hy)
      exact (List.mem_erase_of_ne (fun e => h1 y hy e.symm)).2 hy')
    rw [List.length_erase_of_mem hx] at this
    have := List.length_pos_of_mem hx
    simp only [List.length_cons]
    omega
/-- Every point comes up. -/
theorem srv_all (ps : List (Int × Int)) (fi i : Nat) (hi : i < ps.length) : ∃ k, k < ps.length ∧ srvAt ps fi k = (ps[i]?.getD (0, 0)).2 := by
  have hm : 0 < ps.length := by omega
  refine ⟨(i + (ps.length - fi % ps.length)) % ps.length, Nat.mod_lt _ hm, ?_⟩
  unfold srvAt
  have h1 := Nat.mod_lt fi hm
  have h2 := Nat.mod_add_div fi ps.length
  have e : (fi + (i + (ps.length - fi % ps.length)) % ps.length) % ps.length = i := by
    rw [Nat.add_mod_mod]
    have : fi + (i + (ps.length - fi % ps.length)) = i + ps.length * (fi / ps.length + 1) := by
      rw [Nat.mul_add, Nat.mul_one]; omega
    rw [this, Nat.add_mul_mod_self_left, Nat.mod_eq_of_lt hi]
  rw [e]

/-- Which servers stand on the ring. -/
structure Srvs (ps : List (Int × Int)) (zs : List Int) : Prop where
  mem : ∀ i, i < ps.length → (ps[i]?.getD (0, 0)).2 ∈ zs
  all : ∀ z ∈ zs, ∃ i, i < ps.length ∧ (ps[i]?.getD (0, 0)).2 = z
  nd : zs.Pairwise (· ≠ ·)

theorem grp_len {ps : List (Int × Int)} {zs : List Int} (h : Srvs ps zs) (hh : Int) (wn : Nat) (hw : wn ≤ zs.length) : (grp ps hh wn).length = wn := by
  unfold grp
  rw [grpN_take, List.length_take]
  have := nodup_le zs (uniqN ps (firstN ps hh) ps.length) h.nd (fun z hz => by
    obtain ⟨i, hi, rfl⟩ := h.all z hz
    exact (uniqN_mem _ _ _ _).2 (srv_all ps _ i hi))
  omega
theorem grp_mem {ps : List (Int × Int)} {zs : List Int} (h : Srvs ps zs) (hm : 0 < ps.length) (hh : Int) (wn : Nat) (x : Int) (hx : x ∈ grp ps hh wn) : x ∈ zs := by
  unfold grp at hx
  rw [grpN_take] at hx
  obtain ⟨j, hj, rfl⟩ := (uniqN_mem _ _ _ _).1 (List.mem_of_mem_take hx)
  exact h.mem _ (Nat.mod_lt _ hm)
theorem grp_nodup (ps : List (Int × Int)) (hh : Int) (wn : Nat) : (grp ps hh wn).Pairwise (· ≠ ·) := by
  unfold grp
  rw [grpN_take]
  exact (uniqN_nodup ps _ _).sublist (List.take_sublist _ _)
theorem grp_not {ps : List (Int × Int)} (hh : Int) (wn a : Nat) (ha : a < (grp ps hh wn).length) : ¬ (grp ps hh wn)[a]?.getD 0 ∈ (grp ps hh wn).take a := by
  intro h
  obtain ⟨i, hi, e⟩ := List.mem_iff_getElem.1 h
  rw [List.length_take] at hi
  rw [List.getElem_take, List.getElem?_eq_getElem ha, Option.getD_some] at e
  exact List.pairwise_iff_getElem.1 (grp_nodup ps hh wn) i a (by omega) ha (by omega) e
theorem uniqN_head (ps : List (Int × Int)) (fi k : Nat) : (uniqN ps fi (k + 1))[0]? = some (srvAt ps fi 0) := by
  induction k with
  | zero => simp [uniqN]
  | succ k ih =>
    rw [uniqN]
    split
    · exact ih
    · rw [List.getElem?_append_left (by rcases h : uniqN ps fi (k + 1) with _ | ⟨x, l⟩ <;> simp_all)]
      exact ih
theorem grp_head {ps : List (Int × Int)} (hh : Int) (wn : Nat) (hm : 0 < ps.length) (hw : 0 < wn) : (grp ps hh wn)[0]?.getD 0 = srvAt ps (firstN ps hh) 0 := by
  unfold grp
  obtain ⟨k, hk⟩ : ∃ k, ps.length = k + 1 := ⟨ps.length - 1, by omega⟩
  rw [grpN_take, hk, List.getElem?_take, if_pos hw, uniqN_head]
  rfl

/-- The points of right servers. -/
theorem pts_srvs {zs : List Int} {f : Int} {p : Nat} {bu bl ro : Int} (hc : cfgB zs f p bu bl ro = true) : Srvs (sortP (ptsOf (sortI zs) p)) zs := by
  obtain ⟨_, hg, ⟨hp1, _⟩, _⟩ := cfgB_true hc
  have hP := List.mergeSort_perm (ptsOf (sortI zs) p) (fun x y => !ltP y x)
  have hQ := List.mergeSort_perm zs (fun x y : Int => decide (x ≤ y))
  have hin : ∀ x, x ∈ ptsOf (sortI zs) p ↔ ∃ z ∈ zs, ∃ n, n < p ∧ ptAt z n = x := by
    intro x
    unfold ptsOf ptN
    simp only [List.mem_flatten, List.mem_map]
    constructor
    · rintro ⟨l, ⟨z, hz, rfl⟩, hx⟩
      obtain ⟨n, hn, rfl⟩ := List.mem_map.1 hx
      exact ⟨z, hQ.subset hz, n, List.mem_range.1 hn, rfl⟩
    · rintro ⟨z, hz, n, hn, rfl⟩
      exact ⟨_, ⟨z, hQ.symm.subset hz, rfl⟩, List.mem_map.2 ⟨n, List.mem_range.2 hn, rfl⟩⟩
  refine ⟨?_, ?_, ((good_all zs).1 hg).2⟩
  · intro i hi
    rw [List.getElem?_eq_getElem hi, Option.getD_some]
    obtain ⟨z, hz, n, _, e⟩ := (hin _).1 (hP.subset (List.getElem_mem hi))
    rw [← e]
    exact hz
  · intro z hz
    have this : ptAt z 0 ∈ sortP (ptsOf (sortI zs) p) := hP.symm.subset ((hin (ptAt z 0)).2 ⟨z, hz, 0, by omega, rfl⟩)
    obtain ⟨i, hi, e⟩ := List.mem_iff_getElem.1 this
    refine ⟨i, hi, ?_⟩
    rw [List.getElem?_eq_getElem hi, Option.getD_some, e]
    rfl

/-! all shares together -/
def totN (ps : List (Int × Int)) : Nat → Int
  | 0 => 0
  | k + 1 => totN ps k + spanOf ps k
def sumC (ps : List (Int × Int)) (k : Nat) : List Int → Int
  | [] => 0
  | s :: r => cntN ps s k + sumC ps k r
theorem sumC_step (ps : List (Int × Int)) (k : Nat) : ∀ (zs : List Int), zs.Pairwise (· ≠ ·) → sumC ps (k + 1) zs = sumC ps k zs + (if (ps[k]?.getD (0, 0)).2 ∈ zs then spanOf ps k else 0)
  | [], _ => by simp [sumC]
  | s :: r, h => by
    obtain ⟨h1, h2⟩ := List.pairwise_cons.1 h
    have ih := sumC_step ps k r h2
    have hcn : cntN ps s (k + 1) = if (ps[k]?.getD (0, 0)).2 = s then cntN ps s k + spanOf ps k else cntN ps s k := rfl
    rw [sumC, sumC, ih, hcn]
    generalize (ps[k]?.getD (0, 0)).2 = y
    by_cases e : y = s
    · subst e
      have hn : ¬ y ∈ r := fun hy => h1 y hy rfl
      rw [if_pos rfl, if_neg hn, if_pos (List.mem_cons_self)]
      omega
    · rw [if_neg e]
      by_cases hr : y ∈ r
      · rw [if_pos hr, if_pos (List.mem_cons_of_mem _ hr)]; omega
      · rw [if_neg hr, if_neg (by simp [e, hr])]; omega
theorem sumC_tot {ps : List (Int × Int)} {zs : List Int} (h : Srvs ps zs) : ∀ k, k ≤ ps.length → sumC ps k zs = totN ps k
  | 0, _ => by
    have : ∀ zs : List Int, sumC ps 0 zs = 0 := by
      intro zs
      induction zs with
      | nil => rfl
      | cons s r ih => rw [sumC, ih]; rfl
    rw [this]; rfl
  | k + 1, hk => by
    rw [sumC_step ps k zs h.nd, sumC_tot h k (by omega), if_pos (h.mem k (by omega))]; rfl
theorem totN_eq {ps : List (Int × Int)} : ∀ k, k < ps.length → totN ps (k + 1) = (ps[k]?.getD (0, 0)).1 + 4294967296 - (ps[ps.length - 1]?.getD (0, 0)).1
  | 0, h => by
    rw [totN, totN]
    unfold spanOf
    rw [if_neg (by omega)]
    omega
  | k + 1, h => by
    rw [totN, totN_eq k (by omega)]
    have : spanOf ps (k + 1) = (ps[k + 1]?.getD (0, 0)).1 - (ps[k]?.getD (0, 0)).1 := by unfold spanOf; rw [if_pos (by omega)]; rfl
    rw [this]
    omega
theorem sumC_all {ps : List (Int × Int)} {zs : List Int} (h : Srvs ps zs) (hm : 0 < ps.length) : sumC ps ps.length zs = 4294967296 := by
  rw [sumC_tot h _ (Nat.le_refl _)]
  obtain ⟨k, hk⟩ : ∃ k, ps.length = k + 1 := ⟨ps.length - 1, by omega⟩
  rw [hk, totN_eq k (by omega), hk, Nat.add_sub_cancel]
  omega
theorem span_nn {ps : List (Int × Int)} (hR : Rising ps) (hH : HashI ps) (k : Nat) (hk : k < ps.length) : 0 ≤ spanOf ps k := by
  unfold spanOf
  split
  · have := hR (k - 1) k (by omega) hk
    omega
  · have h1 := hH 0
    have h2 := hH (ps.length - 1)
    omega
theorem cnt_nn {ps : List (Int × Int)} (hR : Rising ps) (hH : HashI ps) (s : Int) : ∀ k, k ≤ ps.length → 0 ≤ cntN ps s k
  | 0, _ => Int.le_refl _
  | k + 1, hk => by
    have h1 := cnt_nn hR hH s k (by omega)
    have h2 := span_nn hR hH k (by omega)
    rw [cntN]
    split <;> omega
theorem sumC_nn {ps : List (Int × Int)} (hR : Rising ps) (hH : HashI ps) : ∀ zs : List Int, 0 ≤ sumC ps ps.length zs
  | [] => Int.le_refl _
  | s :: r => by
    have := sumC_nn hR hH r
    have := cnt_nn hR hH s ps.length (Nat.le_refl _)
    rw [sumC]; omega
theorem sumC_append (ps : List (Int × Int)) (k : Nat) : ∀ (l m : List Int), sumC ps k (l ++ m) = sumC ps k l + sumC ps k m
  | [], m => by simp [sumC]
  | s :: r, m => by rw [List.cons_append, sumC, sumC, sumC_append ps k r m]; omega
theorem sumC_take {ps : List (Int × Int)} (hR : Rising ps) (hH : HashI ps) (zs : List Int) (i : Nat) : 0 ≤ sumC ps ps.length (zs.take i) ∧ sumC ps ps.length (zs.take i) ≤ sumC ps ps.length zs := by
  have h1 := sumC_nn hR hH (zs.take i)
  have h2 := sumC_nn hR hH (zs.drop i)
  have h3 := sumC_append ps ps.length (zs.take i) (zs.drop i)
  rw [List.take_append_drop] at h3
  omega
theorem sumC_next {ps : List (Int × Int)} {zs : List Int} {i : Nat} (h : i < zs.length) : sumC ps ps.length (zs.take (i + 1)) = sumC ps ps.length (zs.take i) + cntN ps (zs[i]?.getD 0) ps.length := by
  rw [List.take_succ_eq_append_getElem h, sumC_append, List.getElem?_eq_getElem h]
  simp [sumC]

end Go.Proofs.Ytpapbleabjpbfab
