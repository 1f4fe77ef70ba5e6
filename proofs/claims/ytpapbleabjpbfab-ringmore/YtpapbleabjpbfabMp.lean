import Derived.Test.YtpapbleabjpbfabFr
namespace Go.Proofs.Ytpapbleabjpbfab
open Go.RowKit
set_option linter.unusedVariables false

/-! one server more -/
def notId (i : Int) (x : Int × Int) : Bool := decide (x.2 ≠ i)
theorem ptN_srv {s : Int} {k : Nat} {x : Int × Int} (h : x ∈ ptN s k) : x.2 = s := by
  unfold ptN at h
  obtain ⟨n, _, rfl⟩ := List.mem_map.1 h
  rfl
theorem ptsOf_perm {l m : List Int} (h : l.Perm m) (p : Nat) : (ptsOf l p).Perm (ptsOf m p) := (h.map _).flatten
theorem ptsOf_filter (i : Int) (p : Nat) : ∀ zs : List Int, ¬ i ∈ zs → (ptsOf zs p).filter (notId i) = ptsOf zs p := fun zs h => by
  rw [List.filter_eq_self]
  intro x hx
  unfold ptsOf at hx
  obtain ⟨l, hl, hx⟩ := List.mem_flatten.1 hx
  obtain ⟨z, hz, rfl⟩ := List.mem_map.1 hl
  have := ptN_srv hx
  simp only [notId, decide_eq_true_eq]
  intro e
  rw [this] at e
  exact h (e ▸ hz)
theorem leP_anti (x y : Int × Int) (h1 : (!ltP y x) = true) (h2 : (!ltP x y) = true) : x = y := by
  simp only [ltP_eq] at h1 h2
  simp at h1 h2
  obtain ⟨a, b⟩ := x
  obtain ⟨c, d⟩ := y
  simp only at h1 h2
  have e : a = c := by omega
  subst e
  have e : b = d := by omega
  rw [e]
theorem sortP_pw (l : List (Int × Int)) : (sortP l).Pairwise (fun x y => (!ltP y x) = true) :=
  List.pairwise_mergeSort (le := fun x y : Int × Int => !ltP y x) (by intro a b c; simp only [ltP_eq]; simp; omega) (by intro a b; simp only [ltP_eq]; simp; omega) l
/-- The smaller ring's points are the greater one's but for the new server's. -/
theorem pts_more {zs zs' : List Int} {i : Int} (hp : zs'.Perm (i :: zs)) (hi : ¬ i ∈ zs) (p : Nat) : sortP (ptsOf (sortI zs) p) = (sortP (ptsOf (sortI zs') p)).filter (notId i) := by
  refine order_unique (fun x y => (!ltP y x) = true) leP_anti _ _ ?_ (sortP_pw _) ((sortP_pw _).sublist List.filter_sublist)
  have h1 : (sortP (ptsOf (sortI zs) p)).Perm (ptsOf zs p) := (List.mergeSort_perm _ _).trans (ptsOf_perm (List.mergeSort_perm _ _) p)
  have h2 : (sortP (ptsOf (sortI zs') p)).Perm (ptsOf (i :: zs) p) := (List.mergeSort_perm _ _).trans (ptsOf_perm ((List.mergeSort_perm _ _).trans hp) p)
  refine h1.trans ((h2.filter (notId i)).trans ?_).symm
  have e : ptsOf (i :: zs) p = ptN i p ++ ptsOf zs p := by simp [ptsOf]
  rw [e, List.filter_append, ptsOf_filter i p zs hi]
  have : (ptN i p).filter (notId i) = [] := by
    rw [List.filter_eq_nil_iff]
    intro x hx
    simp [notId, ptN_srv hx]
  rw [this]
  exact List.Perm.refl _

/-! shares -/
def cL (s : Int) : Int → List (Int × Int) → Int
  | _, [] => 0
  | p, x :: l => (if x.2 = s then x.1 - p else 0) + cL s x.1 l
def lastL : Int → List (Int × Int) → Int
  | p, [] => p
  | _, x :: l => lastL x.1 l
def RisL : Int → List (Int × Int) → Prop
  | _, [] => True
  | p, x :: l => p ≤ x.1 ∧ RisL x.1 l
theorem cL_app (s : Int) : ∀ (l : List (Int × Int)) (p : Int) (x : Int × Int), cL s p (l ++ [x]) = cL s p l + if x.2 = s then x.1 - lastL p l else 0
  | [], p, x => by simp [cL, lastL]
  | y :: l, p, x => by rw [List.cons_append, cL, cL, lastL, cL_app s l y.1 x]; omega
theorem lastL_app : ∀ (l : List (Int × Int)) (p : Int) (x : Int × Int), lastL p (l ++ [x]) = x.1
  | [], p, x => rfl
  | y :: l, p, x => by rw [List.cons_append, lastL, lastL_app l]
theorem cnt_cL (ps : List (Int × Int)) (s : Int) : ∀ k, k ≤ ps.length → cntN ps s k = cL s ((ps[ps.length - 1]?.getD (0, 0)).1 - 4294967296) (ps.take k)
  | 0, _ => rfl
  | k + 1, hk => by
    have ih := cnt_cL ps s k (by omega)
    rw [← take_next (by omega), cL_app, ← ih, cntN]
    have e : spanOf ps k = (ps[k]?.getD (0, 0)).1 - lastL ((ps[ps.length - 1]?.getD (0, 0)).1 - 4294967296) (ps.take k) := by
      cases k with
      | zero => unfold spanOf; rw [if_neg (by omega), List.take_zero, lastL]; omega
      | succ k =>
        unfold spanOf
        rw [if_pos (by omega), ← take_next (by omega), lastL_app]
        rfl
    rw [e]
    split <;> omega
theorem cL_more (i s : Int) (hs : s ≠ i) : ∀ (l : List (Int × Int)) (p p' : Int), p ≤ p' → RisL p' l → cL s p' l ≤ cL s p (l.filter (notId i))
  | [], _, _, _, _ => Int.le_refl _
  | x :: l, p, p', h, hr => by
    obtain ⟨h1, h2⟩ := hr
    by_cases e : x.2 = i
    · have hf : (x :: l).filter (notId i) = l.filter (notId i) := by rw [List.filter_cons_of_neg]; simp [notId, e]
      rw [hf, cL, if_neg (by rw [e]; exact fun e' => hs e'.symm)]
      have := cL_more i s hs l p x.1 (by omega) h2
      omega
    · have hf : (x :: l).filter (notId i) = x :: l.filter (notId i) := by rw [List.filter_cons_of_pos]; simp [notId, e]
      rw [hf, cL, cL]
      have := cL_more i s hs l x.1 x.1 (Int.le_refl _) h2
      split <;> omega
theorem risL_of : ∀ (l : List (Int × Int)) (p : Int), Rising l → (∀ x ∈ l, p ≤ x.1) → RisL p l
  | [], _, _, _ => trivial
  | x :: l, p, h, hp => by
    refine ⟨hp x (List.mem_cons_self), risL_of l x.1 (rising_tail h) ?_⟩
    intro y hy
    obtain ⟨j, hj, rfl⟩ := List.mem_iff_getElem.1 hy
    have := h 0 (j + 1) (by omega) (by simp; omega)
    rw [List.getElem?_cons_succ, List.getElem?_eq_getElem hj] at this
    simpa using this
theorem share_more {ps ps' : List (Int × Int)} {i s : Int} (he : ps = ps'.filter (notId i)) (hR : Rising ps') (hH : HashI ps') (hs : s ≠ i) (hm : 0 < ps.length) : cntN ps' s ps'.length ≤ cntN ps s ps.length := by
  have hin : ∀ x ∈ ps', 0 ≤ x.1 ∧ x.1 ≤ 4294967295 ∧ x.1 ≤ (ps'[ps'.length - 1]?.getD (0, 0)).1 := by
    intro x hx
    obtain ⟨j, hj, rfl⟩ := List.mem_iff_getElem.1 hx
    have h1 := hH j
    have h2 := hR j (ps'.length - 1) (by omega) (by omega)
    rw [List.getElem?_eq_getElem hj, Option.getD_some] at h1 h2
    exact ⟨h1.1, h1.2, h2⟩
  have hl : (ps[ps.length - 1]?.getD (0, 0)).1 ≤ (ps'[ps'.length - 1]?.getD (0, 0)).1 := by
    have hmem : ps[ps.length - 1]?.getD (0, 0) ∈ ps' := by
      rw [List.getElem?_eq_getElem (by omega), Option.getD_some]
      have hsub : ∀ x ∈ ps, x ∈ ps' := fun x hx => by rw [he] at hx; exact (List.mem_filter.1 hx).1
      exact hsub _ (List.getElem_mem _)
    exact (hin _ hmem).2.2
  have hlast := hH (ps'.length - 1)
  rw [cnt_cL ps' s _ (Nat.le_refl _), cnt_cL ps s _ (Nat.le_refl _), List.take_length, List.take_length]
  have h3 := cL_more i s hs ps' ((ps[ps.length - 1]?.getD (0, 0)).1 - 4294967296) ((ps'[ps'.length - 1]?.getD (0, 0)).1 - 4294967296) (by omega)
    (risL_of _ _ hR (fun x hx => by have := hin x hx; omega))
  rw [← he] at h3
  exact h3

/-! groups -/
def ded (l : List Int) : List Int := l.foldl (fun a x => if x ∈ a then a else a ++ [x]) []
theorem ded_app (l : List Int) (x : Int) : ded (l ++ [x]) = if x ∈ ded l then ded l else ded l ++ [x] := by unfold ded; rw [List.foldl_append]; rfl
theorem uniqN_ded (ps : List (Int × Int)) (fi k : Nat) : uniqN ps fi k = ded ((List.range k).map (srvAt ps fi)) := by
  induction k with
  | zero => rfl
  | succ k ih => rw [List.range_succ, List.map_append, List.map_cons, List.map_nil, ded_app, ← ih, uniqN]
theorem ded_mem (x : Int) (l : List Int) : x ∈ ded l ↔ x ∈ l := by
  suffices ∀ n, ∀ l : List Int, l.length = n → (x ∈ ded l ↔ x ∈ l) from this _ l rfl
  intro n
  induction n with
  | zero => intro l hl; obtain rfl := List.length_eq_zero_iff.1 hl; exact Iff.rfl
  | succ n ih =>
    intro l hl
    rcases List.eq_nil_or_concat l with rfl | ⟨m, y, rfl⟩
    · simp at hl
    · rw [List.concat_eq_append] at *
      have := ih m (by simp at hl; omega)
      rw [ded_app]
      split
      · rename_i h
        rw [this, List.mem_append]
        constructor
        · exact .inl
        · rintro (h' | h')
          · exact h'
          · simp at h'; subst h'; exact (ih m (by simp at hl; omega)).1 h |> fun z => by simpa using z
      · rw [List.mem_append, List.mem_append, this]
theorem ded_filter (q : Int → Bool) (l : List Int) : (ded l).filter q = ded (l.filter q) := by
  suffices ∀ n, ∀ l : List Int, l.length = n → (ded l).filter q = ded (l.filter q) from this _ l rfl
  intro n
  induction n with
  | zero => intro l hl; obtain rfl := List.length_eq_zero_iff.1 hl; rfl
  | succ n ih =>
    intro l hl
    rcases List.eq_nil_or_concat l with rfl | ⟨m, y, rfl⟩
    · simp at hl
    · rw [List.concat_eq_append] at *
      have ihm := ih m (by simp at hl; omega)
      rw [ded_app, List.filter_append]
      by_cases hq : q y = true
      · have e1 : [y].filter q = [y] := by simp [hq]
        rw [e1, ded_app, ← ihm]
        by_cases hy : y ∈ ded m
        · rw [if_pos hy, if_pos (List.mem_filter.2 ⟨hy, hq⟩)]
        · rw [if_neg hy, if_neg (fun h => hy (List.mem_filter.1 h).1), List.filter_append, e1]
      · have e1 : [y].filter q = [] := by simp [hq]
        rw [e1, List.append_nil, ← ihm]
        split
        · rfl
        · rw [List.filter_append, e1, List.append_nil]
theorem rot_seq (ps : List (Int × Int)) (fi : Nat) (hf : fi ≤ ps.length) : (List.range ps.length).map (srvAt ps fi) = (ps.drop fi ++ ps.take fi).map (·.2) := by
  apply List.ext_getElem?
  intro k
  by_cases hk : k < ps.length
  · rw [List.getElem?_map, List.getElem?_range hk, List.getElem?_map]
    simp only [Option.map_some]
    unfold srvAt
    by_cases h : fi + k < ps.length
    · rw [Nat.mod_eq_of_lt h, List.getElem?_append_left (by simp; omega), List.getElem?_drop, List.getElem?_eq_getElem h]
      rfl
    · have e : (fi + k) % ps.length = fi + k - ps.length := by
        rw [Nat.mod_eq_sub_mod (by omega), Nat.mod_eq_of_lt (by omega)]
      rw [e, List.getElem?_append_right (by simp; omega), List.length_drop, List.getElem?_take, if_pos (by omega)]
      have : k - (ps.length - fi) = fi + k - ps.length := by omega
      rw [this, List.getElem?_eq_getElem (by omega)]
      rfl
  · rw [List.getElem?_eq_none (by simp; omega), List.getElem?_eq_none (by simp; omega)]
theorem cut_first (h : Int) : ∀ ps : List (Int × Int), Rising ps → ps.drop (firstN ps h) = ps.filter (fun x => decide (h ≤ x.1)) ∧ ps.take (firstN ps h) = ps.filter (fun x => !decide (h ≤ x.1))
  | [], _ => ⟨rfl, rfl⟩
  | x :: l, hR => by
    obtain ⟨i1, i2⟩ := cut_first h l (rising_tail hR)
    rw [firstN_cons]
    by_cases e : h ≤ x.1
    · have h0 := firstN_zero hR e
      rw [h0] at i1 i2
      rw [if_pos e, h0, List.filter_cons_of_pos (by simpa using e), List.filter_cons_of_neg (by simpa using e), ← i1, ← i2]
      exact ⟨rfl, rfl⟩
    · rw [if_neg e, Nat.add_comm 1, List.filter_cons_of_neg (by simpa using e), List.filter_cons_of_pos (by simpa using e), ← i1, ← i2]
      exact ⟨rfl, rfl⟩
def rotS (h : Int) (ps : List (Int × Int)) : List Int := (ps.filter (fun x => decide (h ≤ x.1)) ++ ps.filter (fun x => !decide (h ≤ x.1))).map (·.2)
theorem grp_ded {ps : List (Int × Int)} (hR : Rising ps) (h : Int) (wn : Nat) : grp ps h wn = (ded (rotS h ps)).take wn := by
  unfold grp
  obtain ⟨e1, e2⟩ := cut_first h ps hR
  rw [grpN_take, uniqN_ded, rot_seq ps _ (firstN_le ps h), e1, e2]
  rfl
theorem rotS_filter (h i : Int) (ps : List (Int × Int)) : (rotS h ps).filter (fun z => decide (z ≠ i)) = rotS h (ps.filter (notId i)) := by
  unfold rotS
  rw [List.filter_map, List.filter_append, List.filter_filter, List.filter_filter, List.filter_filter, List.filter_filter]
  congr 1
  congr 1
  · congr 1; funext x; rw [Bool.and_comm]; rfl
  · congr 1; funext x; rw [Bool.and_comm]; rfl
theorem filter_one (i : Int) : ∀ l : List Int, l.Pairwise (· ≠ ·) → l.length ≤ (l.filter (fun z => decide (z ≠ i))).length + 1
  | [], _ => by simp
  | x :: l, h => by
    obtain ⟨h1, h2⟩ := List.pairwise_cons.1 h
    by_cases e : x = i
    · subst e
      rw [List.filter_cons_of_neg (by simp), List.filter_eq_self.2 (fun y hy => by simpa using fun e => h1 y hy e.symm)]
      simp
    · rw [List.filter_cons_of_pos (by simpa using e)]
      have := filter_one i l h2
      simp only [List.length_cons]
      omega
/-- The group in the greater ring without the new server is a front of the group in the smaller one, shorter by at most one. -/
theorem grp_more {ps ps' : List (Int × Int)} {i : Int} (he : ps = ps'.filter (notId i)) (hR : Rising ps) (hR' : Rising ps') (h : Int) (wn : Nat) (hl : (grp ps' h wn).length = wn) :
    (grp ps' h wn).filter (fun z => decide (z ≠ i)) = (grp ps h wn).take ((grp ps' h wn).filter (fun z => decide (z ≠ i))).length ∧
    ((grp ps' h wn).filter (fun z => decide (z ≠ i))).length ≤ (grp ps h wn).length ∧ (grp ps h wn).length ≤ ((grp ps' h wn).filter (fun z => decide (z ≠ i))).length + 1 := by
  have hone := filter_one i _ (grp_nodup ps' h wn)
  have hfl := List.length_filter_le (fun z => decide (z ≠ i)) (grp ps' h wn)
  rw [hl] at hone hfl
  have hU : ded (rotS h ps) = (ded (rotS h ps')).filter (fun z => decide (z ≠ i)) := by rw [ded_filter, rotS_filter, ← he]
  have e2 : ded (rotS h ps) = (grp ps' h wn).filter (fun z => decide (z ≠ i)) ++ ((ded (rotS h ps')).drop wn).filter (fun z => decide (z ≠ i)) := by
    rw [hU, grp_ded hR' h wn, ← List.filter_append, List.take_append_drop]
  have e3 : grp ps h wn = (ded (rotS h ps)).take wn := grp_ded hR h wn
  rw [e2, List.take_append] at e3
  generalize (grp ps' h wn).filter (fun z => decide (z ≠ i)) = rest at *
  rw [List.take_of_length_le hfl] at e3
  have hlen : (grp ps h wn).length ≤ wn := by unfold grp; exact grpN_le _ _ _ _
  refine ⟨?_, ?_, by omega⟩
  · rw [e3, List.take_left]
  · rw [e3, List.length_append]; omega

end Go.Proofs.Ytpapbleabjpbfab
