import Derived.Test.YtfemlnfknebalabS
namespace Go.Proofs.Ytfemlnfknebalab
open Go.RowKit
set_option linter.unusedVariables false
set_option linter.unusedSimpArgs false

/-- Orders. -/
structure Ord {κ : Type} (cmp : κ → κ → Int) : Prop where
  zero : ∀ a b, cmp a b = 0 ↔ a = b
  trans : ∀ a b c, cmp a b < 0 → cmp b c < 0 → cmp a c < 0
  anti : ∀ a b, cmp a b < 0 → ¬ cmp b a < 0
  tot : ∀ a b, cmp a b < 0 ∨ a = b ∨ cmp b a < 0
theorem cmpI_lt (x y : Int) : cmpI x y < 0 ↔ x < y := by
  unfold cmpI
  by_cases h : x < y
  · simp [h]
  · by_cases h2 : y < x <;> simp [h, h2]
theorem cmpI_zero (x y : Int) : cmpI x y = 0 ↔ x = y := by
  unfold cmpI
  by_cases h : x < y
  · simp [h]; omega
  · by_cases h2 : y < x
    · simp [h, h2]; omega
    · simp [h, h2]; omega
theorem ordI : Ord cmpI where
  zero := cmpI_zero
  trans a b c := by rw [cmpI_lt, cmpI_lt, cmpI_lt]; omega
  anti a b := by rw [cmpI_lt, cmpI_lt]; omega
  tot a b := by rw [cmpI_lt, cmpI_lt]; omega
theorem cb_zero : ∀ (a b : List UInt8), Lib.compareBytes a b = 0 ↔ a = b
  | [], [] => by simp [Lib.compareBytes]
  | [], _ :: _ => by simp [Lib.compareBytes]
  | _ :: _, [] => by simp [Lib.compareBytes]
  | x :: a, y :: b => by
    unfold Lib.compareBytes
    by_cases h1 : x < y
    · have : x ≠ y := fun e => by subst e; exact UInt8.lt_irrefl _ h1
      simp [h1, this]
    · by_cases h2 : y < x
      · have : x ≠ y := fun e => by subst e; exact UInt8.lt_irrefl _ h2
        simp [h1, h2, this]
      · have : x = y := UInt8.le_antisymm (UInt8.not_lt.1 h2) (UInt8.not_lt.1 h1)
        simp [h1, h2, this, cb_zero a b]
theorem cb_tot : ∀ (a b : List UInt8), Lib.compareBytes a b < 0 ∨ a = b ∨ Lib.compareBytes b a < 0
  | [], [] => by simp
  | [], _ :: _ => by simp [Lib.compareBytes]
  | _ :: _, [] => by simp [Lib.compareBytes]
  | x :: a, y :: b => by
    unfold Lib.compareBytes
    by_cases h1 : x < y
    · simp [h1]
    · by_cases h2 : y < x
      · simp [h1, h2]
      · have : x = y := UInt8.le_antisymm (UInt8.not_lt.1 h2) (UInt8.not_lt.1 h1)
        have h3 := cb_tot a b
        simp [h1, h2, this]
        exact h3
theorem cb_anti : ∀ (a b : List UInt8), Lib.compareBytes a b < 0 → ¬ Lib.compareBytes b a < 0
  | [], [] => by simp [Lib.compareBytes]
  | [], _ :: _ => by simp [Lib.compareBytes]
  | _ :: _, [] => by simp [Lib.compareBytes]
  | x :: a, y :: b => by
    unfold Lib.compareBytes
    by_cases h1 : x < y
    · have h2 : ¬ y < x := fun h => UInt8.lt_irrefl _ (UInt8.lt_trans h1 h)
      simp [h1, h2]
    · by_cases h2 : y < x
      · simp [h1, h2]
      · simp only [h1, h2, if_false]
        exact cb_anti a b
theorem cb_trans : ∀ (a b c : List UInt8), Lib.compareBytes a b < 0 → Lib.compareBytes b c < 0 → Lib.compareBytes a c < 0
  | [], [], c => by simp [Lib.compareBytes]
  | [], _ :: _, [] => by simp [Lib.compareBytes]
  | [], _ :: _, _ :: _ => by simp [Lib.compareBytes]
  | _ :: _, [], c => by simp [Lib.compareBytes]
  | _ :: _, _ :: _, [] => by simp [Lib.compareBytes]
  | x :: a, y :: b, z :: c => by
    unfold Lib.compareBytes
    by_cases h1 : x < y
    · by_cases h2 : y < z
      · have := UInt8.lt_trans h1 h2
        simp [this]
      · by_cases h3 : z < y
        · simp [h2, h3]
        · have : y = z := UInt8.le_antisymm (UInt8.not_lt.1 h3) (UInt8.not_lt.1 h2)
          subst this
          simp [h1]
    · by_cases h1' : y < x
      · simp [h1, h1']
      · have : x = y := UInt8.le_antisymm (UInt8.not_lt.1 h1') (UInt8.not_lt.1 h1)
        subst this
        by_cases h2 : x < z
        · simp [h2]
        · by_cases h3 : z < x
          · simp [h2, h3]
          · simp only [UInt8.lt_irrefl, h2, h3, if_false]
            exact cb_trans a b c
theorem ordB : Ord cmpB where
  zero a b := by
    unfold cmpB
    rw [cb_zero]
    constructor
    · intro h; cases a; cases b; simp at h; simp [h]
    · rintro rfl; rfl
  trans a b c := cb_trans _ _ _
  anti a b := cb_anti _ _
  tot a b := by
    rcases cb_tot a.data.toList b.data.toList with h | h | h
    · exact .inl h
    · refine .inr (.inl ?_); cases a; cases b; simp at h; simp [h]
    · exact .inr (.inr h)
section
variable {α κ : Type} {key : α → κ} {cmp : κ → κ → Int} {d : α}
def Rise (key : α → κ) (cmp : κ → κ → Int) (l : List α) : Prop := ∀ (i j : Nat) x y, l[i]? = some x → l[j]? = some y → i < j → cmp (key x) (key y) < 0
def gIx (key : α → κ) (cmp : κ → κ → Int) (d : α) (l : List α) (n : κ) : Nat := srch (fun i => decide (cmp (key (l[i]?.getD d)) n < 0)) l.length
theorem cut_at (p : Nat → Bool) : ∀ n, (∀ i j, i < j → j < n → p j = true → p i = true) → ∃ k, k ≤ n ∧ (∀ i, i < k → p i = true) ∧ (∀ i, k ≤ i → i < n → p i = false)
  | 0, _ => ⟨0, Nat.le_refl _, fun i h => absurd h (Nat.not_lt_zero _), fun i _ h => absurd h (Nat.not_lt_zero _)⟩
  | n + 1, h => by
    obtain ⟨k, h1, h2, h3⟩ := cut_at p n (fun i j hi hj => h i j hi (by omega))
    by_cases hn : p n = true
    · refine ⟨n + 1, Nat.le_refl _, fun i hi => ?_, fun i h4 h5 => by omega⟩
      by_cases e : i = n
      · rw [e]; exact hn
      · exact h i n (by omega) (by omega) hn
    · refine ⟨k, by omega, h2, fun i h4 h5 => ?_⟩
      by_cases e : i = n
      · rw [e]; simpa using hn
      · exact h3 i h4 (by omega)
theorem gIx_spec (O : Ord cmp) {l : List α} (hr : Rise key cmp l) (n : κ) : (∀ (i : Nat) x, i < gIx key cmp d l n → l[i]? = some x → cmp (key x) n < 0) ∧ (∀ (i : Nat) x, gIx key cmp d l n ≤ i → l[i]? = some x → ¬ cmp (key x) n < 0) ∧ gIx key cmp d l n ≤ l.length := by
  obtain ⟨k, h1, h2, h3⟩ := cut_at (fun i => decide (cmp (key (l[i]?.getD d)) n < 0)) l.length (fun i j hij hj hp => by
    have hi : i < l.length := by omega
    have e1 : l[i]? = some l[i] := List.getElem?_eq_getElem hi
    have e2 : l[j]? = some l[j] := List.getElem?_eq_getElem hj
    have := hr i j _ _ e1 e2 hij
    simp only [e1, e2, Option.getD_some, decide_eq_true_eq] at hp ⊢
    exact O.trans _ _ _ this hp)
  have e : gIx key cmp d l n = k := srch_mono _ _ k h1 h2 h3
  rw [e]
  refine ⟨fun i x hi hx => ?_, fun i x hi hx => ?_, h1⟩
  · have := h2 i hi
    simpa [hx] using this
  · have hl := (List.getElem?_eq_some_iff.1 hx).1
    have := h3 i hi hl
    simpa [hx] using this
/-- Where one of that key stands. -/
theorem gIx_at (O : Ord cmp) {l : List α} (hr : Rise key cmp l) {x : α} (hx : x ∈ l) : l[gIx key cmp d l (key x)]? = some x := by
  obtain ⟨h1, h2, h3⟩ := gIx_spec (d := d) O hr (key x)
  obtain ⟨i, hi, rfl⟩ := List.getElem_of_mem hx
  have ei : l[i]? = some l[i] := List.getElem?_eq_getElem hi
  generalize gIx key cmp d l (key l[i]) = k at h1 h2 h3 ⊢
  have hk : k = i := by
    rcases Nat.lt_trichotomy k i with h | h | h
    · have ek : l[k]? = some l[k] := List.getElem?_eq_getElem (by omega)
      have := hr k i _ _ ek ei h
      exact absurd this (h2 k _ (Nat.le_refl _) ek)
    · exact h
    · have := h1 i _ h ei
      exact absurd this (O.anti _ _ this)
  rw [hk, ei]
theorem rise_uniq (O : Ord cmp) {l : List α} (hr : Rise key cmp l) {x y : α} (hx : x ∈ l) (hy : y ∈ l) (h : key x = key y) : x = y := by
  have h1 := gIx_at (d := x) O hr hx
  have h2 := gIx_at (d := x) O hr hy
  rw [h] at h1
  rw [h1] at h2
  exact Option.some.inj h2
theorem rise_ins (O : Ord cmp) {l : List α} (hr : Rise key cmp l) (x : α) (hx : ∀ y ∈ l, key y ≠ key x) : Rise key cmp (insL l (gIx key cmp d l (key x)) x) := by
  obtain ⟨h1, h2, h3⟩ := gIx_spec (d := d) O hr (key x)
  generalize gIx key cmp d l (key x) = k at h1 h2 h3 ⊢
  have get : ∀ (i : Nat) y, (insL l k x)[i]? = some y → (i < k ∧ l[i]? = some y) ∨ (i = k ∧ y = x) ∨ (k < i ∧ l[i - 1]? = some y) := by
    intro i y hi
    unfold insL at hi
    have hlk : (l.take k).length = k := by rw [List.length_take]; omega
    rcases Nat.lt_trichotomy i k with h | h | h
    · rw [List.getElem?_append_left (by omega), List.getElem?_take, if_pos h] at hi
      exact .inl ⟨h, hi⟩
    · rw [List.getElem?_append_right (by omega), hlk, show i - k = 0 by omega] at hi
      simp at hi
      exact .inr (.inl ⟨h, hi.symm⟩)
    · rw [List.getElem?_append_right (by omega), hlk, show i - k = (i - k - 1) + 1 by omega, List.getElem?_cons_succ, List.getElem?_drop, show k + (i - k - 1) = i - 1 by omega] at hi
      exact .inr (.inr ⟨h, hi⟩)
  have above : ∀ (i : Nat) y, k ≤ i → l[i]? = some y → cmp (key x) (key y) < 0 := by
    intro i y hi hy
    rcases O.tot (key x) (key y) with h | h | h
    · exact h
    · exact absurd h.symm (hx y (List.mem_of_getElem? hy))
    · exact absurd h (h2 i y hi hy)
  intro i j y z hi hj hij
  rcases get i y hi with ⟨a1, a2⟩ | ⟨a1, rfl⟩ | ⟨a1, a2⟩ <;> rcases get j z hj with ⟨b1, b2⟩ | ⟨b1, rfl⟩ | ⟨b1, b2⟩
  · exact hr i j _ _ a2 b2 hij
  · exact h1 i _ a1 a2
  · exact hr i (j - 1) _ _ a2 b2 (by omega)
  · omega
  · omega
  · exact above (j - 1) _ (by omega) b2
  · omega
  · omega
  · exact hr (i - 1) (j - 1) _ _ a2 b2 (by omega)
theorem rise_del {l : List α} (hr : Rise key cmp l) (k : Nat) (hk : k < l.length) : Rise key cmp (delL l k) := by
  have get : ∀ (i : Nat) y, (delL l k)[i]? = some y → l[if i < k then i else i + 1]? = some y := by
    intro i y hi
    unfold delL at hi
    have hlk : (l.take k).length = k := by rw [List.length_take]; omega
    by_cases h : i < k
    · rw [List.getElem?_append_left (by omega), List.getElem?_take, if_pos h] at hi
      rw [if_pos h]; exact hi
    · rw [List.getElem?_append_right (by omega), hlk, List.getElem?_drop, show k + 1 + (i - k) = i + 1 by omega] at hi
      rw [if_neg h]; exact hi
  intro i j y z hi hj hij
  exact hr _ _ _ _ (get i y hi) (get j z hj) (by split <;> split <;> omega)
theorem rise_set {l : List α} (hr : Rise key cmp l) (k : Nat) (x y : α) (hy : l[k]? = some y) (hxy : key x = key y) : Rise key cmp (l.set k x) := by
  have get : ∀ (i : Nat) z, (l.set k x)[i]? = some z → ∃ z', l[i]? = some z' ∧ key z = key z' := by
    intro i z hi
    rw [List.getElem?_set] at hi
    by_cases e : k = i
    · subst e
      have hk := (List.getElem?_eq_some_iff.1 hy).1
      simp [hk] at hi
      exact ⟨y, hy, by rw [← hi]; exact hxy⟩
    · simp [e] at hi
      exact ⟨z, hi, rfl⟩
  intro i j z u hi hj hij
  obtain ⟨z', e1, e2⟩ := get i z hi
  obtain ⟨u', e3, e4⟩ := get j u hj
  rw [e2, e4]
  exact hr i j _ _ e1 e3 hij
theorem mem_ins {l : List α} {k : Nat} {x y : α} : y ∈ insL l k x ↔ y = x ∨ y ∈ l := by
  unfold insL
  rw [List.mem_append, List.mem_cons]
  constructor
  · rintro (h | h | h)
    · exact .inr (List.mem_of_mem_take h)
    · exact .inl h
    · exact .inr (List.mem_of_mem_drop h)
  · rintro (h | h)
    · exact .inr (.inl h)
    · rw [← List.take_append_drop k l, List.mem_append] at h
      exact h.elim .inl (fun h => .inr (.inr h))
theorem mem_del (O : Ord cmp) {l : List α} (hr : Rise key cmp l) {k : Nat} {x y : α} (hx : l[k]? = some x) : y ∈ delL l k ↔ y ∈ l ∧ key y ≠ key x := by
  have hk := (List.getElem?_eq_some_iff.1 hx).1
  have irr : ∀ a, ¬ cmp a a < 0 := fun a h => O.anti _ _ h h
  have hcut : l = l.take k ++ (x :: l.drop (k + 1)) := by
    have h0 : l.drop k = l[k] :: l.drop (k + 1) := List.drop_eq_getElem_cons hk
    have h1 : l[k] = x := by rw [List.getElem?_eq_getElem hk] at hx; exact Option.some.inj hx
    rw [← h1, ← h0, List.take_append_drop]
  unfold delL
  rw [List.mem_append]
  constructor
  · rintro (h | h)
    · refine ⟨List.mem_of_mem_take h, fun e => ?_⟩
      obtain ⟨i, hi⟩ := List.getElem?_of_mem h
      rw [List.getElem?_take] at hi
      split at hi
      · rename_i hlt
        have := hr i k _ _ hi hx hlt
        rw [e] at this
        exact irr _ this
      · cases hi
    · refine ⟨List.mem_of_mem_drop h, fun e => ?_⟩
      obtain ⟨i, hi⟩ := List.getElem?_of_mem h
      rw [List.getElem?_drop] at hi
      have := hr k (k + 1 + i) _ _ hx hi (by omega)
      rw [e] at this
      exact irr _ this
  · rintro ⟨h, hne⟩
    rw [hcut, List.mem_append, List.mem_cons] at h
    rcases h with h | h | h
    · exact .inl h
    · subst h; exact absurd rfl hne
    · exact .inr h
theorem mem_set (O : Ord cmp) {l : List α} (hr : Rise key cmp l) {k : Nat} {x y z : α} (hy : l[k]? = some y) (hxy : key x = key y) : z ∈ l.set k x ↔ z = x ∨ (z ∈ l ∧ key z ≠ key x) := by
  have hk := (List.getElem?_eq_some_iff.1 hy).1
  constructor
  · intro h
    obtain ⟨i, hi⟩ := List.getElem?_of_mem h
    rw [List.getElem?_set] at hi
    by_cases e : k = i
    · subst e; simp [hk] at hi; exact .inl hi.symm
    · simp [e] at hi
      refine .inr ⟨List.mem_of_getElem? hi, fun e2 => ?_⟩
      have := rise_uniq O hr (List.mem_of_getElem? hi) (List.mem_of_getElem? hy) (e2.trans hxy)
      subst this
      have irr : ¬ cmp (key z) (key z) < 0 := fun h => O.anti _ _ h h
      rcases Nat.lt_or_gt_of_ne e with h | h
      · exact irr (hr _ _ _ _ hy hi h)
      · exact irr (hr _ _ _ _ hi hy h)
  · rintro (rfl | ⟨h, hne⟩)
    · exact List.mem_of_getElem? (by rw [List.getElem?_set]; simp [hk] : (l.set k z)[k]? = some z)
    · obtain ⟨i, hi⟩ := List.getElem?_of_mem h
      have hik : k ≠ i := by
        rintro rfl
        rw [hy] at hi
        cases hi
        exact hne hxy.symm
      exact List.mem_of_getElem? (by rw [List.getElem?_set]; simp [hik]; exact hi : (l.set k x)[i]? = some z)
end
def RiseE (es : List En) : Prop := Rise En.nm cmpB es
def RiseL (ls : List La) : Prop := Rise La.cl cmpI ls
theorem eIs_iff {es : List En} (h : RiseE es) {n : ByteArray} : eIs es n = true ↔ ∃ e ∈ es, e.nm = n := by
  constructor
  · intro hq
    have hl := eIs_lt hq
    simp only [eIs, Bool.and_eq_true, decide_eq_true_eq, beq_iff_eq] at hq
    exact ⟨eAt es (eIx es n), List.mem_of_getElem? (eAt_some hl), (ordB.zero _ _).1 hq.2⟩
  · rintro ⟨e, he, rfl⟩
    have h1 : es[eIx es e.nm]? = some e := gIx_at (d := enZ) ordB h he
    have h2 := (List.getElem?_eq_some_iff.1 h1).1
    have h3 : eAt es (eIx es e.nm) = e := by unfold eAt; rw [h1]; rfl
    simp only [eIs, Bool.and_eq_true, decide_eq_true_eq, beq_iff_eq]
    exact ⟨h2, by rw [h3]; exact (ordB.zero _ _).2 rfl⟩
theorem findE_mem {es : List En} (h : RiseE es) {e : En} (he : e ∈ es) : findE es e.nm = e := by
  have h1 : es[eIx es e.nm]? = some e := gIx_at (d := enZ) ordB h he
  rw [findE_yes ((eIs_iff h).2 ⟨e, he, rfl⟩)]
  unfold eAt; rw [h1]; rfl
theorem lIs_iff {es : List La} (h : RiseL es) {n : Int} : lIs es n = true ↔ ∃ e ∈ es, e.cl = n := by
  constructor
  · intro hq
    have hl := lIs_lt hq
    simp only [lIs, Bool.and_eq_true, decide_eq_true_eq, beq_iff_eq] at hq
    exact ⟨lAt es (lIx es n), List.mem_of_getElem? (lAt_some hl), (ordI.zero _ _).1 hq.2⟩
  · rintro ⟨e, he, rfl⟩
    have h1 : es[lIx es e.cl]? = some e := gIx_at (d := laZ) ordI h he
    have h2 := (List.getElem?_eq_some_iff.1 h1).1
    have h3 : lAt es (lIx es e.cl) = e := by unfold lAt; rw [h1]; rfl
    simp only [lIs, Bool.and_eq_true, decide_eq_true_eq, beq_iff_eq]
    exact ⟨h2, by rw [h3]; exact (ordI.zero _ _).2 rfl⟩
theorem findL_mem {es : List La} (h : RiseL es) {e : La} (he : e ∈ es) : findL es e.cl = e := by
  have h1 : es[lIx es e.cl]? = some e := gIx_at (d := laZ) ordI h he
  rw [findL_yes ((lIs_iff h).2 ⟨e, he, rfl⟩)]
  unfold lAt; rw [h1]; rfl
theorem findE_congr {a b : List En} (ha : RiseE a) (hb : RiseE b) {n : ByteArray} (h : ∀ e, e.nm = n → (e ∈ a ↔ e ∈ b)) : eIs a n = eIs b n ∧ findE a n = findE b n := by
  by_cases hq : eIs a n = true
  · obtain ⟨e, he, rfl⟩ := (eIs_iff ha).1 hq
    have he2 := (h e rfl).1 he
    exact ⟨by rw [hq, (eIs_iff hb).2 ⟨e, he2, rfl⟩], by rw [findE_mem ha he, findE_mem hb he2]⟩
  · have hq2 : ¬ eIs b n = true := fun hb2 => by
      obtain ⟨e, he, rfl⟩ := (eIs_iff hb).1 hb2
      exact hq ((eIs_iff ha).2 ⟨e, (h e rfl).2 he, rfl⟩)
    simp only [Bool.not_eq_true] at hq hq2
    exact ⟨by rw [hq, hq2], by rw [findE_no hq, findE_no hq2]⟩
theorem findL_congr {a b : List La} (ha : RiseL a) (hb : RiseL b) {n : Int} (h : ∀ e, e.cl = n → (e ∈ a ↔ e ∈ b)) : lIs a n = lIs b n ∧ findL a n = findL b n := by
  by_cases hq : lIs a n = true
  · obtain ⟨e, he, rfl⟩ := (lIs_iff ha).1 hq
    have he2 := (h e rfl).1 he
    exact ⟨by rw [hq, (lIs_iff hb).2 ⟨e, he2, rfl⟩], by rw [findL_mem ha he, findL_mem hb he2]⟩
  · have hq2 : ¬ lIs b n = true := fun hb2 => by
      obtain ⟨e, he, rfl⟩ := (lIs_iff hb).1 hb2
      exact hq ((lIs_iff ha).2 ⟨e, (h e rfl).2 he, rfl⟩)
    simp only [Bool.not_eq_true] at hq hq2
    exact ⟨by rw [hq, hq2], by rw [findL_no hq, findL_no hq2]⟩
theorem eAt_nm {es : List En} {n : ByteArray} (h : eIs es n = true) : (eAt es (eIx es n)).nm = n := by
  simp only [eIs, Bool.and_eq_true, decide_eq_true_eq, beq_iff_eq] at h
  exact (ordB.zero _ _).1 h.2
theorem lAt_cl {es : List La} {n : Int} (h : lIs es n = true) : (lAt es (lIx es n)).cl = n := by
  simp only [lIs, Bool.and_eq_true, decide_eq_true_eq, beq_iff_eq] at h
  exact (ordI.zero _ _).1 h.2
theorem chgE_nm (e : En) (c : Cm) : (chgE e c).nm = e.nm := by unfold chgE; split <;> (try split) <;> (try split) <;> rfl
theorem chgS_nm (e : En) (c : Cm) : (chgS e c).1.nm = e.nm := by unfold chgS; split; exact chgE_nm e c; rfl
/-- What acting leaves of the entries, by name. -/
theorem act_rise {es : List En} (h : RiseE es) (c : Cm) (room : Int) : RiseE (actS es c room).1 ∧ (∀ e, e.nm ≠ c.nm → (e ∈ (actS es c room).1 ↔ e ∈ es)) ∧ (actS es c room).1.length ≤ es.length + 1 := by
  unfold actS
  split
  · exact ⟨h, fun e _ => Iff.rfl, by simp⟩
  split
  · unfold creS
    split
    · exact ⟨h, fun e _ => Iff.rfl, by simp⟩
    rename_i hq
    split
    · exact ⟨h, fun e _ => Iff.rfl, by simp⟩
    refine ⟨rise_ins (d := enZ) ordB h (newE c) (fun y hy e => hq ((eIs_iff h).2 ⟨y, hy, e⟩)), fun e hne => ?_, ?_⟩
    · show e ∈ insL _ _ _ ↔ _
      rw [mem_ins]
      exact ⟨fun h => h.resolve_left (fun e2 => hne (by rw [e2]; rfl)), .inr⟩
    · show (insL _ _ _).length ≤ _
      rw [insL_len _ _ _ (eIx_le _ _)]; exact Nat.le_refl _
  split
  · rename_i hq
    have hl := eIs_lt hq
    split
    · exact ⟨h, fun e _ => Iff.rfl, by simp⟩
    split
    · refine ⟨rise_del h _ hl, fun e hne => ?_, ?_⟩
      · show e ∈ delL _ _ ↔ _
        rw [mem_del ordB h (eAt_some hl), eAt_nm hq]
        exact ⟨fun h => h.1, fun h => ⟨h, hne⟩⟩
      · show (delL _ _).length ≤ _
        rw [delL_len _ _ hl]; omega
    · refine ⟨rise_set h _ _ _ (eAt_some hl) (chgS_nm _ _), fun e hne => ?_, by simp⟩
      show e ∈ es.set _ _ ↔ _
      rw [mem_set ordB h (eAt_some hl) (chgS_nm _ _), chgS_nm, eAt_nm hq]
      exact ⟨fun h => h.elim (fun e2 => absurd (by rw [e2, chgS_nm, eAt_nm hq]) hne) (fun h => h.1), fun h => .inr ⟨h, hne⟩⟩
  · exact ⟨h, fun e _ => Iff.rfl, by simp⟩
theorem keep_rise {ls : List La} (h : RiseL ls) (l : La) : RiseL (keepS ls l) ∧ (∀ e, e.cl ≠ l.cl → (e ∈ keepS ls l ↔ e ∈ ls)) ∧ (keepS ls l).length ≤ ls.length + 1 := by
  unfold keepS
  split
  · rename_i hq
    have hl := lIs_lt hq
    refine ⟨rise_set h _ _ _ (lAt_some hl) (lAt_cl hq).symm, fun e hne => ?_, by simp⟩
    rw [mem_set ordI h (lAt_some hl) (lAt_cl hq).symm]
    exact ⟨fun h => h.elim (fun e2 => absurd (by rw [e2]) hne) (fun h => h.1), fun h => .inr ⟨h, hne⟩⟩
  · rename_i hq
    refine ⟨rise_ins (d := laZ) ordI h l (fun y hy e => hq ((lIs_iff h).2 ⟨y, hy, e⟩)), fun e hne => ?_, by rw [insL_len _ _ _ (lIx_le _ _)]; exact Nat.le_refl _⟩
    rw [mem_ins]
    exact ⟨fun h => h.resolve_left (fun e2 => hne (by rw [e2])), .inr⟩
/-- Two buckets that are alike at a name are so behind a command of it, while there is room. -/
theorem act_alike {a b : List En} (ha : RiseE a) (hb : RiseE b) (c : Cm) (room : Int) (h : ∀ e, e.nm = c.nm → (e ∈ a ↔ e ∈ b)) (hbn : ∀ e ∈ b, e.nm = c.nm) (hr : (actS a c room).2.er ≠ 103) : ∀ e, e.nm = c.nm → (e ∈ (actS a c room).1 ↔ e ∈ (actS b c room).1) := by
  obtain ⟨h1, h2⟩ := findE_congr ha hb h
  unfold actS at hr ⊢
  by_cases k4 : (c.k == 4) = true
  · simp only [k4, if_true]; exact h
  by_cases k1 : (c.k == 1) = true
  · simp only [k4, k1, if_true] at hr ⊢
    unfold creS at hr ⊢
    by_cases hq : eIs a c.nm = true
    · have hq2 : eIs b c.nm = true := h1 ▸ hq
      simp only [hq, hq2, if_true]; exact h
    · have hq2 : ¬ eIs b c.nm = true := h1 ▸ hq
      by_cases hf : decide (room ≤ (a.length : Int)) = true
      · simp only [hq, hf, if_true] at hr
        exact absurd rfl hr
      · have hbl : b = [] := by
          cases hb0 : b with
          | nil => rfl
          | cons x t => exact absurd ((eIs_iff hb).2 ⟨x, by rw [hb0]; simp, hbn x (by rw [hb0]; simp)⟩) hq2
        have hf2 : ¬ decide (room ≤ (b.length : Int)) = true := by
          rw [hbl]
          simp at hf ⊢
          omega
        simp only [hq, hq2, hf, hf2, if_false]
        intro e he
        show e ∈ insL _ _ _ ↔ e ∈ insL _ _ _
        rw [mem_ins, mem_ins, h e he]
  · simp only [k4, k1, if_false] at hr ⊢
    by_cases hq : eIs a c.nm = true
    · have hq2 : eIs b c.nm = true := h1 ▸ hq
      have hla := eIs_lt hq
      have hlb := eIs_lt hq2
      have hx : eAt a (eIx a c.nm) = eAt b (eIx b c.nm) := by rw [← findE_yes hq, ← findE_yes hq2]; exact h2
      simp only [hq, hq2, if_true]
      by_cases k3 : (c.k == 3) = true
      · simp only [k3, if_true]; exact h
      by_cases k2 : (c.k == 2) = true
      · simp only [k3, k2, if_true, if_false]
        intro e he
        show e ∈ delL _ _ ↔ e ∈ delL _ _
        rw [mem_del ordB ha (eAt_some hla), mem_del ordB hb (eAt_some hlb), h e he, hx]
      · simp only [k3, k2, if_false]
        intro e he
        show e ∈ a.set _ _ ↔ e ∈ b.set _ _
        rw [mem_set ordB ha (eAt_some hla) (chgS_nm _ _), mem_set ordB hb (eAt_some hlb) (chgS_nm _ _), h e he, hx]
    · have hq2 : ¬ eIs b c.nm = true := h1 ▸ hq
      simp only [hq, hq2, if_false]; exact h

end Go.Proofs.Ytfemlnfknebalab
