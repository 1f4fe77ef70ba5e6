import Derived.Test.YtmhjbkpojndhkabEb
namespace Go.Proofs.Ytmhjbkpojndhkab
open Go.RowKit
set_option linter.unusedVariables false
set_option linter.unusedSimpArgs false

def mkV (i : Nat) : Value := .int .i64 (-(i : Int))
def gwV (i : Nat) : Value := .int .i64 (1000 + (i : Int))
/-- The lists ahead of i0 are marked; of that one the first j0. -/
def P2 (K : List En) (i0 j0 : Nat) : Nat → List Value → Prop := fun i vs => (i < i0 → vs = List.replicate (enAt K i).l (mkV i)) ∧ (i = i0 → vs.take j0 = List.replicate j0 (mkV i))

theorem Kr.mono {w : World} {lo : Nat} {K : List En} {P P' : Nat → List Value → Prop} (h : Kr w lo K P) (hp : ∀ i vs, i < K.length → vs.length = (enAt K i).l → P i vs → P' i vs) : Kr w lo K P' :=
  ⟨fun i hi => by
    obtain ⟨vs, h1, h2⟩ := h.own i hi
    have hl : vs.length = (enAt K i).l * 1 := h1.1
    exact ⟨vs, h1, hp i vs hi (by omega) h2⟩, h.dis, h.len⟩
theorem kr_begin {w : World} {lo : Nat} {K : List En} (h : Kr w lo K T1) : Kr w lo K (P2 K 0 0) := h.mono (fun i vs _ _ _ => ⟨fun h => absurd h (Nat.not_lt_zero _), fun _ => by simp⟩)
theorem kr_next {w : World} {lo i0 : Nat} {K : List En} (h : Kr w lo K (P2 K i0 (enAt K i0).l)) : Kr w lo K (P2 K (i0 + 1) 0) := h.mono (fun i vs _ hl hp => ⟨fun hi => by
    rcases Nat.lt_or_ge i i0 with h1 | h1
    · exact hp.1 h1
    · obtain rfl : i = i0 := by omega
      have := hp.2 rfl
      rwa [List.take_of_length_le (by omega)] at this, fun _ => by simp⟩)
theorem kr_set {w : World} {lo i0 j0 g : Nat} {K : List En} (h : Kr w lo K (P2 K i0 j0)) (hi : i0 < K.length) (hg : (enAt K i0).a = some ⟨g, 0, none⟩) (hj : j0 < (enAt K i0).l) : Kr (w.setCell ⟨g, j0, none⟩ (mkV i0)) lo K (P2 K i0 (j0 + 1)) ∧ Kept (KB K) w (w.setCell ⟨g, j0, none⟩ (mkV i0)) := by
  have atg : At (enAt K i0).a g := by rw [hg]; exact ⟨_, rfl, rfl⟩
  have ks : Kept (Only g) w (w.setCell ⟨g, j0, none⟩ (mkV i0)) := (Kept.refl (Only g) w).setCell (p := ⟨g, j0, none⟩) (fun _ => rfl) _
  refine ⟨⟨fun i hi' => ?_, h.dis, h.len⟩, (Kept.refl (KB K) w).setCell (p := ⟨g, j0, none⟩) (fun _ => ⟨i0, hi, atg⟩) _⟩
  obtain ⟨vs, h1, h2⟩ := h.own i hi'
  by_cases e : i = i0
  · subst e
    have hl : vs.length = (enAt K i).l * 1 := h1.1
    refine ⟨vs.set j0 (mkV i), ?_, fun h3 => absurd h3 (Nat.lt_irrefl _), fun _ => ?_⟩
    · rw [hg] at h1 ⊢; exact h1.setAt j0 _ hj
    · have h3 := h2.2 rfl
      rw [List.take_add_one, List.take_set, List.getElem?_set]
      rw [if_pos rfl, if_pos (by omega)]
      rw [List.set_eq_of_length_le (by rw [List.length_take]; omega), h3]
      simp [List.replicate_succ']
  · refine ⟨vs, h1.kept ks (fun k hk e2 => ?_), h2.1, fun h3 => absurd h3 e⟩
    have e2 : k = g := e2
    exact h.dis i i0 hi' hi e k hk (e2 ▸ atg)

/-- While the lists are grown: those ahead of i0 are. -/
structure O3 (w6 w : World) (lo : Nat) (K : List En) (i0 : Nat) (la : Option Addr) (lc : Nat) (LL : List En) : Prop where
  ll : LL.length = i0
  lr : Own 22 1 w w6.heap.size la lc i0 (LL.map enV)
  mkd : ∀ i, i < i0 → ∀ q, q < (enAt K i).l → ∃ g, (enAt K i).a = some ⟨g, 0, none⟩ ∧ w.cell? ⟨g, q, none⟩ = some (mkV i)
  lo' : ∀ i, i < i0 → (enAt LL i).l = (enAt K i).l + 70 ∧ Own 3 1 w 0 (enAt LL i).a (enAt LL i).c ((enAt K i).l + 70) (List.replicate (enAt K i).l (mkV i) ++ List.replicate 70 (gwV i))
  at' : ∀ i, i < i0 → ∀ k, At (enAt LL i).a k → At (enAt K i).a k ∨ w6.heap.size ≤ k
  rest : ∀ i, i0 ≤ i → i < K.length → Own 3 1 w 0 (enAt K i).a (enAt K i).c (enAt K i).l (List.replicate (enAt K i).l (mkV i))
  kept : Kept (KB K) w6 w

theorem O3.start {w6 w : World} {lo : Nat} {K : List En} (h : Kr w lo K (P2 K K.length 0)) (hk : Kept (KB K) w6 w) : O3 w6 w lo K 0 none 0 [] :=
  ⟨rfl, Own.nil _ _ _ _, fun i hi => absurd hi (Nat.not_lt_zero _), fun i hi => absurd hi (Nat.not_lt_zero _), fun i hi => absurd hi (Nat.not_lt_zero _), fun i _ hi => by
    obtain ⟨vs, h1, h2⟩ := h.own i hi
    rw [h2.1 hi] at h1
    exact Own.lower h1 (Nat.zero_le _), hk⟩

/-- One list grown, and laid into the row of the long ones. -/
theorem O3.step {w6 wi w wj : World} {lo : Nat} {K : List En} {i0 : Nat} {la : Option Addr} {lc : Nat} {LL : List En} {a' : Option Addr} {c' lg lc' : Nat} {tmp : Obj}
    (h : O3 w6 wi lo K i0 la lc LL) (hi : i0 < K.length) (hG : Gw wi w (enAt K i0) 70 (mkV i0) (gwV i0) a' c')
    (dis : ∀ i j, i < K.length → j < K.length → i ≠ j → ∀ k, At (enAt K i).a k → ¬ At (enAt K j).a k) (hlt : ∀ k, KB K k → k < w6.heap.size)
    (hO : Own 22 1 wj w6.heap.size (some ⟨lg, 0, none⟩) lc' (i0 + 1) (LL.map enV ++ [.slice a' ((enAt K i0).l + 70) c'])) (hK : Kept (At la) (w.alloc tmp) wj) :
    O3 w6 wj lo K (i0 + 1) (some ⟨lg, 0, none⟩) lc' (LL ++ [⟨a', (enAt K i0).l + 70, c'⟩]) := by
  have hwi := h.kept.size
  have hla : ∀ k, KB K k → ¬ At la k := fun k e f => by
    have h1 := hlt k e
    have h2 := h.lr.base f
    omega
  have hKw : Kept No w (w.alloc tmp) := (Kept.refl No w).alloc tmp
  have hKj : Kept (At la) w wj := hKw.of_no.then hK
  have lrw : Own 22 1 w w6.heap.size la lc i0 (LL.map enV) := h.lr.kept hG.kept (fun k e f => hla k ⟨i0, hi, f⟩ e)
  have own_j : ∀ {n c b : Nat} {a : Option Addr} {vs : List Value}, Own 3 1 w b a c n vs → Own 3 1 wj b a c n vs := fun ho => ho.kept hKj (fun k e f => own_ne ho lrw (by decide) e f)
  have hll : LL.length = i0 := h.ll
  have hne : ∀ i, i < K.length → i ≠ i0 → ∀ k, At (enAt K i).a k → ¬ At (enAt K i0).a k := fun i h1 h2 k => dis i i0 h1 hi h2 k
  have hcase : ∀ i, i < i0 + 1 → i < i0 ∨ i = i0 := fun i hi => by omega
  refine ⟨by simp [hll], by simpa [enV] using hO, fun i hi1 q hq => ?_, fun i hi1 => ?_, fun i hi1 k hk => ?_, fun i hi1 hi2 => ?_, ?_⟩
  · rcases hcase i hi1 with h1 | rfl
    · obtain ⟨g, e1, e2⟩ := h.mkd i h1 q hq
      have atg : At (enAt K i).a g := by rw [e1]; exact ⟨_, rfl, rfl⟩
      exact ⟨g, e1, hKj.cell (hG.kept.cell e2 (hne i (by omega) (by omega) g atg)) (hla g ⟨i, by omega, atg⟩)⟩
    · obtain ⟨g, e1, e2⟩ := hG.mkd q hq
      have atg : At (enAt K i).a g := by rw [e1]; exact ⟨_, rfl, rfl⟩
      exact ⟨g, e1, hKj.cell e2 (hla g ⟨i, hi, atg⟩)⟩
  · rcases hcase i hi1 with h1 | rfl
    · rw [enAt_left (by omega)]
      obtain ⟨h2, h3⟩ := h.lo' i h1
      refine ⟨h2, own_j (h3.kept hG.kept (fun k e f => ?_))⟩
      rcases h.at' i h1 k e with h4 | h4
      · exact hne i (by omega) (by omega) k h4 f
      · have := hlt k ⟨i0, hi, f⟩; omega
    · have e : enAt (LL ++ [⟨a', (enAt K i).l + 70, c'⟩]) i = ⟨a', (enAt K i).l + 70, c'⟩ := by rw [← hll]; exact enAt_last _ _
      rw [e]
      exact ⟨rfl, own_j hG.own⟩
  · rcases hcase i hi1 with h1 | rfl
    · rw [enAt_left (by omega)] at hk
      exact h.at' i h1 k hk
    · have e : enAt (LL ++ [⟨a', (enAt K i).l + 70, c'⟩]) i = ⟨a', (enAt K i).l + 70, c'⟩ := by rw [← hll]; exact enAt_last _ _
      rw [e] at hk
      rcases hG.at' k hk with h1 | h1
      · exact .inl h1
      · right; omega
  · exact own_j ((h.rest i (by omega) hi2).kept hG.kept (fun k e f => hne i hi2 (by omega) k e f))
  · refine (h.kept.trans hG.kept (fun _ e => e) (fun i _ e => ⟨i0, hi, e⟩)).trans hKj (fun _ e => e) (fun i hi2 e => ?_)
    have := h.lr.base e
    omega

end Go.Proofs.Ytmhjbkpojndhkab
