import Derived.Test.YtmhjbkpojndhkabEa
import Derived.Laws.AppendOwnNone
namespace Go.Proofs.Ytmhjbkpojndhkab
open Go.RowKit
set_option linter.unusedVariables false
set_option linter.unusedSimpArgs false

theorem wp_appN {ops : Array Oper} {rest : List Oper} {o : Oper} {a : Act} {w : World} {Q : Exit → Act → World → Prop} (hg : o.guard = none) (s x : Operand) (ho : o.op = .call { callee := Callee.builtin Builtin.append, args := #[s, x], argTypes := #[22, 22] })
    (base : Nat) (v : Value) (xs : List Int) (hs : a.eval s = v) (hown : w.ownsRow base 3 1 v xs.length (xs.map (Value.int .i64)))
    (a1 : Option Addr) (zs : List Int) (c : Nat) (hx : a.eval x = .slice a1 zs.length c) (hn : a1 = none → c = 0) (hb : Nums .i64 w a1 zs) (hm : xs.length + zs.length ≤ 17592186044416) (hbase : base ≤ w.heap.size)
    (hK : ∀ v' w', w'.ownsRow base 3 1 v' (xs ++ zs).length ((xs ++ zs).map (Value.int .i64)) → w.grownBy w' v.ownBlock → wpList Try.prog ops Q rest (a.put o.dst v') w') :
    wpList Try.prog ops Q (o :: rest) a w := by
  obtain ⟨i0, hi, hz0, hz1, hz2⟩ := info_parts Try.info3'
  cases a1 with
  | none =>
    have hz : zs = [] := by
      cases zs with
      | nil => rfl
      | cons z r => obtain ⟨b, off, e, _⟩ := hb 0 (by simp); cases e
    subst hz
    have hc := hn rfl
    subst hc
    refine wpList_append_own_none hg s x 22 ho base 3 i0 1 Try.und22 hi v _ _ hs hown hx ?_
    refine hK v w ?_ ⟨rfl, rfl, rfl, Nat.le_refl _, fun _ _ _ => rfl⟩
    rw [List.append_nil]
    exact hown
  | some ad =>
    refine wpList_append_own _ hg s x 22 ho base 3 i0 (.int .i64 0) 1 8 Try.und22 hi hz0 hz1 hz2 rfl (by decide) v _ _ hs hown ad zs.length c (zs.map (Value.int .i64)) hx (by simp) ?_ (num_one .i64 zs) (by unfold maxLen; omega) (by omega) hbase ?_
    · intro j u hu
      have hj : 0 < (zs.map (Value.int .i64)).length := by have := (List.getElem?_eq_some_iff.1 hu).1; omega
      obtain ⟨ad', e, hc⟩ := hb.src hj
      cases e
      exact hc j u hu
    · intro v' w' h1 h2 _
      exact hK v' w' (by rw [List.length_append, List.map_append]; exact h1) h2

def enAt (K : List En) (i : Nat) : En := K[i]?.getD default
def KB (K : List En) : Nat → Prop := fun k => ∃ i, i < K.length ∧ At (enAt K i).a k
/-- Lists that were told, each in a block of its own. -/
structure Kr (w : World) (lo : Nat) (K : List En) (P : Nat → List Value → Prop) : Prop where
  own : ∀ i, i < K.length → ∃ vs, Own 3 1 w lo (enAt K i).a (enAt K i).c (enAt K i).l vs ∧ P i vs
  dis : ∀ i j, i < K.length → j < K.length → i ≠ j → ∀ k, At (enAt K i).a k → ¬ At (enAt K j).a k
  len : ∀ i, i < K.length → (enAt K i).l ≤ 17592186043904
theorem Kr.kept {S : Nat → Prop} {w w' : World} {lo : Nat} {K : List En} {P : Nat → List Value → Prop} (h : Kr w lo K P) (hk : Kept S w w') (hS : ∀ k, KB K k → ¬ S k) : Kr w' lo K P :=
  ⟨fun i hi => by
    obtain ⟨vs, h1, h2⟩ := h.own i hi
    exact ⟨vs, h1.kept hk (fun k e => hS k ⟨i, hi, e⟩), h2⟩, h.dis, h.len⟩
theorem Kr.no {w w' : World} {lo : Nat} {K : List En} {P : Nat → List Value → Prop} (h : Kr w lo K P) (hk : Kept No w w') : Kr w' lo K P := h.kept hk (fun _ _ e => e)
theorem Kr.lo {w : World} {lo : Nat} {K : List En} {P : Nat → List Value → Prop} (h : Kr w lo K P) {k : Nat} (hk : KB K k) : lo ≤ k ∧ k < w.heap.size := by
  obtain ⟨i, hi, e⟩ := hk
  obtain ⟨vs, h1, _⟩ := h.own i hi
  exact ⟨h1.base e, h1.ltAt e⟩
theorem enAt_left {K L : List En} {i : Nat} (h : i < K.length) : enAt (K ++ L) i = enAt K i := by unfold enAt; rw [List.getElem?_append_left h]
theorem enAt_last (K : List En) (e : En) : enAt (K ++ [e]) K.length = e := by unfold enAt; simp
theorem Kr.nil (w : World) (lo : Nat) (P : Nat → List Value → Prop) : Kr w lo [] P := ⟨fun i hi => absurd hi (Nat.not_lt_zero _), fun i j hi => absurd hi (Nat.not_lt_zero _), fun i hi => absurd hi (Nat.not_lt_zero _)⟩
def T1 : Nat → List Value → Prop := fun _ _ => True
theorem Kr.add {w : World} {lo : Nat} {K : List En} (h : Kr w lo K T1) {e : En} {vs : List Value} (ho : Own 3 1 w lo e.a e.c e.l vs) (hn : ∀ k, At e.a k → ¬ KB K k) (hl : e.l ≤ 17592186043904) : Kr w lo (K ++ [e]) T1 := by
  have hcase : ∀ i, i < (K ++ [e]).length → i < K.length ∨ i = K.length := fun i hi => by simp at hi; omega
  refine ⟨fun i hi => ?_, fun i j hi hj hij k hk => ?_, fun i hi => ?_⟩
  · rcases hcase i hi with h1 | rfl
    · rw [enAt_left h1]; exact h.own i h1
    · rw [enAt_last]; exact ⟨vs, ho, trivial⟩
  · rcases hcase i hi with h1 | rfl <;> rcases hcase j hj with h2 | rfl
    · rw [enAt_left h1] at hk; rw [enAt_left h2]; exact h.dis i j h1 h2 hij k hk
    · rw [enAt_left h1] at hk; rw [enAt_last]; exact fun e2 => hn k e2 ⟨i, h1, hk⟩
    · rw [enAt_last] at hk; rw [enAt_left h2]; exact fun e2 => hn k hk ⟨j, h2, e2⟩
    · omega
  · rcases hcase i hi with h1 | rfl
    · rw [enAt_left h1]; exact h.len i h1
    · rw [enAt_last]; exact hl
theorem KB_app {K : List En} {e : En} {k : Nat} (h : KB (K ++ [e]) k) : KB K k ∨ At e.a k := by
  obtain ⟨i, hi, hk⟩ := h
  have : i < K.length ∨ i = K.length := by simp at hi; omega
  rcases this with h1 | rfl
  · rw [enAt_left h1] at hk; exact .inl ⟨i, h1, hk⟩
  · rw [enAt_last] at hk; exact .inr hk
theorem en_at {K : List En} {i : Nat} (h : i < K.length) : (K.map enV)[i]? = some (.slice (enAt K i).a (enAt K i).l (enAt K i).c) := by
  unfold enAt
  rw [List.getElem?_map, List.getElem?_eq_getElem h]; rfl

end Go.Proofs.Ytmhjbkpojndhkab
