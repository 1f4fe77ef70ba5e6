import Derived.Test.YtgnfeegnhdbnkaaSa
import Derived.ArgAppend
import Derived.Laws.OwnMore
namespace Go.Proofs.Ytgnfeegnhdbnkaa
open Go.RowKit Go.Lib
set_option linter.unusedVariables false
set_option linter.unusedSimpArgs false

theorem Own.lt {t : TypeId} {c : Nat} {w : World} {base : Nat} {a : Option Addr} {cap n : Nat} {vs : List Value} (h : Own t c w base a cap n vs) {k : Nat} (hk : At a k) : k < w.heap.size := by
  obtain ⟨cur, hc⟩ := h.typ hk
  exact (Array.getElem?_eq_some_iff.1 hc).1
theorem Own.front {t : TypeId} {w : World} {base : Nat} {a : Option Addr} {cap n : Nat} {vs us : List Value} (h : Own t 1 w base a cap n vs) (hp : us <+: vs) : Own t 1 w base a (if a = none then 0 else cap) us.length us := by
  have hl : vs.length = n := by simpa using h.1
  have hle := hp.length_le
  refine ⟨by simp, ?_⟩
  rcases h.2 with ⟨hv, hn⟩ | ⟨g, cap', cur, hv, hb, hg, hnc, hm, hs, ht⟩
  · simp only [Value.slice.injEq] at hv
    obtain ⟨rfl, _, _⟩ := hv
    have : us.length = 0 := by omega
    exact .inl ⟨by rw [if_pos rfl, this], this⟩
  · simp only [Value.slice.injEq] at hv
    obtain ⟨rfl, -, rfl⟩ := hv
    refine .inr ⟨g, cap, cur, by rw [if_neg (by simp)], hb, hg, by omega, hm, hs, ?_⟩
    simp only [Nat.mul_one] at ht ⊢
    obtain ⟨r, hr⟩ := hp
    have e : us = vs.take us.length := by rw [← hr]; simp
    conv => rhs; rw [e, ← ht, List.take_take, Nat.min_eq_left (by omega)]
theorem own_cap {t : TypeId} {w : World} {base : Nat} {cap n : Nat} {vs : List Value} (h : Own t 1 w base none cap n vs) : cap = 0 := by
  rcases h.2 with ⟨hv, hn⟩ | ⟨g, cap', cur, hv, _⟩
  · simp only [Value.slice.injEq] at hv; exact hv.2.2
  · simp only [Value.slice.injEq] at hv; cases hv.1
/-- append(s, x), x one text: in place, or moved while nothing else has turned. -/
theorem run_appD {w : World} {base n cap : Nat} {sa : Option Addr} {vs : List Value} (hown : Own 9 1 w base sa cap n vs) (g2 : Nat) (s : List UInt8) (hx : Box w g2 9 [strV s].toArray) (hbd : n ≤ 1000000000000) (hbase : base ≤ w.heap.size) :
    ∃ a' c' w', (∀ ty, (Builtin.append_ #[22, 22] ty #[.slice sa n cap, .slice (some ⟨g2, 0, none⟩) 1 1]).run Try.prog w = .ok (.slice a' (n + 1) c') w') ∧ Own 9 1 w' base a' c' (n + 1) (vs ++ [strV s]) ∧ ((a' = sa ∧ c' = cap ∧ Kept (At sa) w w') ∨ ((∀ k, At a' k → w.heap.size ≤ k) ∧ Kept No w w')) := by
  obtain ⟨i0, hi, hz0, hz1, hz2⟩ := info_parts I9
  have hsrc : ∀ (j : Nat) u, [strV s][j]? = some u → w.cell? ((⟨g2, 0, none⟩ : Addr).add j) = some u := box_news hx
  have h1 : ∀ u ∈ [strV s], u.oneCell' = true := by simp [Value.oneCell', strV]
  have hl : vs.length = n := by simpa using hown.1
  have moved : ∀ {ao : Option Addr} {v' : Value} {w' : World} {ty : TypeId}, w'.ownsRow w.heap.size 9 1 v' (n + 1) (vs ++ [strV s]) → w.grownBy w' none → ∃ a' c', v' = .slice a' (n + 1) c' ∧ Own 9 1 w' base a' c' (n + 1) (vs ++ [strV s]) ∧ (∀ k, At a' k → w.heap.size ≤ k) ∧ Kept No w w' := by
    intro _ v' w' _ r1 r2
    obtain ⟨a', c', rfl⟩ := own_slice r1
    exact ⟨a', c', rfl, Own.lower (show Own 9 1 w' w.heap.size a' c' (n + 1) (vs ++ [strV s]) from r1) hbase, fun k hk => own_at r1 hk, kept_grown r2⟩
  by_cases hroom : n + 1 ≤ cap
  · rcases hown.2 with ⟨hv, hn⟩ | ⟨g, cap', cur, hv, hb, rest⟩
    · simp only [Value.slice.injEq] at hv; omega
    · simp only [Value.slice.injEq] at hv
      obtain ⟨rfl, -, rfl⟩ := hv
      have hr : ∀ ty, ∃ w', (Builtin.append_ #[22, 22] ty #[.slice (some ⟨g, 0, none⟩) n cap, .slice (some ⟨g2, 0, none⟩) 1 1]).run Try.prog w = .ok (.slice (some ⟨g, 0, none⟩) (n + 1) cap) w' ∧ w'.ownsRow base 9 1 (.slice (some ⟨g, 0, none⟩) (n + 1) cap) (n + 1) (vs ++ [strV s]) ∧ w.grownBy w' (some g) := fun ty => by
        have := run_append_fits (P := Try.prog) w base 22 ty 9 i0 1 U22 hi hz1 g n cap vs hown ⟨g2, 0, none⟩ 1 1 [strV s] rfl hsrc h1 hroom
        simpa using this
      obtain ⟨w', h0, h2, h3⟩ := hr 22
      refine ⟨some ⟨g, 0, none⟩, cap, w', fun ty => ?_, h2, .inl ⟨rfl, rfl, (Kept.refl _ _).grown h3 (fun k e _ => by cases e; exact ⟨_, rfl, rfl⟩)⟩⟩
      have e : Builtin.append_ #[22, 22] ty #[.slice (some ⟨g, 0, none⟩) n cap, .slice (some ⟨g2, 0, none⟩) 1 1] = Builtin.append_ #[22, 22] 22 #[.slice (some ⟨g, 0, none⟩) n cap, .slice (some ⟨g2, 0, none⟩) 1 1] := rfl
      rw [e]; exact h0
  · have ety : ∀ ty, Builtin.append_ #[22, 22] ty #[.slice sa n cap, .slice (some ⟨g2, 0, none⟩) 1 1] = Builtin.append_ #[22, 22] 22 #[.slice sa n cap, .slice (some ⟨g2, 0, none⟩) 1 1] := fun _ => rfl
    rcases hown.2 with ⟨hv, hn⟩ | ⟨g, cap', cur, hv, hb, rest⟩
    · simp only [Value.slice.injEq] at hv
      obtain ⟨rfl, _, rfl⟩ := hv
      subst hn
      have hvs : vs = [] := List.eq_nil_of_length_eq_zero hl
      subst hvs
      obtain ⟨a', c', w', hrun, ho, hk⟩ := run_app 22 9 16 _ U22 I9 rfl (Own.nil 9 1 w w.heap.size) 22 ⟨g2, 0, none⟩ 1 1 [strV s] rfl hsrc h1 (by omega) (by omega) (Nat.le_refl _)
      refine ⟨a', c', w', fun ty => by rw [ety]; exact hrun, ho.lower hbase, .inr ⟨fun k hk => ho.base hk, hk.mono (fun i _ e => (At.none e).elim)⟩⟩
    · simp only [Value.slice.injEq] at hv
      obtain ⟨rfl, -, rfl⟩ := hv
      obtain ⟨v', w', hrun, r1, r2⟩ := run_append_arg_grows (P := Try.prog) w 22 22 9 i0 (.string ⟨#[]⟩) 1 16 U22 hi hz0 hz1 hz2 rfl (by decide) ⟨g, 0, none⟩ n cap vs hown.1 (fun j u hj => by rw [addr_add, Nat.zero_add]; exact Own.cellAt hown hj) ⟨g2, 0, none⟩ 1 1 [strV s] rfl hsrc (by omega) (by unfold maxLen; omega) (by omega)
      obtain ⟨a', c', rfl, ho, ha, hk⟩ := moved (ao := none) (ty := 0) r1 r2
      exact ⟨a', c', w', fun ty => by rw [ety]; exact hrun, ho, .inr ⟨ha, hk⟩⟩

/-- A list that was told, and what it was grown to. -/
structure It where
  a : Option Addr
  c : Nat
  vs : List Value
  a2 : Option Addr
  c2 : Nat
  vs2 : List Value
def It.at (x : It) : Nat → Prop := fun k => At x.a k ∨ At x.a2 k
def It.v (x : It) : Value := .slice x.a x.vs.length x.c
def It.v2 (x : It) : Value := .slice x.a2 x.vs2.length x.c2
structure ItOk (W : World) (b : Nat) (x : It) : Prop where
  own : Own 9 1 W b x.a x.c x.vs.length x.vs
  own2 : Own 9 1 W b x.a2 x.c2 x.vs2.length x.vs2
theorem ItOk.lt {W : World} {b : Nat} {x : It} (h : ItOk W b x) {k : Nat} (hk : x.at k) : k < W.heap.size := hk.elim h.own.lt h.own2.lt
theorem ItOk.base {W : World} {b : Nat} {x : It} (h : ItOk W b x) {k : Nat} (hk : x.at k) : b ≤ k := hk.elim h.own.base h.own2.base
theorem ItOk.kept {S : Nat → Prop} {W W' : World} {b : Nat} {x : It} (h : ItOk W b x) (hk : Kept S W W') (hS : ∀ k, x.at k → ¬ S k) : ItOk W' b x :=
  ⟨h.own.kept hk (fun k e => hS k (.inl e)), h.own2.kept hk (fun k e => hS k (.inr e))⟩
structure Ks (W : World) (b : Nat) (X : List It) : Prop where
  ok : ∀ (i : Nat) x, X[i]? = some x → ItOk W b x
  apart : ∀ (i j : Nat) x y, X[i]? = some x → X[j]? = some y → i ≠ j → ∀ k, x.at k → ¬ y.at k
theorem Ks.kept {S : Nat → Prop} {W W' : World} {b : Nat} {X : List It} (h : Ks W b X) (hk : Kept S W W') (hS : ∀ (i : Nat) x, X[i]? = some x → ∀ k, x.at k → ¬ S k) : Ks W' b X :=
  ⟨fun i x hx => (h.ok i x hx).kept hk (hS i x hx), h.apart⟩
theorem Ks.no {W W' : World} {b : Nat} {X : List It} (h : Ks W b X) (hk : Kept No W W') : Ks W' b X := h.kept hk (fun _ _ _ _ _ e => e)
/-- Rows of lists' own type: nothing of the lists lies there. -/
theorem Ks.keptRow {W W' : World} {b b2 : Nat} {X : List It} {a : Option Addr} {cap n : Nat} {vs : List Value} (h : Ks W b X) (ho : Own 22 1 W b2 a cap n vs) (hk : Kept (At a) W W') : Ks W' b X :=
  h.kept hk (fun i x hx k e => by
    rcases e with e | e
    · exact own_apart (h.ok i x hx).own ho (by decide) k e
    · exact own_apart (h.ok i x hx).own2 ho (by decide) k e)
theorem Ks.upd {W W' : World} {b : Nat} {X : List It} (h : Ks W b X) {i : Nat} {x x' : It} (hi : X[i]? = some x) (hk : Kept x.at W W') (hx' : ItOk W' b x') (hat : ∀ k, x'.at k → x.at k ∨ W.heap.size ≤ k) : Ks W' b (X.set i x') := by
  have hlen := (List.getElem?_eq_some_iff.1 hi).1
  have get : ∀ (j : Nat) y, (X.set i x')[j]? = some y → (j = i ∧ y = x') ∨ (j ≠ i ∧ X[j]? = some y) := fun j y hj => by
    by_cases e : i = j
    · subst e
      rw [List.getElem?_set_self hlen] at hj
      cases hj
      exact .inl ⟨rfl, rfl⟩
    · rw [List.getElem?_set_ne e] at hj
      exact .inr ⟨fun e' => e e'.symm, hj⟩
  refine ⟨fun j y hj => ?_, fun j k y z hj hk' hne q hq hq2 => ?_⟩
  · rcases get j y hj with ⟨rfl, rfl⟩ | ⟨hne, hy⟩
    · exact hx'
    · exact (h.ok j y hy).kept hk (fun q hq => fun e => h.apart j i y x hy hi hne q hq e)
  · rcases get j y hj with ⟨rfl, rfl⟩ | ⟨hn1, hy⟩ <;> rcases get k z hk' with ⟨rfl, rfl⟩ | ⟨hn2, hz⟩
    · exact hne rfl
    · rcases hat q hq with e | e
      · exact h.apart _ _ x z hi hz (fun e => hn2 e.symm) q e hq2
      · have := (h.ok _ z hz).lt hq2; omega
    · rcases hat q hq2 with e | e
      · exact h.apart _ _ y x hy hi hn1 q hq e
      · have := (h.ok _ y hy).lt hq; omega
    · exact h.apart _ _ y z hy hz hne q hq hq2
theorem Ks.push {W W' : World} {b : Nat} {X : List It} (h : Ks W b X) {x : It} (hk : Kept No W W') (hx : ItOk W' b x) (hat : ∀ k, x.at k → W.heap.size ≤ k) : Ks W' b (X ++ [x]) := by
  have get : ∀ (j : Nat) y, (X ++ [x])[j]? = some y → (j = X.length ∧ y = x) ∨ (j < X.length ∧ X[j]? = some y) := fun j y hj => by
    rw [List.getElem?_append] at hj
    split at hj
    · rename_i e; exact .inr ⟨e, hj⟩
    · rename_i e
      have hj' := (List.getElem?_eq_some_iff.1 hj)
      obtain ⟨hlt, he⟩ := hj'
      have h0 : j - X.length = 0 := by simpa using hlt
      refine .inl ⟨by omega, ?_⟩
      simp [h0] at he
      exact he.symm
  refine ⟨fun j y hj => ?_, fun j k y z hj hk' hne q hq hq2 => ?_⟩
  · rcases get j y hj with ⟨rfl, rfl⟩ | ⟨_, hy⟩
    · exact hx
    · exact (h.ok j y hy).kept hk (fun _ _ e => e)
  · rcases get j y hj with ⟨rfl, rfl⟩ | ⟨hn1, hy⟩ <;> rcases get k z hk' with ⟨rfl, rfl⟩ | ⟨hn2, hz⟩
    · exact hne rfl
    · have h1 := hat q hq; have h2 := (h.ok _ z hz).lt hq2; omega
    · have h1 := hat q hq2; have h2 := (h.ok _ y hy).lt hq; omega
    · exact h.apart _ _ y z hy hz hne q hq hq2
theorem Ks.nil (W : World) (b : Nat) : Ks W b [] := ⟨fun i x hx => by simp at hx, fun i j x y hx => by simp at hx⟩
/-- One of them is written over. -/
theorem ItOk.store {W : World} {b : Nat} {x : It} (h : ItOk W b x) (h2 : x.a2 = none) {j g : Nat} (hj : j < x.vs.length) (hg : x.a = some ⟨g, 0, none⟩) (s : List UInt8) :
    ∃ cs', (storeVar 9 ⟨g, 0 + j * 1, none⟩ (.string (bs s))).run Try.prog W = .ok () (W.setRow g cs') ∧ ItOk (W.setRow g cs') b { x with vs := x.vs.set j (strV s) } ∧ Kept x.at W (W.setRow g cs') := by
  obtain ⟨cs', hr, ho⟩ := h.own.set1 (i := 0 + j * 1) (g := g) (by omega) hg (v := strV s) rfl rfl S9
  rw [Nat.zero_add, Nat.mul_one] at ho
  refine ⟨cs', hr, ⟨by simpa using ho, ?_⟩, (Kept.setRow W g cs').mono (fun i _ e => .inl ⟨_, hg, (show i = g from e).symm⟩)⟩
  exact h.own2.kept (Kept.setRow W g cs') (fun k hk => by rw [h2] at hk; exact (At.none hk).elim)
/-- One of them is grown. -/
def It.link (x : It) : Prop := ((x.a2 = x.a ∧ x.c2 = x.c) ∨ ∀ k, At x.a2 k → ¬ At x.a k) ∧ x.vs <+: x.vs2
theorem ItOk.grow {W : World} {b : Nat} {x : It} (h : ItOk W b x) (hl : x.link) (g2 : Nat) (s : List UInt8) (hx : Box W g2 9 [strV s].toArray) (hbd : x.vs2.length ≤ 1000000000000) (hbase : b ≤ W.heap.size) :
    ∃ x' W', (∀ ty, (Builtin.append_ #[22, 22] ty #[x.v2, .slice (some ⟨g2, 0, none⟩) 1 1]).run Try.prog W = .ok x'.v2 W') ∧ x'.v = x.v ∧ x'.vs = x.vs ∧ x'.vs2 = x.vs2 ++ [strV s] ∧ ItOk W' b x' ∧ x'.link ∧ Kept x.at W W' ∧ (∀ k, x'.at k → x.at k ∨ W.heap.size ≤ k) := by
  obtain ⟨a', c', W', hrun, ho, hc⟩ := run_appD h.own2 g2 s hx hbd hbase
  have hp : x.vs <+: x.vs2 ++ [strV s] := hl.2.trans (List.prefix_append _ _)
  have hlen : (x.vs2 ++ [strV s]).length = x.vs2.length + 1 := by simp
  refine ⟨{ x with a2 := a', c2 := c', vs2 := x.vs2 ++ [strV s] }, W', ?_, rfl, rfl, rfl, ?_⟩
  · intro ty
    rw [show ({ x with a2 := a', c2 := c', vs2 := x.vs2 ++ [strV s] } : It).v2 = .slice a' (x.vs2.length + 1) c' by unfold It.v2; rw [hlen]]
    exact hrun ty
  rcases hc with ⟨rfl, rfl, hk⟩ | ⟨hf, hk⟩
  · have hk' : Kept x.at W W' := hk.mono (fun i _ e => .inr e)
    have hat : ∀ k, ({ x with a2 := x.a2, c2 := x.c2, vs2 := x.vs2 ++ [strV s] } : It).at k → x.at k ∨ W.heap.size ≤ k := fun k e => .inl e
    rcases hl.1 with ⟨e1, e2⟩ | hap
    · refine ⟨⟨?_, by rw [hlen]; exact ho⟩, ⟨.inl ⟨e1, e2⟩, hp⟩, hk', hat⟩
      have hf := Own.front ho hp
      show Own 9 1 W' b x.a x.c x.vs.length x.vs
      rw [← e1, ← e2]
      have e3 : (if x.a2 = none then 0 else x.c2) = x.c2 := by
        split
        · rename_i e; exact (own_cap (e ▸ ho)).symm
        · rfl
      rw [e3] at hf
      exact hf
    · exact ⟨⟨h.own.kept hk (fun k e e' => hap k e' e), by rw [hlen]; exact ho⟩, ⟨.inr hap, hp⟩, hk', hat⟩
  · refine ⟨⟨h.own.no hk, by rw [hlen]; exact ho⟩, ⟨.inr (fun k e e' => by have h1 := hf k e; have h2 := h.own.lt e'; omega), hp⟩, hk.of_no, fun k e => ?_⟩
    rcases e with e | e
    · exact .inl (.inl e)
    · exact .inr (hf k e)
def dgt (k : Nat) : UInt8 := UInt8.ofNat (48 + k)
def mkF : Nat → Nat → List UInt8
  | 0, n => []
  | f + 1, n => if n < 10 then [dgt n] else mkF f (n / 10) ++ [dgt (n % 10)]
theorem mkF_len : ∀ f n, (mkF f n).length ≤ f
  | 0, n => Nat.le_refl _
  | f + 1, n => by
    unfold mkF
    split
    · simp
    · have := mkF_len f (n / 10)
      simp
      omega
end Go.Proofs.Ytgnfeegnhdbnkaa
