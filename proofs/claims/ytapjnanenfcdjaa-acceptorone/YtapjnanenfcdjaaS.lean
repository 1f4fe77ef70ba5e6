import Derived.Test.YtapjnanenfcdjaaC
namespace Go.Proofs.Ytapjnanenfcdjaa
open Go.RowKit
set_option linter.unusedVariables false
set_option linter.unusedSimpArgs false

/-- A proposal; a play. -/
structure Pv where
  b : Sp
  pr : List Int
  h : Sp
  c : Cm
  ch : Bool
  ac : List Int
structure PS where
  f : Nat
  is : List In
  ls : List Pv
  dec : Cm
def LT (a b : Sp) : Prop := a.n < b.n ∨ (a.n = b.n ∧ a.c < b.c)
theorem lt_iff {a b : Sp} : lt a b = true ↔ LT a b := by simp [lt, lessB, LT]
theorem lt_not {a b : Sp} : lt a b = false ↔ ¬ LT a b := by rw [← lt_iff]; simp
def One (s : Sp) : Prop := 1 ≤ s.n ∧ 1 ≤ s.c ∧ s.c ≤ 255
def Le (a b : Sp) : Prop := ¬ LT b a
theorem Le.refl (a : Sp) : Le a a := by unfold Le LT; omega
theorem Le.trans {a b c : Sp} (h : Le a b) (k : Le b c) : Le a c := by unfold Le LT at *; omega
theorem Le.of_lt {a b : Sp} (h : LT a b) : Le a b := by unfold Le LT at *; omega
theorem Le.lt_of_ne {a b : Sp} (h : Le a b) (k : a ≠ b) : LT a b := by
  cases a; cases b
  simp only [Le, LT, ne_eq, Sp.mk.injEq] at *
  omega
theorem LT.not_le {a b : Sp} (h : LT a b) (k : Le b a) : False := k h

/-- A row with one place laid anew. -/
theorem get_set {α : Type} {l : List α} {k j : Nat} {x y : α} (h : (l.set k x)[j]? = some y) : (j = k ∧ y = x) ∨ (j ≠ k ∧ l[j]? = some y) := by
  rw [List.getElem?_set] at h
  by_cases e : k = j
  · rw [if_pos e] at h
    split at h
    · exact .inl ⟨e.symm, by cases h; rfl⟩
    · cases h
  · rw [if_neg e] at h
    exact .inr ⟨fun q => e q.symm, h⟩
theorem set_get {α : Type} {l : List α} {k j : Nat} {x y : α} (h : l[j]? = some y) (hn : j ≠ k) : (l.set k x)[j]? = some y := by
  rw [List.getElem?_set, if_neg (fun e => hn e.symm)]; exact h
theorem set_here {α : Type} {l : List α} {k : Nat} {x y : α} (h : l[k]? = some y) : (l.set k x)[k]? = some x := by
  have := (List.getElem?_eq_some_iff.1 h).1
  simp [this]

structure PrOk (f : Nat) (x : Pv) : Prop where
  one : One x.b
  nd : x.pr.Nodup
  na : x.ac.Nodup
  bp : ∀ s ∈ x.pr, 0 ≤ s ∧ s < 2 * f + 1
  ba : ∀ s ∈ x.ac, 0 ≤ s ∧ s < 2 * f + 1
  le : x.pr.length ≤ f + 1
  ch : x.ch = true ↔ x.pr.length = f + 1
  un : x.ch = false → x.ac = []
  kd : x.c.k = 4
/-- What a server has promised and accepted, held against the proposals. -/
structure InOk (ls : List Pv) (s : Nat) (i : In) : Prop where
  acc : i.a = sZ ∨ ∃ (j : Nat) (y : Pv), ls[j]? = some y ∧ y.b = i.a ∧ (s : Int) ∈ y.ac ∧ i.c = y.c
  ap : Le i.a i.p
  top : ∀ (j : Nat) (y : Pv), ls[j]? = some y → (s : Int) ∈ y.ac → Le y.b i.a
  pro : ∀ (j : Nat) (y : Pv), ls[j]? = some y → (s : Int) ∈ y.pr → Le y.b i.p
structure Inv (st : PS) : Prop where
  len : st.is.length = 2 * st.f + 1
  ok : ∀ (k : Nat) (x : Pv), st.ls[k]? = some x → PrOk st.f x
  un : ∀ (k j : Nat) (x y : Pv), st.ls[k]? = some x → st.ls[j]? = some y → x.b = y.b → k = j
  ins : ∀ (s : Nat) (i : In), st.is[s]? = some i → i.d = false → InOk st.ls s i
  held : ∀ (k : Nat) (x : Pv), st.ls[k]? = some x → x.h = sZ ∨ ∃ (j : Nat) (y : Pv), st.ls[j]? = some y ∧ y.b = x.h ∧ LT x.h x.b ∧ x.c = y.c ∧ y.ch = true
  cov : ∀ (k : Nat) (x : Pv), st.ls[k]? = some x → ∀ s ∈ x.pr, ∀ (j : Nat) (y : Pv), st.ls[j]? = some y → s ∈ y.ac → LT y.b x.b → Le y.b x.h
  dec : (st.dec.k = 0 ∧ ∀ (j : Nat) (y : Pv), st.ls[j]? = some y → y.ac.length < st.f + 1) ∨ (st.dec.k = 4 ∧ ∃ (j : Nat) (y : Pv), st.ls[j]? = some y ∧ st.f + 1 ≤ y.ac.length ∧ y.c = st.dec)
  kn : ∀ (s : Nat) (i : In), st.is[s]? = some i → i.d = true → i.c = st.dec ∧ st.dec.k = 4

theorem nodup_le {n : Nat} : ∀ (l : List Int), l.Nodup → (∀ s ∈ l, 0 ≤ s ∧ s < (n : Int)) → l.length ≤ n := by
  induction n with
  | zero =>
    intro l _ hb
    cases l with
    | nil => simp
    | cons a l => have := hb a (by simp); omega
  | succ n ih =>
    intro l hn hb
    have h1 := ih (l.erase (n : Int)) (hn.erase _) (fun s hs => by
      have hm := hn.mem_erase_iff.1 hs
      have := hb s hm.2
      have := hm.1
      omega)
    have h2 : l.length ≤ (l.erase (n : Int)).length + 1 := by
      rw [List.length_erase]; split <;> omega
    omega
/-- Two majorities share a server. -/
theorem meets {f : Nat} {a b : List Int} (ha : a.Nodup) (hb : b.Nodup) (ra : ∀ s ∈ a, 0 ≤ s ∧ s < 2 * (f : Int) + 1) (rb : ∀ s ∈ b, 0 ≤ s ∧ s < 2 * (f : Int) + 1) (la : f + 1 ≤ a.length) (lb : f + 1 ≤ b.length) : ∃ s, s ∈ a ∧ s ∈ b := by
  by_cases h : ∃ s, s ∈ a ∧ s ∈ b
  · exact h
  · exfalso
    have hd : (a ++ b).Nodup := by
      rw [List.nodup_append]
      exact ⟨ha, hb, fun x hx y hy e => h ⟨x, hx, by rw [e]; exact hy⟩⟩
    have := nodup_le (n := 2 * f + 1) (a ++ b) hd (fun s hs => by
      rcases List.mem_append.1 hs with e | e
      · have := ra s e; omega
      · have := rb s e; omega)
    rw [List.length_append] at this
    omega
theorem Inv.chosen {st : PS} (h : Inv st) {j : Nat} {y : Pv} (hy : st.ls[j]? = some y) {s : Int} (hs : s ∈ y.ac) : y.ch = true := by
  cases e : y.ch
  · rw [(h.ok j y hy).un e] at hs; cases hs
  · rfl
/-- What a majority has accepted is chosen by every greater ballot. -/
theorem Inv.safe {st : PS} (h : Inv st) {j : Nat} {y : Pv} (hy : st.ls[j]? = some y) (hm : st.f + 1 ≤ y.ac.length) :
    ∀ (n k : Nat) (x : Pv), st.ls[k]? = some x → x.ch = true → LT y.b x.b → (x.b.n * 256 + x.b.c).toNat ≤ n → x.c = y.c := by
  intro n
  induction n with
  | zero =>
    intro k x hx _ _ hn
    have := (h.ok k x hx).one
    unfold One at this
    omega
  | succ n ih =>
    intro k x hx hc hlt hn
    have ox := h.ok k x hx
    have oy := h.ok j y hy
    obtain ⟨s, s1, s2⟩ := meets ox.nd oy.na (fun s hs => ox.bp s hs) (fun s hs => oy.ba s hs) (by rw [ox.ch.1 hc]; omega) hm
    have hle := h.cov k x hx s s1 j y hy s2 hlt
    rcases h.held k x hx with e | ⟨i, z, hz, zb, hzb, zc, zch⟩
    · exfalso
      rw [e] at hle
      have := oy.one
      unfold Le LT sZ at hle
      unfold One at this
      simp only [] at hle
      omega
    · rw [zc]
      by_cases he : y.b = z.b
      · have := h.un j i y z hy hz he
        subst this
        rw [hy] at hz
        cases hz
        rfl
      · refine ih i z hz zch ?_ ?_
        · refine Le.lt_of_ne ?_ he
          rw [zb]; exact hle
        · have := (h.ok i z hz).one
          rw [← zb] at hzb
          have ho := ox.one
          unfold LT at hzb
          unfold One at this ho
          omega
theorem Inv.same {st : PS} (h : Inv st) {j k : Nat} {x y : Pv} (hy : st.ls[j]? = some y) (hx : st.ls[k]? = some x) (my : st.f + 1 ≤ y.ac.length) (mx : st.f + 1 ≤ x.ac.length) : x.c = y.c := by
  have chx : x.ch = true := by
    cases e : x.ch
    · rw [(h.ok k x hx).un e] at mx; simp at mx
    · rfl
  have chy : y.ch = true := by
    cases e : y.ch
    · rw [(h.ok j y hy).un e] at my; simp at my
    · rfl
  by_cases he : y.b = x.b
  · have := h.un j k y x hy hx he
    subst this
    rw [hx] at hy
    cases hy
    rfl
  · by_cases hl : LT y.b x.b
    · exact h.safe hy my _ k x hx chx hl (Nat.le_refl _)
    · have : LT x.b y.b := Le.lt_of_ne (show Le x.b y.b from hl) (fun e => he e.symm)
      exact (h.safe hx mx _ j y hy chy this (Nat.le_refl _)).symm

end Go.Proofs.Ytapjnanenfcdjaa
