import Derived.Test.YtpapbleabjpbfabE
import Derived.ArgAppend
import Derived.OwnWalk
import Derived.Laws.AppendOwnNone
namespace Go.Proofs.Ytpapbleabjpbfab
open Go.RowKit
set_option linter.unusedVariables false
set_option linter.unusedSimpArgs false

theorem Own.lt {t : TypeId} {c : Nat} {w : World} {base : Nat} {a : Option Addr} {cap n : Nat} {vs : List Value} (h : Own t c w base a cap n vs) {k : Nat} (hk : At a k) : k < w.heap.size := by
  obtain ⟨ad, e, rfl⟩ := hk
  rcases h.2 with ⟨hv, _⟩ | ⟨g, cap', cur, hv, hb, hg, _⟩
  · simp only [Value.slice.injEq] at hv; rw [hv.1] at e; cases e
  · simp only [Value.slice.injEq] at hv; rw [hv.1] at e; cases e; exact (Array.getElem?_eq_some_iff.1 hg).1
theorem Own.typ {t : TypeId} {c : Nat} {w : World} {base : Nat} {a : Option Addr} {cap n : Nat} {vs : List Value} (h : Own t c w base a cap n vs) {k : Nat} (hk : At a k) : ∃ cur, w.heap[k]? = some (.cells cur t (0, 0)) := by
  obtain ⟨ad, e, rfl⟩ := hk
  rcases h.2 with ⟨hv, _⟩ | ⟨g, cap', cur, hv, hb, hg, _⟩
  · simp only [Value.slice.injEq] at hv; rw [hv.1] at e; cases e
  · simp only [Value.slice.injEq] at hv; rw [hv.1] at e; cases e; exact ⟨cur, hg⟩
theorem Own.nil0 (t : TypeId) (c : Nat) (w : World) (base : Nat) : Own t c w base none 0 0 [] := World.ownsRow_nil _ _ _ _
theorem Own.sm {t : TypeId} {c : Nat} {w : World} {base : Nat} {a : Option Addr} {cap n : Nat} {vs : List Value} (h : Own t c w base a cap n vs) (h0 : 0 < n) : ∃ g, a = some ⟨g, 0, none⟩ := by
  rcases h.2 with ⟨hv, hn⟩ | ⟨g, cap', cur, hv, _⟩
  · omega
  · simp only [Value.slice.injEq] at hv; exact ⟨g, hv.1⟩
theorem typ_ne {w : World} {k : Nat} {cur cur' : Array Value} {t t' : TypeId} {fr fr' : Nat × Nat} (h : w.heap[k]? = some (.cells cur t fr)) (h' : w.heap[k]? = some (.cells cur' t' fr')) (hne : t ≠ t') : False := by
  rw [h] at h'; cases h'; exact hne rfl

namespace Gx
theorem own_sl {w : World} {base : Nat} {t : TypeId} {c : Nat} {v : Value} {n : Nat} {vs : List Value} (h : w.ownsRow base t c v n vs) : ∃ a cap, v = .slice a n cap := by
  rcases h.2 with ⟨e, e0⟩ | ⟨g, cap', cur, e, _⟩
  · subst e0; exact ⟨_, _, e⟩
  · exact ⟨_, _, e⟩
/-- append(s, x...): s the call's own, x whatever; in its place, or moved while nothing else has turned. -/
theorem wp_appN {P : Program} (w : World) {ops : Array Oper} {rest : List Oper} {o : Oper} {a : Act} {Q : Exit → Act → World → Prop}
    (t e : TypeId) (z : Value) (size bytes : Nat) (ht : P.underlying t = some (.slice e)) (he : (P.info? e).map (fun i => (i.zero, i.size, i.bytes)) = some (some z, size, bytes)) (hz : z.cells.size = size) (hsz : 0 < size)
    (hgd : o.guard = Option.none) (s x : Operand) (ho : o.op = .call { callee := .builtin .append, args := #[s, x], argTypes := #[t, t] })
    (base : Nat) (sa : Option Addr) (sn sc : Nat) (xs : List Value) (hs : a.eval s = .slice sa sn sc) (hown : Own e size w base sa sc sn xs)
    (ad : Addr) (xn xc : Nat) (news : List Value) (hx : a.eval x = .slice (some ad) xn xc) (hxn : news.length = xn * size)
    (hc : ∀ (j : Nat) u, news[j]? = some u → w.cell? (ad.add j) = some u) (h1c : ∀ u ∈ news, u.oneCell' = true)
    (hlen : sn + xn ≤ 140737488355328) (hby : (sn + xn) * bytes ≤ 140737488355328) (hbase : base ≤ w.heap.size)
    (h : ∀ a' c' w', Hid (Own e size w' base a' c' (sn + xn) (xs ++ news)) → Hid ((a' = sa ∧ c' = sc ∧ Kept (At sa) w w') ∨ ((∀ k, At a' k → w.heap.size ≤ k) ∧ Kept No w w')) → wpList P ops Q rest (a.put o.dst (.slice a' (sn + xn) c')) w') :
    wpList P ops Q (o :: rest) a w := by
  obtain ⟨i0, hi, hz0, hz1, hz2⟩ := info_parts he
  have fin : ∀ v' w', w'.ownsRow w.heap.size e size v' (sn + xn) (xs ++ news) → Kept No w w' → wpList P ops Q rest (a.put o.dst v') w' := by
    intro v' w' hown' hk
    obtain ⟨a', c', rfl⟩ := own_sl hown'
    refine h a' c' w' ⟨hown'.1, ?_⟩ (.inr ⟨fun k hk' => Own.base (show Own e size w' w.heap.size a' c' (sn + xn) (xs ++ news) from hown') hk', hk⟩)
    rcases hown'.2 with hl' | ⟨g, cap', cur, e1, e2, e3⟩
    · exact .inl hl'
    · exact .inr ⟨g, cap', cur, e1, by omega, e3⟩
  rcases hown.2 with ⟨hv, hn0⟩ | ⟨g, cap', cur, hv, hb, hg, hl, hm, hcs, htk⟩
  · simp only [Value.slice.injEq] at hv
    obtain ⟨rfl, rfl, rfl⟩ := hv
    have hxs : xs = [] := List.eq_nil_of_length_eq_zero (by have := hown.1; simpa using this)
    subst hxs
    refine wpList_append_own _ hgd s x t ho w.heap.size e i0 z size bytes ht hi hz0 hz1 hz2 hz hsz _ 0 [] hs (World.ownsRow_nil _ _ _ _) ad xn xc news hx hxn hc h1c (by unfold maxLen; omega) hby (Nat.le_refl _) ?_
    intro v' w' hown' hgrow _
    exact fin v' w' hown' ((Kept.refl _ _).grown hgrow (fun k e _ => by simp [Value.ownBlock] at e))
  · simp only [Value.slice.injEq] at hv
    obtain ⟨rfl, -, rfl⟩ := hv
    by_cases hfit : sn + xn ≤ sc
    · refine wpList_append_fits_any _ hgd s x t ho base e i0 size ht hi hz1 g sn sc xs hs hown (some ad) xn xc news hx hxn (fun e => by cases e) (fun ad' e => by cases e; exact hc) h1c hfit ?_
      intro w' hown' hgrow
      exact h _ _ w' hown' (.inl ⟨rfl, rfl, (Kept.refl _ _).grown hgrow (fun k e _ => by cases e; exact ⟨_, rfl, rfl⟩)⟩)
    · refine wpList_append_grows _ hgd s x t ho e i0 z size bytes ht hi hz0 hz1 hz2 hz hsz (some ⟨g, 0, none⟩) sn sc xs hs (fun e => by cases e) hown.1 ?_ ad xn xc news hx hxn hc h1c (by omega) (by unfold maxLen; omega) hby ?_
      · intro b eb j u hu
        cases eb
        exact World.ownsRow.cells hown (by rfl) j u hu
      · intro v' w' hown' hgrow
        exact fin v' w' hown' (kept_grown hgrow)

/-- A list of ints of one's own. -/
def OwI (w : World) (lo : Nat) (a : Option Addr) (c : Nat) (zs : List Int) : Prop := Own 3 1 w lo a c zs.length (zs.map (Value.int .i64))
section
variable {w w' : World} {lo : Nat} {a : Option Addr} {c : Nat} {zs xs ys : List Int}
theorem OwI.kept {S : Nat → Prop} (h : OwI w lo a c zs) (hk : Kept S w w') (hS : ∀ k, At a k → ¬ S k) : OwI w' lo a c zs := Own.kept h hk hS
theorem OwI.no (h : OwI w lo a c zs) (hk : Kept No w w') : OwI w' lo a c zs := Own.no h hk
theorem OwI.lt (h : OwI w lo a c zs) {q : Nat} (hq : At a q) : q < w.heap.size := Own.lt h hq
theorem OwI.typ (h : OwI w lo a c zs) {k : Nat} (hk : At a k) : ∃ cur, w.heap[k]? = some (.cells cur 3 (0, 0)) := Own.typ h hk
theorem OwI.sm (h : OwI w lo a c zs) (h0 : 0 < zs.length) : ∃ g, a = some ⟨g, 0, none⟩ := Own.sm h h0
theorem OwI.nums (h : OwI w lo a c zs) : Nums .i64 w a zs := Own.nums h rfl
theorem OwI.row2 {g : Nat} (h : OwI w lo (some ⟨g, 0, none⟩) c zs) (j : Nat) (hj : j < zs.length) : w.cell? ⟨g, j, none⟩ = some (.int .i64 (zs[j]?.getD 0)) ∧ w.frozen? ⟨g, j, none⟩ = false := by
  refine ⟨?_, World.ownsRow.frozenAt h j⟩
  rw [World.ownsRow.cellAt h j (by omega)]
  simp [hj]
theorem OwI.set2 {g : Nat} (h : OwI w lo (some ⟨g, 0, none⟩) c zs) (j : Nat) (x : Int) : OwI (w.setCell ⟨g, j, none⟩ (.int .i64 x)) lo (some ⟨g, 0, none⟩) c (zs.set j x) := by
  have := (World.ownsRow.stored h j (.int .i64 x)).1
  unfold OwI
  rw [List.length_set, List.map_set]
  exact this
/-- The front of what is owned. -/
theorem OwI.front (h : OwI w lo a c (xs ++ ys)) : OwI w lo a c xs := by
  rcases h.2 with ⟨hv, h0⟩ | ⟨g, cap', cur, hv, hb, hg, hl, hm, hcs, htk⟩
  · simp only [Value.slice.injEq] at hv
    have : xs = [] := List.eq_nil_of_length_eq_zero (by rw [List.length_append] at h0; omega)
    subst this
    rw [hv.1, hv.2.2]
    exact Own.nil0 _ _ _ _
  · refine ⟨by simp, .inr ⟨g, cap', cur, ?_, hb, hg, ?_, hm, hcs, ?_⟩⟩
    · simp only [Value.slice.injEq] at hv ⊢
      exact ⟨hv.1, trivial, hv.2.2⟩
    · rw [List.length_append] at hl; omega
    · rw [Nat.mul_one] at htk ⊢
      have := congrArg (List.take xs.length) htk
      rw [List.take_take, List.map_append, List.take_left' (by simp)] at this
      rw [List.length_append, Nat.min_eq_left (by omega)] at this
      exact this
end
/-- A list that was told. -/
structure Ent where
  a : Option Addr
  l : Nat
  c : Nat
def entV (e : Ent) : Value := .slice e.a e.l e.c
def EB (K : List Ent) : Nat → Prop := fun k => ∃ e ∈ K, At e.a k
/-- Such in a row, each owned, no two in one block; what they hold. -/
structure Erow (w : World) (lo : Nat) (K : List Ent) (Z : Nat → List Int) : Prop where
  ok : ∀ (i : Nat) (e : Ent), K[i]? = some e → (Z i).length = e.l ∧ OwI w lo e.a e.c (Z i) ∧ e.l ≤ 1000000
  dis : ∀ (i j : Nat) (e f : Ent) (g : Nat), K[i]? = some e → K[j]? = some f → At e.a g → At f.a g → i = j
section
variable {S : Nat → Prop} {w w' : World} {lo : Nat} {K : List Ent} {Z : Nat → List Int}
theorem Erow.kept (h : Erow w lo K Z) (hk : Kept S w w') (hS : ∀ k, EB K k → ¬ S k) : Erow w' lo K Z :=
  ⟨fun i e he => ⟨(h.ok i e he).1, (h.ok i e he).2.1.kept hk (fun k hk => hS k ⟨e, List.mem_of_getElem? he, hk⟩), (h.ok i e he).2.2⟩, h.dis⟩
theorem Erow.no (h : Erow w lo K Z) (hk : Kept No w w') : Erow w' lo K Z := h.kept hk (fun _ _ e => e)
theorem Erow.low (h : Erow w lo K Z) {k : Nat} (hk : EB K k) : lo ≤ k ∧ k < w.heap.size ∧ ∃ cur, w.heap[k]? = some (.cells cur 3 (0, 0)) := by
  obtain ⟨e, he, ha⟩ := hk
  obtain ⟨i, hi⟩ := List.mem_iff_getElem?.1 he
  have := (h.ok i e hi).2.1
  exact ⟨Own.base this ha, this.lt ha, this.typ ha⟩
theorem Erow.nil (w : World) (lo : Nat) (Z : Nat → List Int) : Erow w lo [] Z := ⟨fun i e h => by simp at h, fun i j e f g h => by simp at h⟩
/-- One more, new. -/
theorem Erow.add (h : Erow w lo K Z) {e : Ent} {zs : List Int} (hl : zs.length = e.l) (ho : OwI w lo e.a e.c zs) (hb : e.l ≤ 1000000) (hn : ∀ k, At e.a k → ¬ EB K k) :
    Erow w lo (K ++ [e]) (fun i => if i = K.length then zs else Z i) := by
  have key : ∀ i f, (K ++ [e])[i]? = some f → (i < K.length ∧ K[i]? = some f) ∨ (i = K.length ∧ f = e) := by
    intro i f hf
    by_cases hi : i < K.length
    · rw [List.getElem?_append_left hi] at hf; exact .inl ⟨hi, hf⟩
    · rw [List.getElem?_append_right (by omega)] at hf
      have h0 : i - K.length = 0 := by have := (List.getElem?_eq_some_iff.1 hf).1; simp at this; omega
      rw [h0] at hf
      simp at hf
      exact .inr ⟨by omega, hf.symm⟩
  refine ⟨fun i f hf => ?_, fun i j f f' g hi hj hg hg' => ?_⟩
  · rcases key i f hf with ⟨hi, hf⟩ | ⟨rfl, rfl⟩
    · simp only [if_neg (show ¬ i = K.length by omega)]; exact h.ok i f hf
    · simp only [if_true]; exact ⟨hl, ho, hb⟩
  · rcases key i f hi with ⟨h1, h2⟩ | ⟨h1, h2⟩ <;> rcases key j f' hj with ⟨h3, h4⟩ | ⟨h3, h4⟩
    · exact h.dis i j f f' g h2 h4 hg hg'
    · subst h4; exact absurd ⟨f, List.mem_of_getElem? h2, hg⟩ (hn g hg')
    · subst h2; exact absurd ⟨f', List.mem_of_getElem? h4, hg'⟩ (hn g hg)
    · omega
/-- One number of one of them. -/
theorem Erow.set (h : Erow w lo K Z) {i j g : Nat} {e : Ent} (he : K[i]? = some e) (ha : e.a = some ⟨g, 0, none⟩) (x : Int) :
    Erow (w.setCell ⟨g, j, none⟩ (.int .i64 x)) lo K (fun q => if q = i then (Z i).set j x else Z q) := by
  refine ⟨fun q f hf => ?_, h.dis⟩
  by_cases hq : q = i
  · subst hq
    rw [he] at hf
    cases hf
    simp only [if_true, List.length_set]
    have h1 := (h.ok q e he)
    refine ⟨h1.1, ?_, h1.2.2⟩
    rw [ha] at h1 ⊢
    exact h1.2.1.set2 j x
  · simp only [if_neg hq]
    have h1 := h.ok q f hf
    refine ⟨h1.1, h1.2.1.kept ((Kept.refl (Only g) w).setCell (p := ⟨g, j, none⟩) (fun _ => (rfl : g = g)) _) (fun k hk eo => hq ?_), h1.2.2⟩
    have eo' : k = g := eo
    subst eo'
    exact h.dis q i f e k hf he hk ⟨_, ha, rfl⟩
end
/-- A row of them in memory. -/
def Rw (w : World) (base : Nat) (ra : Option Addr) (rc : Nat) (K : List Ent) : Prop := Own 22 1 w base ra rc K.length (K.map entV)
section
variable {S : Nat → Prop} {w w' : World} {base : Nat} {a : Option Addr} {c : Nat} {K L : List Ent}
theorem Rw.kept (h : Rw w base a c K) (hk : Kept S w w') (hS : ∀ k, At a k → ¬ S k) : Rw w' base a c K := Own.kept h hk hS
theorem Rw.no (h : Rw w base a c K) (hk : Kept No w w') : Rw w' base a c K := Own.no h hk
theorem Rw.nil (w : World) (base : Nat) : Rw w base none 0 [] := Own.nil0 _ _ _ _
theorem Rw.at (h : Rw w base a c K) {i : Nat} {e : Ent} (he : K[i]? = some e) : ∃ g, a = some ⟨g, 0, none⟩ ∧ w.cell? ⟨g, i, none⟩ = some (entV e) ∧ w.frozen? ⟨g, i, none⟩ = false := by
  have hi := (List.getElem?_eq_some_iff.1 he).1
  obtain ⟨g, rfl⟩ := Own.sm h (by omega)
  refine ⟨g, rfl, ?_, World.ownsRow.frozenAt h i⟩
  rw [World.ownsRow.cellAt h _ (by omega)]
  simp [he]
theorem Rw.bs (h : Rw w base a c K) {k : Nat} (hk : At a k) : base ≤ k := Own.base h hk
theorem Rw.typ (h : Rw w base a c K) {k : Nat} (hk : At a k) : ∃ cur, w.heap[k]? = some (.cells cur 22 (0, 0)) := Own.typ h hk
theorem Rw.apart {lo : Nat} {Z : Nat → List Int} (h : Rw w base a c K) (hE : Erow w lo L Z) {k : Nat} (hk : At a k) : ¬ EB L k := by
  intro hb
  obtain ⟨cur, h1⟩ := h.typ hk
  obtain ⟨_, _, cur', h2⟩ := hE.low hb
  exact typ_ne h1 h2 (by decide)
theorem Rw.set {g : Nat} (h : Rw w base (some ⟨g, 0, none⟩) c K) (i : Nat) (f : Ent) : Rw (w.setCell ⟨g, i, none⟩ (entV f)) base (some ⟨g, 0, none⟩) c (K.set i f) := by
  have := (World.ownsRow.stored h i (entV f)).1
  unfold Rw
  rw [List.length_set, List.map_set]
  exact this
end
/-- The marks of list i; what is put behind. -/
def mm (i j : Nat) : Int := 1000 * (i : Int) + (j : Int)
def mr (i j : Nat) : Int := 0 - 1000 * (i : Int) - (j : Int) - 1
def marksOf (i l : Nat) : List Int := (List.range l).map (mm i)
def growsOf (i l : Nat) : List Int := (List.range l).map (mr i)
theorem marksOf_len (i l : Nat) : (marksOf i l).length = l := by simp [marksOf]
theorem growsOf_len (i l : Nat) : (growsOf i l).length = l := by simp [growsOf]
theorem marksOf_at {i l j : Nat} (h : j < l) : (marksOf i l)[j]?.getD 0 = mm i j := by simp [marksOf, h]
theorem growsOf_at {i l j : Nat} (h : j < l) : (growsOf i l)[j]?.getD 0 = mr i j := by simp [growsOf, h]
theorem growsOf_succ (i l : Nat) : growsOf i (l + 1) = growsOf i l ++ [mr i l] := by simp [growsOf, List.range_succ]
theorem gr_len2 (i l j : Nat) : (marksOf i l ++ growsOf i j).length = l + j := by rw [List.length_append, marksOf_len, growsOf_len]
theorem take_set_marks {zs : List Int} {i j : Nat} (h : zs.take j = marksOf i j) (hj : j < zs.length) : (zs.set j (mm i j)).take (j + 1) = marksOf i (j + 1) := by
  have e : marksOf i (j + 1) = marksOf i j ++ [mm i j] := by simp [marksOf, List.range_succ]
  rw [e, ← h]
  apply List.ext_getElem?
  intro q
  simp only [List.getElem?_take, List.getElem?_set, List.getElem?_append, List.length_take]
  rw [Nat.min_eq_left (by omega)]
  by_cases h1 : q < j
  · simp [h1, show q < j + 1 by omega, show ¬ j = q by omega]
  · by_cases h2 : q = j
    · subst h2; simp [hj]
    · simp [h1, show ¬ q < j + 1 by omega, show q - j ≠ 0 by omega]
/-- The marks are laid: up to list i. -/
structure Ph1 (w wr : World) (base lo : Nat) (ra : Option Addr) (rc : Nat) (K : List Ent) (i : Nat) : Prop where
  row : Rw wr base ra rc K
  kept : Kept (EB K) w wr
  ex : ∃ Z, Erow wr lo K Z ∧ ∀ q, q < i → Z q = marksOf q (Z q).length
/-- .. and up to number j of list i. -/
structure Ph1j (w wr : World) (base lo : Nat) (ra : Option Addr) (rc : Nat) (K : List Ent) (i j : Nat) : Prop where
  row : Rw wr base ra rc K
  kept : Kept (EB K) w wr
  ex : ∃ Z, Erow wr lo K Z ∧ (∀ q, q < i → Z q = marksOf q (Z q).length) ∧ (Z i).take j = marksOf i j
section
variable {w wr w' : World} {base lo : Nat} {ra : Option Addr} {rc : Nat} {K : List Ent} {i j : Nat}
theorem Ph1.inner (h : Ph1 w wr base lo ra rc K i) : Ph1j w wr base lo ra rc K i 0 := by
  obtain ⟨h1, h2, Z, h3, h4⟩ := h
  exact ⟨h1, h2, Z, h3, h4, by simp [marksOf]⟩
theorem Ph1j.outer {e : Ent} (h : Ph1j w wr base lo ra rc K i e.l) (he : K[i]? = some e) : Ph1 w wr base lo ra rc K (i + 1) := by
  obtain ⟨h1, h2, Z, h3, h4, h5⟩ := h
  refine ⟨h1, h2, Z, h3, fun q hq => ?_⟩
  by_cases e1 : q = i
  · subst e1
    have hl := (h3.ok q e he).1
    rw [hl, ← h5, List.take_of_length_le (by omega)]
  · exact h4 q (by omega)
theorem Ph1j.cell (h : Ph1j w wr base lo ra rc K i j) {e : Ent} (he : K[i]? = some e) (hj : j < e.l) :
    ∃ g, e.a = some ⟨g, 0, none⟩ ∧ (∃ z, wr.cell? ⟨g, j, none⟩ = some (.int .i64 z)) ∧ wr.frozen? ⟨g, j, none⟩ = false := by
  obtain ⟨h1, h2, Z, h3, h4⟩ := h
  obtain ⟨hl, ho, _⟩ := h3.ok i e he
  obtain ⟨g, ha⟩ := ho.sm (by omega)
  rw [ha] at ho
  have := ho.row2 j (by omega)
  exact ⟨g, ha, ⟨_, this.1⟩, this.2⟩
theorem Ph1j.set (h : Ph1j w wr base lo ra rc K i j) {e : Ent} (he : K[i]? = some e) (hj : j < e.l) {g : Nat} (ha : e.a = some ⟨g, 0, none⟩) :
    Ph1j w (wr.setCell ⟨g, j, none⟩ (.int .i64 (mm i j))) base lo ra rc K i (j + 1) := by
  obtain ⟨h1, h2, Z, h3, h4, h5⟩ := h
  have hb : EB K g := ⟨e, List.mem_of_getElem? he, _, ha, rfl⟩
  refine ⟨h1.kept ((Kept.refl (Only g) wr).setCell (p := ⟨g, j, none⟩) (fun _ => (rfl : g = g)) _) (fun k hk eo => ?_), h2.setCell (p := ⟨g, j, none⟩) (fun _ => hb) _, _, h3.set he ha _, fun q hq => ?_, ?_⟩
  · have eo' : k = g := eo
    subst eo'
    exact h1.apart h3 hk hb
  · have : ¬ q = i := by omega
    simp only [if_neg this]
    exact h4 q hq
  · simp only [if_true]
    exact take_set_marks h5 (by rw [(h3.ok i e he).1]; exact hj)
end
/-- Lists under growth: N tells how many were put behind each. -/
structure Ph2 (w wr : World) (base lo : Nat) (ra : Option Addr) (rc : Nat) (K : List Ent) (mg mc : Nat) (M : List Ent) (N : Nat → Nat) : Prop where
  row : Rw wr base ra rc K
  kept : Kept (EB K) w wr
  more : Rw wr w.heap.size (some ⟨mg, 0, none⟩) mc M
  len : M.length = K.length
  olds : ∀ q e, K[q]? = some e → OwI wr lo e.a e.c (marksOf q e.l)
  news : ∀ q e f, K[q]? = some e → M[q]? = some f → f.l = e.l + N q ∧ OwI wr lo f.a f.c (marksOf q e.l ++ growsOf q (N q)) ∧ (f.a = e.a ∨ ∀ k, At f.a k → w.heap.size ≤ k)
  dis : ∀ (i j : Nat) (e f : Ent) (g : Nat), M[i]? = some e → M[j]? = some f → At e.a g → At f.a g → i = j
section
variable {w wr w' : World} {base lo : Nat} {ra : Option Addr} {rc : Nat} {K : List Ent} {mg mc : Nat} {M : List Ent} {N : Nat → Nat}
theorem Ph1.grow {n : Nat} (h : Ph1 w wr base lo ra rc K n) (hn : K.length = n) (hr : Own 22 1 w' w.heap.size (some ⟨mg, 0, none⟩) mc K.length (K.map entV)) (hk : Kept No wr w') : Ph2 w w' base lo ra rc K mg mc K (fun _ => 0) := by
  obtain ⟨h1, h2, Z, h3, h4⟩ := h
  have h3 := h3.no hk
  have hm : ∀ q e, K[q]? = some e → OwI w' lo e.a e.c (marksOf q e.l) := fun q e he => by
    have hq : q < n := by rw [← hn]; exact (List.getElem?_eq_some_iff.1 he).1
    have h5 := h3.ok q e he
    have h6 := h4 q hq
    rw [h5.1] at h6
    rw [← h6]
    exact h5.2.1
  refine ⟨h1.no hk, h2.then hk.of_no, hr, rfl, hm, fun q e f he hf => ?_, h3.dis⟩
  rw [he] at hf
  cases hf
  refine ⟨rfl, ?_, .inl rfl⟩
  have : growsOf q 0 = [] := rfl
  rw [this, List.append_nil]
  exact hm q e he
theorem Ph2.no (h : Ph2 w wr base lo ra rc K mg mc M N) (hk : Kept No wr w') : Ph2 w w' base lo ra rc K mg mc M N :=
  ⟨h.row.no hk, h.kept.then hk.of_no, h.more.no hk, h.len, fun q e he => (h.olds q e he).no hk, fun q e f he hf => ⟨(h.news q e f he hf).1, (h.news q e f he hf).2.1.no hk, (h.news q e f he hf).2.2⟩, h.dis⟩
theorem Ph2.to {N' : Nat → Nat} (h : Ph2 w wr base lo ra rc K mg mc M N) (hN : ∀ q, q < K.length → N' q = N q) : Ph2 w wr base lo ra rc K mg mc M N' :=
  ⟨h.row, h.kept, h.more, h.len, h.olds, fun q e f he hf => by rw [hN q (List.getElem?_eq_some_iff.1 he).1]; exact h.news q e f he hf, h.dis⟩
/-- One is put behind list i, and the row is brought up to it. -/
theorem Ph2.step {Z : Nat → List Int} (h : Ph2 w wr base lo ra rc K mg mc M N) (hE : Erow w lo K Z) (hra : ∀ k, At ra k → k < w.heap.size) {i : Nat} {e f : Ent} (he : K[i]? = some e) (hf : M[i]? = some f) {a' : Option Addr} {c' : Nat}
    (ho : OwI w' lo a' c' (marksOf i e.l ++ growsOf i (N i + 1))) (hc : (a' = f.a ∧ c' = f.c ∧ Kept (At f.a) wr w') ∨ ((∀ k, At a' k → wr.heap.size ≤ k) ∧ Kept No wr w')) :
    Ph2 w (w'.setCell ⟨mg, i, none⟩ (.slice a' (e.l + N i + 1) c')) base lo ra rc K mg mc (M.set i ⟨a', e.l + N i + 1, c'⟩) (fun q => if q = i then N i + 1 else N q) := by
  have hn := h.news i e f he hf
  have hiM : i < M.length := (List.getElem?_eq_some_iff.1 hf).1
  have hmg : w.heap.size ≤ mg := h.more.bs ⟨_, rfl, rfl⟩
  -- what the append kept
  have hk1 : Kept (At f.a) wr w' := by
    rcases hc with ⟨_, _, hk⟩ | ⟨_, hk⟩
    · exact hk
    · exact hk.of_no
  have hfE : ∀ k, At f.a k → EB K k ∨ w.heap.size ≤ k := fun k hk => by
    rcases hn.2.2 with h1 | h1
    · exact .inl ⟨e, List.mem_of_getElem? he, by rw [← h1]; exact hk⟩
    · exact .inr (h1 k hk)
  have hI : ∀ {a : Option Addr} {c : Nat} {zs : List Int} {k : Nat}, OwI wr lo a c zs → At a k → k ≠ mg := by
    intro a c zs k ho hk e1
    subst e1
    obtain ⟨c1, h1⟩ := ho.typ hk
    obtain ⟨c2, h2⟩ := h.more.typ ⟨_, rfl, rfl⟩
    exact typ_ne h1 h2 (by decide)
  have hmgf : ¬ At f.a mg := fun hk => hI hn.2.1 hk rfl
  have hset : Kept (Only mg) w' (w'.setCell ⟨mg, i, none⟩ (.slice a' (e.l + N i + 1) c')) := (Kept.refl (Only mg) w').setCell (p := ⟨mg, i, none⟩) (fun _ => (rfl : mg = mg)) _
  have ha'mg : ∀ k, At a' k → k ≠ mg := by
    intro k hk e1
    subst e1
    obtain ⟨c1, h1⟩ := ho.typ hk
    have hmore := h.more.kept hk1 (fun k hk hf' => by obtain ⟨ad, e2, rfl⟩ := hk; cases e2; exact hmgf hf')
    obtain ⟨c2, h2⟩ := hmore.typ ⟨_, rfl, rfl⟩
    exact typ_ne h1 h2 (by decide)
  have hmore := h.more.kept hk1 (fun k hk hf' => by obtain ⟨ad, e2, rfl⟩ := hk; cases e2; exact hmgf hf')
  -- where a' lies
  have ha' : ∀ k, At a' k → At f.a k ∨ wr.heap.size ≤ k := fun k hk => by
    rcases hc with ⟨h1, _, _⟩ | ⟨h1, _⟩
    · exact .inl (by rw [← h1]; exact hk)
    · exact .inr (h1 k hk)
  refine ⟨?_, ?_, hmore.set i ⟨a', e.l + N i + 1, c'⟩, by rw [List.length_set]; exact h.len, fun q e1 he1 => ?_, fun q e1 f1 he1 hf1 => ?_, fun p q e1 f1 g hp hq hg1 hg2 => ?_⟩
  · refine (h.row.kept hk1 (fun k hk hf' => ?_)).kept hset (fun k hk hm => ?_)
    · obtain ⟨c1, h1⟩ := h.row.typ hk
      obtain ⟨c2, h2⟩ := hn.2.1.typ hf'
      exact typ_ne h1 h2 (by decide)
    · have := hra k hk
      have hm' : k = mg := hm
      omega
  · refine (h.kept.trans hk1 (fun _ e => e) (fun k hkl hk => ?_)).trans hset (fun _ e => e) (fun k hkl hk => ?_)
    · rcases hfE k hk with h1 | h1
      · exact h1
      · omega
    · have hm' : k = mg := hk
      omega
  · have ho1 := h.olds q e1 he1
    by_cases hq : q = i
    · subst hq
      rw [he] at he1
      cases he1
      rcases hc with ⟨h1, h2, hk⟩ | ⟨_, hk⟩
      · rcases hn.2.2 with h3 | h3
        · -- the same block
          have h4 : OwI w' lo e.a c' (marksOf q e.l ++ growsOf q (N q + 1)) := by rw [← h3, ← h1]; exact ho
          have h5 := h4.front
          have h6 : ∀ k, At e.a k → ¬ Only mg k := fun k hk e2 => ha'mg k (by rw [h1, h3]; exact hk) e2
          by_cases hz : e.a = none
          · have h7 := ho1.kept hk (fun k hk' => by rw [hz] at hk'; exact absurd hk' At.none)
            exact h7.kept hset h6
          · -- capacity agrees
            have hcap : c' = e.c := by
              obtain ⟨g, hg⟩ : ∃ g, e.a = some ⟨g, 0, none⟩ := by
                rcases ho1.2 with ⟨hv, _⟩ | ⟨g, cap', cur, hv, _⟩
                · simp only [Value.slice.injEq] at hv; exact absurd hv.1 hz
                · simp only [Value.slice.injEq] at hv; exact ⟨g, hv.1⟩
              have hfo := hn.2.1
              rw [h3, hg] at hfo
              rw [hg] at ho1
              have q1 : e.c = f.c := by
                rcases ho1.2 with ⟨hv, _⟩ | ⟨g1, cap1, cur1, hv1, _, hg1, _, _, hs1, _⟩
                · simp at hv
                · rcases hfo.2 with ⟨hv, _⟩ | ⟨g2, cap2, cur2, hv2, _, hg2, _, _, hs2, _⟩
                  · simp at hv
                  · simp only [Value.slice.injEq, Option.some.injEq, Addr.mk.injEq] at hv1 hv2
                    obtain ⟨⟨rfl, -, -⟩, -, rfl⟩ := hv1
                    obtain ⟨⟨rfl, -, -⟩, -, rfl⟩ := hv2
                    rw [hg1] at hg2
                    cases hg2
                    omega
              rw [h2, q1]
            rw [hcap] at h5
            exact h5.kept hset h6
        · exact (ho1.kept hk (fun k hk' hf' => by
            have := h3 k hf'
            have := (hE.low ⟨e, List.mem_of_getElem? he, hk'⟩).2.1
            omega)).kept hset (fun k hk' e2 => hI ho1 hk' e2)
      · exact (ho1.no hk).kept hset (fun k hk' e2 => hI ho1 hk' e2)
    · refine (ho1.kept hk1 (fun k hk' hf' => ?_)).kept hset (fun k hk' e2 => hI ho1 hk' e2)
      rcases hn.2.2 with h1 | h1
      · rw [h1] at hf'
        exact hq (hE.dis q i e1 e k he1 he hk' hf')
      · have := h1 k hf'
        have := (hE.low ⟨e1, List.mem_of_getElem? he1, hk'⟩).2.1
        omega
  · by_cases hq : q = i
    · subst hq
      rw [he] at he1
      cases he1
      rw [List.getElem?_set_self hiM] at hf1
      cases hf1
      simp only [if_true]
      refine ⟨by omega, ho.kept hset (fun k hk e2 => ha'mg k hk e2), ?_⟩
      rcases hc with ⟨h1, _, _⟩ | ⟨h1, hk⟩
      · rcases hn.2.2 with h3 | h3
        · exact .inl (h1.trans h3)
        · exact .inr (fun k hk => h3 k (by rw [← h1]; exact hk))
      · exact .inr (fun k hk' => Nat.le_trans h.kept.size (h1 k hk'))
    · rw [List.getElem?_set_ne (fun e => hq e.symm)] at hf1
      simp only [if_neg hq]
      have h1 := h.news q e1 f1 he1 hf1
      exact ⟨h1.1, (h1.2.1.kept hk1 (fun k hk hf' => hq (h.dis q i f1 f k hf1 hf hk hf'))).kept hset (fun k hk e2 => hI h1.2.1 hk e2), h1.2.2⟩
  · have cs : ∀ p e1, (M.set i ⟨a', e.l + N i + 1, c'⟩)[p]? = some e1 → (p = i ∧ e1 = ⟨a', e.l + N i + 1, c'⟩) ∨ (p ≠ i ∧ M[p]? = some e1) := by
      intro p e1 hp
      by_cases hpi : p = i
      · subst hpi
        rw [List.getElem?_set_self hiM] at hp
        cases hp
        exact .inl ⟨rfl, rfl⟩
      · rw [List.getElem?_set_ne (fun e => hpi e.symm)] at hp
        exact .inr ⟨hpi, hp⟩
    have old : ∀ q f1, M[q]? = some f1 → ∀ g, At f1.a g → At a' g → q = i := fun q f1 hq g hg1 hg2 => by
      rcases ha' g hg2 with h1 | h1
      · exact h.dis q i f1 f g hq hf hg1 h1
      · have hqK : q < K.length := by rw [← h.len]; exact (List.getElem?_eq_some_iff.1 hq).1
        have := (h.news q K[q] f1 (List.getElem?_eq_getElem hqK) hq).2.1.lt hg1
        omega
    rcases cs p e1 hp with ⟨rfl, rfl⟩ | ⟨hpi, hp2⟩ <;> rcases cs q f1 hq with ⟨rfl, rfl⟩ | ⟨hqi, hq2⟩
    · rfl
    · exact absurd (old q f1 hq2 g hg2 hg1) hqi
    · exact absurd (old p e1 hp2 g hg1 hg2) hpi
    · exact h.dis p q e1 f1 g hp2 hq2 hg1 hg2
end
/-- One number is appended. -/
theorem wp_one {ops : Array Oper} {rest : List Oper} {o : Oper} {a : Act} {w : World} {Q : Exit → Act → World → Prop} (hgd : o.guard = Option.none) (s x : Operand) (ho : o.op = .call { callee := .builtin .append, args := #[s, x], argTypes := #[22, 22] })
    (lo : Nat) (sa : Option Addr) (sn sc : Nat) (zs : List Int) (hs : a.eval s = .slice sa sn sc) (hsn : zs.length = sn) (hown : OwI w lo sa sc zs) (xb xc : Nat) (v : Int) (hx : a.eval x = .slice (some ⟨xb, 0, none⟩) 1 xc) (hc : w.cell? ⟨xb, 0, none⟩ = some (.int .i64 v)) (hlen : sn ≤ 2000000) (hbase : lo ≤ w.heap.size) (n' : Nat) (hn' : sn + 1 = n')
    (h : ∀ a' c' w', Hid (OwI w' lo a' c' (zs ++ [v])) → Hid ((a' = sa ∧ c' = sc ∧ Kept (At sa) w w') ∨ ((∀ k, At a' k → w.heap.size ≤ k) ∧ Kept No w w')) → wpList Try.prog ops Q rest (a.put o.dst (.slice a' n' c')) w') :
    wpList Try.prog ops Q (o :: rest) a w := by
  subst hsn hn'
  refine wp_appN w 22 3 (.int .i64 0) 1 8 Try.underlying22 Try.info3 rfl (by decide) hgd s x ho lo sa _ sc (zs.map (Value.int .i64)) hs hown ⟨xb, 0, none⟩ 1 xc [.int .i64 v] hx rfl ?_ (fun u hu => by rw [List.mem_singleton.1 hu]; rfl) (by omega) (by omega) hbase ?_
  · intro j u hu
    match j, hu with
    | 0, hu => simp at hu; subst hu; simpa [addr_add] using hc
    | j + 1, hu => simp at hu
  · intro a' c' w' HO HC
    refine h a' c' w' ?_ HC
    show OwI w' lo a' c' (zs ++ [v])
    unfold OwI
    rw [List.length_append, List.map_append]
    exact HO
end Gx

end Go.Proofs.Ytpapbleabjpbfab
