import Derived.Test.YtfemlnfknebalabQa
import Derived.ArgAppend
namespace Go.Proofs.Ytfemlnfknebalab
open Go.RowKit
set_option linter.unusedVariables false
set_option linter.unusedSimpArgs false


/-- append of one onto a row of one's own: in its place, or moved while nothing else has turned. -/
theorem run_appG {w : World} (T ty E : TypeId) (c by' : Nat) (z : Value) (ht : Try.prog.underlying T = some (.slice E))
    (hinf : (Try.prog.info? E).map (fun i => (i.zero, i.size, i.bytes)) = some (some z, c, by')) (hzc : z.cells.size = c) (hc0 : 0 < c)
    (base n cap : Nat) (sa : Option Addr) (vs : List Value) (hown : Own E c w base sa cap n vs) (ad : Addr) (cc : Nat) (news : List Value) (hl : news.length = c) (hnews : ∀ j u, news[j]? = some u → w.cell? (ad.add j) = some u) (h1 : ∀ u ∈ news, u.oneCell' = true) (hbd : (n + 1) * by' ≤ 140737488355328) (hb63 : n ≤ 9223372036854775806) (hbase : base ≤ w.heap.size) :
    ∃ a' cap' w', (Builtin.append_ #[T, T] ty #[.slice sa n cap, .slice (some ad) 1 cc]).run Try.prog w = .ok (.slice a' (n + 1) cap') w' ∧ Own E c w' base a' cap' (n + 1) (vs ++ news) ∧ ((a' = sa ∧ cap' = cap ∧ Kept (At sa) w w') ∨ ((∀ k, At a' k → w.heap.size ≤ k) ∧ Kept No w w')) := by
  obtain ⟨i0, hi, hz0, hz1, hz2⟩ := info_parts hinf
  have new : ∀ v' w', (Builtin.append_ #[T, T] ty #[.slice sa n cap, .slice (some ad) 1 cc]).run Try.prog w = .ok v' w' → w'.ownsRow w.heap.size E c v' (n + 1) (vs ++ news) → w.grownBy w' none →
      ∃ a' cap' w', (Builtin.append_ #[T, T] ty #[.slice sa n cap, .slice (some ad) 1 cc]).run Try.prog w = .ok (.slice a' (n + 1) cap') w' ∧ Own E c w' base a' cap' (n + 1) (vs ++ news) ∧ ((a' = sa ∧ cap' = cap ∧ Kept (At sa) w w') ∨ ((∀ k, At a' k → w.heap.size ≤ k) ∧ Kept No w w')) := by
    intro v' w' hrun hown' hgrow
    have hk : Kept No w w' := (Kept.refl No w).grown hgrow (fun k e _ => by cases e)
    rcases hown'.2 with ⟨e, h0⟩ | ⟨g, cap', cur, e, hbg, rest⟩
    · omega
    · subst e
      refine ⟨some ⟨g, 0, none⟩, cap', w', hrun, ⟨hown'.1, .inr ⟨g, cap', cur, rfl, by omega, rest⟩⟩, .inr ⟨fun k hk => ?_, hk⟩⟩
      obtain ⟨ad', e, rfl⟩ := hk
      cases e
      exact hbg
  by_cases hs : sa = none
  · subst hs
    obtain ⟨v', w', hrun, r1, r2, _, r4⟩ := run_append_own_at (P := Try.prog) (w := w) w.heap.size T ty E i0 z c by' ht hi hz0 hz1 hz2 hzc hc0 (.slice none n cap) n vs (by
      rcases hown.2 with ⟨e, h0⟩ | ⟨g, cap', cur, e, _⟩
      · exact ⟨hown.1, .inl ⟨e, h0⟩⟩
      · cases e) ad 1 cc news (by omega) hnews h1 (by unfold maxLen; omega) hbd (Nat.le_refl _)
    exact new v' w' hrun r1 r2
  · rcases hown.2 with ⟨e, h0⟩ | ⟨g, cap', cur, e, _⟩
    · simp only [Value.slice.injEq] at e
      exact absurd e.1 hs
    · simp only [Value.slice.injEq] at e
      obtain ⟨rfl, -, rfl⟩ := e
      by_cases hfit : n + 1 ≤ cap
      · obtain ⟨w', hrun, r1, r2⟩ := run_append_fits (P := Try.prog) (w := w) base T ty E i0 c ht hi hz1 g n cap vs hown ad 1 cc news (by omega) hnews h1 hfit
        exact ⟨_, _, w', hrun, r1, .inl ⟨rfl, rfl, (Kept.refl _ _).grown r2 (fun k e _ => by cases e; exact ⟨_, rfl, rfl⟩)⟩⟩
      · obtain ⟨v', w', hrun, r1, r2⟩ := run_append_arg_grows (P := Try.prog) (w := w) T ty E i0 z c by' ht hi hz0 hz1 hz2 hzc hc0 ⟨g, 0, none⟩ n cap vs hown.1 (fun j u hj => World.ownsRow.cells hown (by rfl) j u hj) ad 1 cc news (by omega) hnews (by omega) (by unfold maxLen; omega) hbd
        exact new v' w' hrun r1 r2

namespace Gx
/-- A kind of list: the element's type, the list's, how many cells, the element's cells, the marks, what is put behind. -/
structure Kn (α : Type) where
  E : TypeId
  R : TypeId
  c : Nat
  cs : α → List Value
  mm : Nat → Nat → α
  mr : Nat → Nat → α
  hc : ∀ x, (cs x).length = c
  h0 : 0 < c
  ne : E ≠ R
section
variable {α : Type} {D : Kn α}
def Kn.L (D : Kn α) (zs : List α) : List Value := (zs.map D.cs).flatten
theorem Kn.L_c (D : Kn α) (zs : List α) : ∀ x ∈ zs.map D.cs, x.length = D.c := by intro x hx; obtain ⟨e, _, rfl⟩ := List.mem_map.1 hx; exact D.hc e
theorem Kn.L_len (D : Kn α) (zs : List α) : (D.L zs).length = zs.length * D.c := by unfold Kn.L; rw [flat_len D.c _ (D.L_c zs), List.length_map]
theorem Kn.L_app (D : Kn α) (a b : List α) : D.L (a ++ b) = D.L a ++ D.L b := by simp [Kn.L]
theorem Kn.L_1 (D : Kn α) (a : α) : D.L [a] = D.cs a := by simp [Kn.L]
def OwG (D : Kn α) (w : World) (lo : Nat) (a : Option Addr) (k : Nat) (zs : List α) : Prop := Own D.E D.c w lo a k zs.length (D.L zs)
theorem OwG.kept {S : Nat → Prop} {w w' : World} {lo : Nat} {a : Option Addr} {k : Nat} {zs : List α} (h : OwG D w lo a k zs) (hk : Kept S w w') (hS : ∀ k, At a k → ¬ S k) : OwG D w' lo a k zs := Own.kept h hk hS
theorem OwG.no {w w' : World} {lo : Nat} {a : Option Addr} {k : Nat} {zs : List α} (h : OwG D w lo a k zs) (hk : Kept No w w') : OwG D w' lo a k zs := Own.no h hk
theorem OwG.lt {w : World} {lo : Nat} {a : Option Addr} {k : Nat} {zs : List α} (h : OwG D w lo a k zs) {q : Nat} (hq : At a q) : q < w.heap.size := Own.lt h hq
theorem OwG.ty {w : World} {lo : Nat} {a : Option Addr} {k : Nat} {zs : List α} (h : OwG D w lo a k zs) {q : Nat} (hq : At a q) : ∃ cs, Box w q D.E cs := Own.ty h hq
/-- The front of what is owned. -/
theorem OwG.front {w : World} {lo : Nat} {a : Option Addr} {k : Nat} {xs ys : List α} (h : OwG D w lo a k (xs ++ ys)) : OwG D w lo a k xs := by
  unfold OwG at h ⊢
  rcases h.2 with ⟨hv, h0⟩ | ⟨g, cap', cur, hv, hb, hg, hl, hm, hcs, htk⟩
  · simp only [Value.slice.injEq] at hv
    have : xs = [] := List.eq_nil_of_length_eq_zero (by rw [List.length_append] at h0; omega)
    subst this
    rw [hv.1, hv.2.2]
    exact Own.nil _ _ _ _
  · refine ⟨D.L_len xs, .inr ⟨g, cap', cur, ?_, hb, hg, ?_, hm, hcs, ?_⟩⟩
    · simp only [Value.slice.injEq] at hv ⊢
      exact ⟨hv.1, trivial, hv.2.2⟩
    · rw [List.length_append] at hl; omega
    · have := congrArg (List.take (xs.length * D.c)) htk
      rw [List.take_take, D.L_app, List.take_left' (D.L_len xs), List.length_append, Nat.min_eq_left (Nat.mul_le_mul_right _ (by omega))] at this
      exact this
/-- The blocks of lists that were told. -/
def EB (K : List Sl) : Nat → Prop := fun k => ∃ e ∈ K, At e.a k
/-- Such in a row, each owned, no two in one block; what they hold. -/
structure Erow (D : Kn α) (w : World) (lo : Nat) (K : List Sl) (Z : Nat → List α) : Prop where
  ok : ∀ (i : Nat) (e : Sl), K[i]? = some e → (Z i).length = e.l ∧ OwG D w lo e.a e.k (Z i) ∧ e.l ≤ 1000000
  dis : ∀ (i j : Nat) (e f : Sl) (g : Nat), K[i]? = some e → K[j]? = some f → At e.a g → At f.a g → i = j
theorem Erow.kept {S : Nat → Prop} {w w' : World} {lo : Nat} {K : List Sl} {Z : Nat → List α} (h : Erow D w lo K Z) (hk : Kept S w w') (hS : ∀ k, EB K k → ¬ S k) : Erow D w' lo K Z :=
  ⟨fun i e he => ⟨(h.ok i e he).1, (h.ok i e he).2.1.kept hk (fun k hk => hS k ⟨e, List.mem_of_getElem? he, hk⟩), (h.ok i e he).2.2⟩, h.dis⟩
theorem Erow.no {w w' : World} {lo : Nat} {K : List Sl} {Z : Nat → List α} (h : Erow D w lo K Z) (hk : Kept No w w') : Erow D w' lo K Z := h.kept hk (fun _ _ e => e)
theorem Erow.lo {w : World} {lo : Nat} {K : List Sl} {Z : Nat → List α} (h : Erow D w lo K Z) {k : Nat} (hk : EB K k) : lo ≤ k ∧ k < w.heap.size ∧ ∃ cur, Box w k D.E cur := by
  obtain ⟨e, he, ha⟩ := hk
  obtain ⟨i, hi⟩ := List.mem_iff_getElem?.1 he
  have := (h.ok i e hi).2.1
  exact ⟨Own.base this ha, this.lt ha, this.ty ha⟩
theorem Erow.nil (w : World) (lo : Nat) (Z : Nat → List α) : Erow D w lo [] Z := ⟨fun i e h => by simp at h, fun i j e f g h => by simp at h⟩
/-- One more, new. -/
theorem Erow.add {w : World} {lo : Nat} {K : List Sl} {Z : Nat → List α} (h : Erow D w lo K Z) {e : Sl} {zs : List α} (hl : zs.length = e.l) (ho : OwG D w lo e.a e.k zs) (hb : e.l ≤ 1000000) (hn : ∀ k, At e.a k → ¬ EB K k) :
    Erow D w lo (K ++ [e]) (fun i => if i = K.length then zs else Z i) := by
  have key : ∀ i f, (K ++ [e])[i]? = some f → (i < K.length ∧ K[i]? = some f) ∨ (i = K.length ∧ f = e) := by
    intro i f hf
    by_cases hi : i < K.length
    · rw [List.getElem?_append_left hi] at hf; exact .inl ⟨hi, hf⟩
    · rw [List.getElem?_append_right (by omega)] at hf
      have h0 : i - K.length = 0 := by have := (List.getElem?_eq_some_iff.1 hf).1; simp at this; omega
      rw [h0] at hf
      simp at hf
      exact .inr ⟨by omega, hf.symm⟩
  refine ⟨fun i f hf => ?_, fun i j f f' g hi hj hg hg' => ?_⟩
  · rcases key i f hf with ⟨hi, hf⟩ | ⟨rfl, rfl⟩
    · simp only [if_neg (show ¬ i = K.length by omega)]; exact h.ok i f hf
    · simp only [if_true]; exact ⟨hl, ho, hb⟩
  · rcases key i f hi with ⟨h1, h2⟩ | ⟨h1, h2⟩ <;> rcases key j f' hj with ⟨h3, h4⟩ | ⟨h3, h4⟩
    · exact h.dis i j f f' g h2 h4 hg hg'
    · subst h4; exact absurd ⟨f, List.mem_of_getElem? h2, hg⟩ (hn g hg')
    · subst h2; exact absurd ⟨f', List.mem_of_getElem? h4, hg'⟩ (hn g hg)
    · omega
/-- One element of one of them. -/
theorem Erow.set {w : World} {lo : Nat} {K : List Sl} {Z : Nat → List α} (h : Erow D w lo K Z) {i j g : Nat} {e : Sl} (he : K[i]? = some e) (ha : e.a = some ⟨g, 0, none⟩) (hj : j < e.l) (x : α) {v : Value} (hv : v.cells = (D.cs x).toArray) (hz : (Try.prog.info? D.E).map (·.size) = some D.c) (h1 : ∀ u ∈ D.cs x, u.oneCell' = true) :
    ∃ cs', (storeVar D.E ⟨g, 0 + j * D.c, none⟩ v).run Try.prog w = .ok () (w.setRow g cs') ∧ Erow D (w.setRow g cs') lo K (fun q => if q = i then (Z i).set j x else Z q) := by
  have hi := h.ok i e he
  obtain ⟨cs', hr, ho⟩ := Own.setN (ty := D.E) (y := D.cs x) (xs := (Z i).map D.cs) hi.2.1 (D.L_c _) (by rw [List.length_map]) (i := j) (g := g) (by rw [hi.1]; exact hj) ha hv (by rw [D.hc]; exact hz) h1 (D.hc x)
  refine ⟨cs', hr, fun q f hf => ?_, h.dis⟩
  by_cases hq : q = i
  · subst hq
    rw [he] at hf
    cases hf
    simp only [if_true, List.length_set]
    refine ⟨hi.1, ?_, hi.2.2⟩
    unfold OwG Kn.L
    rw [List.length_set, List.map_set]
    exact ho
  · simp only [if_neg hq]
    have h2 := h.ok q f hf
    refine ⟨h2.1, h2.2.1.kept (Kept.setRow _ _ _) (fun k hk eo => hq ?_), h2.2.2⟩
    have eo' : k = g := eo
    subst eo'
    exact h.dis q i f e k hf he hk ⟨_, ha, rfl⟩
/-- A row of them in memory. -/
def Rw (D : Kn α) (w : World) (base : Nat) (ra : Option Addr) (rc : Nat) (K : List Sl) : Prop := Own D.R 1 w base ra rc K.length (K.map Sl.v)
theorem Rw.kept {S : Nat → Prop} {w w' : World} {base : Nat} {a : Option Addr} {c : Nat} {K : List Sl} (h : Rw D w base a c K) (hk : Kept S w w') (hS : ∀ k, At a k → ¬ S k) : Rw D w' base a c K := Own.kept h hk hS
theorem Rw.no {w w' : World} {base : Nat} {a : Option Addr} {c : Nat} {K : List Sl} (h : Rw D w base a c K) (hk : Kept No w w') : Rw D w' base a c K := Own.no h hk
theorem Rw.nil (w : World) (base : Nat) : Rw D w base none 0 [] := Own.nil _ _ _ _
theorem Rw.at {w : World} {base : Nat} {a : Option Addr} {c : Nat} {K : List Sl} (h : Rw D w base a c K) {i : Nat} {e : Sl} (he : K[i]? = some e) : ∃ g, a = some ⟨g, 0, none⟩ ∧ w.cell? ⟨g, 0 + i * 1, none⟩ = some e.v := by
  have hi := (List.getElem?_eq_some_iff.1 he).1
  obtain ⟨g, ea⟩ := Own.some h (by omega)
  subst ea
  refine ⟨g, rfl, ?_⟩
  rw [Nat.zero_add, Nat.mul_one]
  have := World.ownsRow.cells h (by rfl) i e.v (by rw [List.getElem?_map, he]; rfl)
  simpa [addr_add] using this
theorem Rw.base {w : World} {base : Nat} {a : Option Addr} {c : Nat} {K : List Sl} (h : Rw D w base a c K) {k : Nat} (hk : At a k) : base ≤ k := Own.base h hk
theorem Rw.ty {w : World} {base : Nat} {a : Option Addr} {c : Nat} {K : List Sl} (h : Rw D w base a c K) {k : Nat} (hk : At a k) : ∃ cur, Box w k D.R cur := Own.ty h hk
theorem Rw.apart {w : World} {base lo : Nat} {a : Option Addr} {c : Nat} {K L : List Sl} {Z : Nat → List α} (h : Rw D w base a c K) (hE : Erow D w lo L Z) {k : Nat} (hk : At a k) : ¬ EB L k := by
  intro hb
  obtain ⟨cur, h1⟩ := h.ty hk
  obtain ⟨_, _, cur', h2⟩ := hE.lo hb
  exact box_ne h2 h1 D.ne rfl
/-- The marks of list i; what is put behind. -/
def marksOf (D : Kn α) (i l : Nat) : List α := (List.range l).map (D.mm i)
def growsOf (D : Kn α) (i l : Nat) : List α := (List.range l).map (D.mr i)
theorem marksOf_len (i l : Nat) : (marksOf D i l).length = l := by simp [marksOf]
theorem growsOf_len (i l : Nat) : (growsOf D i l).length = l := by simp [growsOf]
theorem marksOf_at {i l j : Nat} (h : j < l) : (marksOf D i l)[j]? = some (D.mm i j) := by simp [marksOf, h]
theorem growsOf_at {i l j : Nat} (h : j < l) : (growsOf D i l)[j]? = some (D.mr i j) := by simp [growsOf, h]
theorem growsOf_succ (i l : Nat) : growsOf D i (l + 1) = growsOf D i l ++ [D.mr i l] := by simp [growsOf, List.range_succ]
theorem gr_len2 (i l j : Nat) : (marksOf D i l ++ growsOf D i j).length = l + j := by rw [List.length_append, marksOf_len, growsOf_len]
theorem take_set_marks {zs : List α} {i j : Nat} (h : zs.take j = marksOf D i j) (hj : j < zs.length) : (zs.set j (D.mm i j)).take (j + 1) = marksOf D i (j + 1) := by
  have e : marksOf D i (j + 1) = marksOf D i j ++ [D.mm i j] := by simp [marksOf, List.range_succ]
  rw [e, ← h]
  apply List.ext_getElem?
  intro q
  simp only [List.getElem?_take, List.getElem?_set, List.getElem?_append, List.length_take]
  rw [Nat.min_eq_left (by omega)]
  by_cases h1 : q < j
  · simp [h1, show q < j + 1 by omega, show ¬ j = q by omega]
  · by_cases h2 : q = j
    · subst h2; simp [hj]
    · simp [h1, show ¬ q < j + 1 by omega, show q - j ≠ 0 by omega]
/-- A list under growth. -/
structure Gr (D : Kn α) (wi wr : World) (lo : Nat) (e : Sl) (ms gs : List α) (a' : Option Addr) (c' : Nat) : Prop where
  kept : Kept (At e.a) wi wr
  old : OwG D wr lo e.a e.k ms
  new : OwG D wr lo a' c' (ms ++ gs)
  was : ∀ k, At e.a k → k < wi.heap.size
  wher : (a' = e.a ∧ c' = e.k) ∨ ∀ k, At a' k → wi.heap.size ≤ k
theorem Gr.start {w : World} {lo : Nat} {e : Sl} {ms : List α} (h : OwG D w lo e.a e.k ms) : Gr D w w lo e ms [] e.a e.k :=
  ⟨Kept.refl _ _, h, by rw [List.append_nil]; exact h, fun k hk => h.lt hk, .inl ⟨rfl, rfl⟩⟩
theorem Gr.no {wi wr w' : World} {lo : Nat} {e : Sl} {ms gs : List α} {a' : Option Addr} {c' : Nat} (h : Gr D wi wr lo e ms gs a' c') (hk : Kept No wr w') : Gr D wi w' lo e ms gs a' c' :=
  ⟨h.kept.then hk.of_no, h.old.no hk, h.new.no hk, h.was, h.wher⟩
theorem Gr.more {wi wr w' : World} {lo : Nat} {e : Sl} {ms gs : List α} {a' a'' : Option Addr} {c' c'' : Nat} {x : α} (h : Gr D wi wr lo e ms gs a' c') (ho : OwG D w' lo a'' c'' (ms ++ (gs ++ [x])))
    (hc : (a'' = a' ∧ c'' = c' ∧ Kept (At a') wr w') ∨ ((∀ k, At a'' k → wr.heap.size ≤ k) ∧ Kept No wr w')) : Gr D wi w' lo e ms (gs ++ [x]) a'' c'' := by
  rcases hc with ⟨rfl, rfl, hk⟩ | ⟨hn, hk⟩
  · rcases h.wher with ⟨rfl, rfl⟩ | hf
    · exact ⟨h.kept.then hk, ho.front, ho, h.was, .inl ⟨rfl, rfl⟩⟩
    · refine ⟨h.kept.trans hk (fun _ e => e) (fun i hi e => ?_), h.old.kept hk (fun k hk' e => ?_), ho, h.was, .inr hf⟩
      · have := hf i e; omega
      · have := hf k e; have := h.was k hk'; omega
  · exact ⟨h.kept.then hk.of_no, h.old.no hk, ho, h.was, .inr (fun k hk' => by have := hn k hk'; have := h.kept.size; omega)⟩
/-- One is appended to it. -/
theorem Gr.app {wi wr : World} {lo : Nat} {e : Sl} {ms gs : List α} {a' : Option Addr} {c' : Nat} (h : Gr D wi wr lo e ms gs a' c') (x : α) (n : Nat) (hn : (ms ++ gs).length = n) {by' : Nat} {z : Value} (ht : Try.prog.underlying D.R = some (.slice D.E))
    (hinf : (Try.prog.info? D.E).map (fun i => (i.zero, i.size, i.bytes)) = some (some z, D.c, by')) (hzc : z.cells.size = D.c) (h1 : ∀ u ∈ D.cs x, u.oneCell' = true) (hby : by' ≤ 1000) (hle : n ≤ 2000000) (hlo : lo ≤ wr.heap.size) :
    ∃ a4 c4 w4, (Builtin.append_ #[D.R, D.R] D.R #[.slice a' n c', .slice (some ⟨wr.heap.size, 0, none⟩) 1 1]).run Try.prog (wr.alloc (.cells (D.cs x).toArray D.E)) = .ok (.slice a4 (n + 1) c4) w4 ∧ Gr D wi w4 lo e ms (gs ++ [x]) a4 c4 := by
  subst hn
  have hk1 : Kept No wr (wr.alloc (.cells (D.cs x).toArray D.E)) := (Kept.refl No _).alloc _
  have hx := Box.new wr D.E (D.cs x).toArray
  have h2 := h.no hk1
  obtain ⟨a4, c4, w4, hrun, ho, hc⟩ := run_appG (w := wr.alloc (.cells (D.cs x).toArray D.E)) D.R D.R D.E D.c by' z ht hinf hzc D.h0 lo _ c' a' _ h2.new ⟨wr.heap.size, 0, none⟩ 1 (D.cs x) (D.hc x) (fun j u hj => by rw [addr_add, Nat.zero_add, hx.cell, List.getElem?_toArray]; exact hj) h1 (by
    have : ((ms ++ gs).length + 1) * by' ≤ 2000001 * 1000 := Nat.mul_le_mul (by omega) hby
    omega) (by omega) (Nat.le_trans hlo hk1.size)
  refine ⟨a4, c4, w4, hrun, h2.more ?_ hc⟩
  unfold OwG
  rw [← List.append_assoc, D.L_app, D.L_1, List.length_append (bs := [x])]
  exact ho
/-- The marks are laid: up to list i. -/
structure Ph1 (D : Kn α) (w wr : World) (base lo : Nat) (ra : Option Addr) (rc : Nat) (K : List Sl) (i : Nat) : Prop where
  row : Rw D wr base ra rc K
  kept : Kept (EB K) w wr
  ex : ∃ Z, Erow D wr lo K Z ∧ ∀ q, q < i → Z q = marksOf D q (Z q).length
/-- .. and up to element j of list i. -/
structure Ph1j (D : Kn α) (w wr : World) (base lo : Nat) (ra : Option Addr) (rc : Nat) (K : List Sl) (i j : Nat) : Prop where
  row : Rw D wr base ra rc K
  kept : Kept (EB K) w wr
  ex : ∃ Z, Erow D wr lo K Z ∧ (∀ q, q < i → Z q = marksOf D q (Z q).length) ∧ (Z i).take j = marksOf D i j
theorem Ph1.inner {w wr : World} {base lo : Nat} {ra : Option Addr} {rc : Nat} {K : List Sl} {i : Nat} (h : Ph1 D w wr base lo ra rc K i) : Ph1j D w wr base lo ra rc K i 0 := by
  obtain ⟨h1, h2, Z, h3, h4⟩ := h
  exact ⟨h1, h2, Z, h3, h4, by simp [marksOf]⟩
theorem Ph1j.outer {w wr : World} {base lo : Nat} {ra : Option Addr} {rc : Nat} {K : List Sl} {i : Nat} {e : Sl} (h : Ph1j D w wr base lo ra rc K i e.l) (he : K[i]? = some e) : Ph1 D w wr base lo ra rc K (i + 1) := by
  obtain ⟨h1, h2, Z, h3, h4, h5⟩ := h
  refine ⟨h1, h2, Z, h3, fun q hq => ?_⟩
  by_cases e1 : q = i
  · subst e1
    have hl := (h3.ok q e he).1
    rw [hl, ← h5, List.take_of_length_le (by omega)]
  · exact h4 q (by omega)
theorem Ph1j.sm {w wr : World} {base lo : Nat} {ra : Option Addr} {rc : Nat} {K : List Sl} {i j : Nat} (h : Ph1j D w wr base lo ra rc K i j) {e : Sl} (he : K[i]? = some e) (hj : j < e.l) : ∃ g, e.a = some ⟨g, 0, none⟩ := by
  obtain ⟨h1, h2, Z, h3, h4⟩ := h
  obtain ⟨hl, ho, _⟩ := h3.ok i e he
  exact Own.some ho (by omega)
theorem Ph1j.set {w wr : World} {base lo : Nat} {ra : Option Addr} {rc : Nat} {K : List Sl} {i j : Nat} (h : Ph1j D w wr base lo ra rc K i j) {e : Sl} (he : K[i]? = some e) (hj : j < e.l) {g : Nat} (ha : e.a = some ⟨g, 0, none⟩) {v : Value} (hv : v.cells = (D.cs (D.mm i j)).toArray) (hz : (Try.prog.info? D.E).map (·.size) = some D.c) (hone : ∀ u ∈ D.cs (D.mm i j), u.oneCell' = true) :
    ∃ cs', (storeVar D.E ⟨g, 0 + j * D.c, none⟩ v).run Try.prog wr = .ok () (wr.setRow g cs') ∧ Ph1j D w (wr.setRow g cs') base lo ra rc K i (j + 1) := by
  obtain ⟨h1, h2, Z, h3, h4, h5⟩ := h
  have hb : EB K g := ⟨e, List.mem_of_getElem? he, _, ha, rfl⟩
  obtain ⟨cs', hr, hE⟩ := h3.set he ha hj (D.mm i j) hv hz hone
  refine ⟨cs', hr, h1.kept (Kept.setRow _ _ _) (fun k hk eo => ?_), h2.trans (Kept.setRow _ _ _) (fun _ e => e) (fun k _ eo => ?_), _, hE, fun q hq => ?_, ?_⟩
  · have eo' : k = g := eo
    subst eo'
    exact h1.apart h3 hk hb
  · have eo' : k = g := eo
    subst eo'
    exact hb
  · have : ¬ q = i := by omega
    simp only [if_neg this]
    exact h4 q hq
  · simp only [if_true]
    exact take_set_marks h5 (by rw [(h3.ok i e he).1]; exact hj)
/-- Lists grown: up to list i. -/
structure Ph2 (D : Kn α) (w wr : World) (base lo : Nat) (ra : Option Addr) (rc : Nat) (K : List Sl) (ma : Option Addr) (mc : Nat) (M : List Sl) (i : Nat) : Prop where
  row : Rw D wr base ra rc K
  kept : Kept (EB K) w wr
  more : Rw D wr w.heap.size ma mc M
  len : M.length = i
  olds : ∀ q e, K[q]? = some e → OwG D wr lo e.a e.k (marksOf D q e.l)
  news : ∀ q e f, K[q]? = some e → M[q]? = some f → f.l = e.l + 70 ∧ OwG D wr lo f.a f.k (marksOf D q e.l ++ growsOf D q 70) ∧ (f.a = e.a ∨ ∀ k, At f.a k → w.heap.size ≤ k)
theorem Ph1.grow {w wr : World} {base lo : Nat} {ra : Option Addr} {rc : Nat} {K : List Sl} {n : Nat} (h : Ph1 D w wr base lo ra rc K n) (hn : K.length = n) : Ph2 D w wr base lo ra rc K none 0 [] 0 := by
  obtain ⟨h1, h2, Z, h3, h4⟩ := h
  refine ⟨h1, h2, Rw.nil _ _, rfl, fun q e he => ?_, fun q e f he hf => by simp at hf⟩
  have hq : q < n := by rw [← hn]; exact (List.getElem?_eq_some_iff.1 he).1
  have h5 := h3.ok q e he
  have h6 := h4 q hq
  rw [h5.1] at h6
  rw [← h6]
  exact h5.2.1
theorem Ph2.no {w wr w' : World} {base lo : Nat} {ra : Option Addr} {rc : Nat} {K : List Sl} {ma : Option Addr} {mc : Nat} {M : List Sl} {i : Nat} (h : Ph2 D w wr base lo ra rc K ma mc M i) (hk : Kept No wr w') : Ph2 D w w' base lo ra rc K ma mc M i :=
  ⟨h.row.no hk, h.kept.then hk.of_no, h.more.no hk, h.len, fun q e he => (h.olds q e he).no hk, fun q e f he hf => ⟨(h.news q e f he hf).1, (h.news q e f he hf).2.1.no hk, (h.news q e f he hf).2.2⟩⟩
/-- One of them has grown. -/
theorem Ph2.grown {w wi wr : World} {base lo : Nat} {ra : Option Addr} {rc : Nat} {K : List Sl} {Z : Nat → List α} {ma : Option Addr} {mc : Nat} {M : List Sl} {i : Nat} (h : Ph2 D w wi base lo ra rc K ma mc M i) (hE : Erow D w lo K Z) {e : Sl} (he : K[i]? = some e) {a' : Option Addr} {c' : Nat}
    (hG : Gr D wi wr lo e (marksOf D i e.l) (growsOf D i 70) a' c') : Ph2 D w wr base lo ra rc K ma mc M i ∧ OwG D wr lo a' c' (marksOf D i e.l ++ growsOf D i 70) ∧ (a' = e.a ∨ ∀ k, At a' k → w.heap.size ≤ k) := by
  have hlt : ∀ k, At e.a k → k < w.heap.size := fun k hk => (hE.lo ⟨e, List.mem_of_getElem? he, hk⟩).2.1
  have hold := h.olds i e he
  refine ⟨⟨h.row.kept hG.kept (fun k hk ea => ?_), h.kept.trans hG.kept (fun _ e => e) (fun k _ ea => ⟨e, List.mem_of_getElem? he, ea⟩), h.more.kept hG.kept (fun k hk ea => ?_), h.len, fun q f hf => ?_, fun q f f' hf hf' => ?_⟩, hG.new, ?_⟩
  · obtain ⟨c1, h1⟩ := h.row.ty hk
    obtain ⟨c2, h2⟩ := hold.ty ea
    exact box_ne h2 h1 D.ne rfl
  · obtain ⟨c1, h1⟩ := h.more.ty hk
    obtain ⟨c2, h2⟩ := hold.ty ea
    exact box_ne h2 h1 D.ne rfl
  · by_cases hq : q = i
    · subst hq
      rw [he] at hf
      cases hf
      exact hG.old
    · exact (h.olds q f hf).kept hG.kept (fun k hk ea => hq (hE.dis q i f e k hf he hk ea))
  · have h1 := h.news q f f' hf hf'
    have hqi : q < i := by rw [← h.len]; exact (List.getElem?_eq_some_iff.1 hf').1
    refine ⟨h1.1, h1.2.1.kept hG.kept (fun k hk ea => ?_), h1.2.2⟩
    rcases h1.2.2 with h2 | h2
    · rw [h2] at hk
      have := hE.dis q i f e k hf he hk ea
      omega
    · have := h2 k hk
      have := hlt k ea
      omega
  · rcases hG.wher with h2 | h2
    · exact .inl h2.1
    · exact .inr (fun k hk => Nat.le_trans h.kept.size (h2 k hk))
/-- .. and is put into the row. -/
theorem Ph2.add {w wr w' : World} {base lo : Nat} {ra : Option Addr} {rc : Nat} {K : List Sl} {ma ma' : Option Addr} {mc mc' : Nat} {M : List Sl} {i : Nat} (h : Ph2 D w wr base lo ra rc K ma mc M i) {e f : Sl} (he : K[i]? = some e) (hl : f.l = e.l + 70)
    (ho : OwG D wr lo f.a f.k (marksOf D i e.l ++ growsOf D i 70)) (hw : f.a = e.a ∨ ∀ k, At f.a k → w.heap.size ≤ k) (hra : ∀ k, At ra k → k < w.heap.size)
    (hr : Own D.R 1 w' w.heap.size ma' mc' (i + 1) (M.map Sl.v ++ [f.v])) (hk : Kept (At ma) wr w') : Ph2 D w w' base lo ra rc K ma' mc' (M ++ [f]) (i + 1) := by
  have hnt : ∀ {a : Option Addr} {c : Nat} {zs : List α}, OwG D wr lo a c zs → ∀ k, At a k → ¬ At ma k := by
    intro a c zs ho k hk' hm
    obtain ⟨c1, h1⟩ := h.more.ty hm
    obtain ⟨c2, h2⟩ := ho.ty hk'
    exact box_ne h2 h1 D.ne rfl
  refine ⟨h.row.kept hk (fun k hk' hm => ?_), h.kept.trans hk (fun _ e => e) (fun k hkl hm => ?_), ?_, by simp [h.len], fun q f' hf => (h.olds q f' hf).kept hk (hnt (h.olds q f' hf)), fun q e' f' he' hf' => ?_⟩
  · have := hra k hk'; have := h.more.base hm; omega
  · have := h.more.base hm; omega
  · unfold Rw
    rw [List.length_append, h.len, List.map_append]
    exact hr
  · by_cases hq : q < M.length
    · rw [List.getElem?_append_left hq] at hf'
      have h1 := h.news q e' f' he' hf'
      exact ⟨h1.1, h1.2.1.kept hk (hnt h1.2.1), h1.2.2⟩
    · rw [List.getElem?_append_right (by omega)] at hf'
      have h0 : q - M.length = 0 := by have := (List.getElem?_eq_some_iff.1 hf').1; simp at this; omega
      rw [h0] at hf'
      simp at hf'
      subst hf'
      have hqi : q = i := by rw [← h.len]; omega
      subst hqi
      rw [he] at he'
      cases he'
      exact ⟨hl, ho.kept hk (hnt ho), hw⟩
/-- One list is appended to the row of them. -/
theorem Ph2.app {w wr : World} {base lo : Nat} {ra : Option Addr} {rc : Nat} {K : List Sl} {ma : Option Addr} {mc : Nat} {M : List Sl} {i : Nat} (h : Ph2 D w wr base lo ra rc K ma mc M i) {e f : Sl} (he : K[i]? = some e) (hl : f.l = e.l + 70)
    (ho : OwG D wr lo f.a f.k (marksOf D i e.l ++ growsOf D i 70)) (hw : f.a = e.a ∨ ∀ k, At f.a k → w.heap.size ≤ k) (hra : ∀ k, At ra k → k < w.heap.size) (RR : TypeId) (ht : Try.prog.underlying RR = some (.slice D.R))
    (hinf : (Try.prog.info? D.R).map (fun i => (i.zero, i.size, i.bytes)) = some (some (.slice none 0 0), 1, 24)) (hle : i ≤ 2000000) :
    ∃ a4 c4 w4, (Builtin.append_ #[RR, RR] RR #[.slice ma i mc, .slice (some ⟨wr.heap.size, 0, none⟩) 1 1]).run Try.prog (wr.alloc (.cells #[f.v] D.R)) = .ok (.slice a4 (i + 1) c4) w4 ∧ Ph2 D w w4 base lo ra rc K a4 c4 (M ++ [f]) (i + 1) := by
  have hk1 : Kept No wr (wr.alloc (.cells #[f.v] D.R)) := (Kept.refl No _).alloc _
  have hx := Box.new wr D.R #[f.v]
  have h2 := h.no hk1
  have hm := h2.more
  unfold Rw at hm
  rw [h2.len] at hm
  obtain ⟨a4, c4, w4, hrun, ho4, hc⟩ := run_appG (w := wr.alloc (.cells #[f.v] D.R)) RR RR D.R 1 24 (.slice none 0 0) ht hinf rfl (by decide) w.heap.size i mc ma _ hm ⟨wr.heap.size, 0, none⟩ 1 [f.v] rfl (fun j u hj => by rw [addr_add, Nat.zero_add, hx.cell]; show [f.v].toArray[j]? = _; rw [List.getElem?_toArray]; exact hj) (fun u hu => by rw [List.mem_singleton.1 hu]; rfl) (by omega) (by omega) h2.kept.size
  refine ⟨a4, c4, w4, hrun, h2.add he hl (ho.no hk1) hw hra ho4 ?_⟩
  rcases hc with ⟨_, _, h⟩ | ⟨_, h⟩
  · exact h
  · exact h.of_no
/-- What can be read of them. -/
theorem OwG.rd {w : World} {lo : Nat} {a : Option Addr} {k : Nat} {zs : List α} (h : OwG D w lo a k zs) : RowsAt D.c w a (zs.map D.cs) := Own.rows h (D.L_c zs) D.h0
end
end Gx

end Go.Proofs.Ytfemlnfknebalab
