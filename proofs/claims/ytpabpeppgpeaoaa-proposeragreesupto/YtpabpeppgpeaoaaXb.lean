import Derived.Test.YtpabpeppgpeaoaaPa
import Derived.ArgAppend
namespace Go.Proofs.Ytpabpeppgpeaoaa
open Go.RowKit
set_option linter.unusedVariables false
set_option linter.unusedSimpArgs false

theorem Own.ty {t : TypeId} {c : Nat} {w : World} {base : Nat} {a : Option Addr} {cap n : Nat} {vs : List Value} (h : Own t c w base a cap n vs) {k : Nat} (hk : At a k) : ∃ cs, Box w k t cs := by
  rcases h.cases h.1 with ⟨rfl, _⟩ | ⟨g, rfl, _, hg, sp, hbx, _⟩
  · exact absurd hk At.none
  · obtain ⟨ad, e, rfl⟩ := hk
    cases e
    exact ⟨_, hbx⟩
theorem Own.sm {t : TypeId} {c : Nat} {w : World} {base : Nat} {a : Option Addr} {cap n : Nat} {vs : List Value} (h : Own t c w base a cap n vs) (h0 : 0 < n) : ∃ g, a = some ⟨g, 0, none⟩ := by
  obtain ⟨g, _, e, _⟩ := h.op h0
  exact ⟨g, e⟩
theorem flat_setA (c : Nat) (xs : List (List Value)) (hc : ∀ x ∈ xs, x.length = c) (sp : List Value) (i : Nat) (y : List Value) (hy : y.length = c) (hi : i < xs.length) : putL (xs.flatten ++ sp) (i * c) y = (xs.set i y).flatten ++ sp := by
  have h : xs = xs.take i ++ ([xs[i]] ++ xs.drop (i + 1)) := by simp
  have h2 : xs.set i y = xs.take i ++ ([y] ++ xs.drop (i + 1)) := by rw [List.set_eq_take_append_cons_drop]; simp [hi]
  have hl : (xs.take i).flatten.length = i * c := by
    rw [flat_len c _ (fun x hx => hc x (List.mem_of_mem_take hx)), List.length_take]; congr 1; omega
  have hxi : (xs[i]).length = c := hc _ (List.getElem_mem hi)
  have h3 : xs.flatten = (xs.take i).flatten ++ (xs[i] ++ (xs.drop (i + 1)).flatten) := by
    have e := congrArg List.flatten h
    rw [List.flatten_append, List.flatten_append, List.flatten_cons, List.flatten_nil, List.append_nil] at e
    exact e
  rw [h2, h3]
  simp only [List.flatten_append, List.flatten_cons, List.flatten_nil, List.append_nil, List.append_assoc]
  unfold putL
  rw [← hl, List.take_left', ← List.drop_drop, List.drop_left', hy, ← hxi, List.drop_left']
  all_goals rfl
theorem Own.setN {T ty : TypeId} {c : Nat} {W : World} {base : Nat} {a : Option Addr} {cap n : Nat} {xs : List (List Value)} (h : Own T c W base a cap n xs.flatten) (hc : ∀ x ∈ xs, x.length = c) (hl : xs.length = n) {i g : Nat} (hi : i < n) (ha : a = some ⟨g, 0, none⟩) {v : Value} {y : List Value} (hv : v.cells = y.toArray) (hz : (Try.prog.info? ty).map (·.size) = some y.length) (h1 : ∀ x ∈ y, x.oneCell' = true) (hy : y.length = c) :
    ∃ cs', (storeVar ty ⟨g, 0 + i * c, none⟩ v).run Try.prog W = .ok () (W.setRow g cs') ∧ Own T c (W.setRow g cs') base a cap n (xs.set i y).flatten := by
  rcases h.2 with ⟨hv2, hn⟩ | ⟨g', cap', cur, hv2, hb, hg, hle, hm, hs, ht⟩
  · omega
  · simp only [Value.slice.injEq] at hv2
    obtain ⟨ea, -, rfl⟩ := hv2
    rw [ea] at ha
    cases ha
    obtain ⟨cur, rfl⟩ : ∃ l : List Value, cur = l.toArray := ⟨cur.toList, by simp⟩
    have hbox : Box W g T cur.toArray := hg
    have hs : cur.length = cap * c := by simpa using hs
    have ht : cur.take (n * c) = xs.flatten := by simpa using ht
    have hnc : n * c ≤ cap * c := Nat.mul_le_mul_right _ hle
    have hic : i * c + c ≤ n * c := by rw [← Nat.succ_mul]; exact Nat.mul_le_mul_right _ hi
    have hcur : cur = xs.flatten ++ cur.drop (n * c) := by rw [← ht, List.take_append_drop]
    have hfl : xs.flatten.length = n * c := by rw [flat_len c xs hc, hl]
    refine ⟨(putL cur (0 + i * c) y).toArray, run_store_at hbox hv hz (by rw [hy, Nat.zero_add, hs]; omega) h1, ?_⟩
    rw [Nat.zero_add, ea]
    have hp : putL cur (i * c) y = (xs.set i y).flatten ++ cur.drop (n * c) := by
      conv => lhs; rw [hcur]
      exact flat_setA c xs hc _ i y hy (by omega)
    rw [hp]
    have hsl : ((xs.set i y).flatten).length = n * c := by
      rw [flat_len c _ (fun x hx => by rcases List.mem_or_eq_of_mem_set hx with hx | hx; exact hc x hx; rw [hx]; exact hy), List.length_set, hl]
    exact Own.shut hb (Box.setRow hbox _) hle (by unfold maxLen at hm; omega) (by rw [List.length_append, hsl, List.length_drop, hs]; omega) (by rw [← hsl]; exact List.take_left' rfl)
/-- append of one onto a row of one's own: in its place, or moved while nothing else has turned. -/
theorem run_appG {w : World} (T ty E : TypeId) (c by' : Nat) (z : Value) (ht : Try.prog.underlying T = some (.slice E))
    (hinf : (Try.prog.info? E).map (fun i => (i.zero, i.size, i.bytes)) = some (some z, c, by')) (hzc : z.cells.size = c) (hc0 : 0 < c)
    (base n cap : Nat) (sa : Option Addr) (vs : List Value) (hown : Own E c w base sa cap n vs) (ad : Addr) (cc : Nat) (news : List Value) (hl : news.length = c) (hnews : ∀ j u, news[j]? = some u → w.cell? (ad.add j) = some u) (h1 : ∀ u ∈ news, u.oneCell' = true) (hbd : (n + 1) * by' ≤ 140737488355328) (hb63 : n ≤ 9223372036854775806) (hbase : base ≤ w.heap.size) :
    ∃ a' cap' w', (Builtin.append_ #[T, T] ty #[.slice sa n cap, .slice (some ad) 1 cc]).run Try.prog w = .ok (.slice a' (n + 1) cap') w' ∧ Own E c w' base a' cap' (n + 1) (vs ++ news) ∧ ((a' = sa ∧ cap' = cap ∧ Kept (At sa) w w') ∨ ((∀ k, At a' k → w.heap.size ≤ k) ∧ Kept No w w')) := by
  obtain ⟨i0, hi, hz0, hz1, hz2⟩ := info_parts hinf
  have new : ∀ v' w', (Builtin.append_ #[T, T] ty #[.slice sa n cap, .slice (some ad) 1 cc]).run Try.prog w = .ok v' w' → w'.ownsRow w.heap.size E c v' (n + 1) (vs ++ news) → w.grownBy w' none →
      ∃ a' cap' w', (Builtin.append_ #[T, T] ty #[.slice sa n cap, .slice (some ad) 1 cc]).run Try.prog w = .ok (.slice a' (n + 1) cap') w' ∧ Own E c w' base a' cap' (n + 1) (vs ++ news) ∧ ((a' = sa ∧ cap' = cap ∧ Kept (At sa) w w') ∨ ((∀ k, At a' k → w.heap.size ≤ k) ∧ Kept No w w')) := by
    intro v' w' hrun hown' hgrow
    have hk : Kept No w w' := (Kept.refl No w).grown hgrow (fun k e _ => by cases e)
    rcases hown'.2 with ⟨e, h0⟩ | ⟨g, cap', cur, e, hbg, rest⟩
    · omega
    · subst e
      refine ⟨some ⟨g, 0, none⟩, cap', w', hrun, ⟨hown'.1, .inr ⟨g, cap', cur, rfl, by omega, rest⟩⟩, .inr ⟨fun k hk => ?_, hk⟩⟩
      obtain ⟨ad', e, rfl⟩ := hk
      cases e
      exact hbg
  by_cases hs : sa = none
  · subst hs
    obtain ⟨v', w', hrun, r1, r2, _, r4⟩ := run_append_own_at (P := Try.prog) (w := w) w.heap.size T ty E i0 z c by' ht hi hz0 hz1 hz2 hzc hc0 (.slice none n cap) n vs (by
      rcases hown.2 with ⟨e, h0⟩ | ⟨g, cap', cur, e, _⟩
      · exact ⟨hown.1, .inl ⟨e, h0⟩⟩
      · cases e) ad 1 cc news (by omega) hnews h1 (by unfold maxLen; omega) hbd (Nat.le_refl _)
    exact new v' w' hrun r1 r2
  · rcases hown.2 with ⟨e, h0⟩ | ⟨g, cap', cur, e, _⟩
    · simp only [Value.slice.injEq] at e
      exact absurd e.1 hs
    · simp only [Value.slice.injEq] at e
      obtain ⟨rfl, -, rfl⟩ := e
      by_cases hfit : n + 1 ≤ cap
      · obtain ⟨w', hrun, r1, r2⟩ := run_append_fits (P := Try.prog) (w := w) base T ty E i0 c ht hi hz1 g n cap vs hown ad 1 cc news (by omega) hnews h1 hfit
        exact ⟨_, _, w', hrun, r1, .inl ⟨rfl, rfl, (Kept.refl _ _).grown r2 (fun k e _ => by cases e; exact ⟨_, rfl, rfl⟩)⟩⟩
      · obtain ⟨v', w', hrun, r1, r2⟩ := run_append_arg_grows (P := Try.prog) (w := w) T ty E i0 z c by' ht hi hz0 hz1 hz2 hzc hc0 ⟨g, 0, none⟩ n cap vs hown.1 (fun j u hj => World.ownsRow.cells hown (by rfl) j u hj) ad 1 cc news (by omega) hnews (by omega) (by unfold maxLen; omega) hbd
        exact new v' w' hrun r1 r2


end Go.Proofs.Ytpabpeppgpeaoaa
namespace Go.Proofs.Ytpabpeppgpeaoaa.Md
open Go.RowKit
namespace Gx
/-- A kind of list: the element's type, the list's, how many cells, the element's cells, the marks, what is put behind. -/
structure Kn (α : Type) where
  E : TypeId
  R : TypeId
  c : Nat
  cs : α → List Value
  mm : Nat → Nat → α
  mr : Nat → Nat → α
  hc : ∀ x, (cs x).length = c
  h0 : 0 < c
  ne : E ≠ R
section
variable {α : Type} {D : Kn α}
def Kn.L (D : Kn α) (zs : List α) : List Value := (zs.map D.cs).flatten
theorem Kn.L_c (D : Kn α) (zs : List α) : ∀ x ∈ zs.map D.cs, x.length = D.c := by intro x hx; obtain ⟨e, _, rfl⟩ := List.mem_map.1 hx; exact D.hc e
theorem Kn.L_len (D : Kn α) (zs : List α) : (D.L zs).length = zs.length * D.c := by unfold Kn.L; rw [flat_len D.c _ (D.L_c zs), List.length_map]
theorem Kn.L_app (D : Kn α) (a b : List α) : D.L (a ++ b) = D.L a ++ D.L b := by simp [Kn.L]
theorem Kn.L_1 (D : Kn α) (a : α) : D.L [a] = D.cs a := by simp [Kn.L]
def OwG (D : Kn α) (w : World) (lo : Nat) (a : Option Addr) (k : Nat) (zs : List α) : Prop := Own D.E D.c w lo a k zs.length (D.L zs)
theorem OwG.kept {S : Nat → Prop} {w w' : World} {lo : Nat} {a : Option Addr} {k : Nat} {zs : List α} (h : OwG D w lo a k zs) (hk : Kept S w w') (hS : ∀ k, At a k → ¬ S k) : OwG D w' lo a k zs := Own.kept h hk hS
theorem OwG.no {w w' : World} {lo : Nat} {a : Option Addr} {k : Nat} {zs : List α} (h : OwG D w lo a k zs) (hk : Kept No w w') : OwG D w' lo a k zs := Own.no h hk
theorem OwG.lt {w : World} {lo : Nat} {a : Option Addr} {k : Nat} {zs : List α} (h : OwG D w lo a k zs) {q : Nat} (hq : At a q) : q < w.heap.size := Own.lt h hq
theorem OwG.ty {w : World} {lo : Nat} {a : Option Addr} {k : Nat} {zs : List α} (h : OwG D w lo a k zs) {q : Nat} (hq : At a q) : ∃ cs, Box w q D.E cs := Own.ty h hq
/-- The front of what is owned. -/
theorem OwG.front {w : World} {lo : Nat} {a : Option Addr} {k : Nat} {xs ys : List α} (h : OwG D w lo a k (xs ++ ys)) : OwG D w lo a k xs := by
  unfold OwG at h ⊢
  rcases h.2 with ⟨hv, h0⟩ | ⟨g, cap', cur, hv, hb, hg, hl, hm, hcs, htk⟩
  · simp only [Value.slice.injEq] at hv
    have : xs = [] := List.eq_nil_of_length_eq_zero (by rw [List.length_append] at h0; omega)
    subst this
    rw [hv.1, hv.2.2]
    exact Own.nil _ _ _ _
  · refine ⟨D.L_len xs, .inr ⟨g, cap', cur, ?_, hb, hg, ?_, hm, hcs, ?_⟩⟩
    · simp only [Value.slice.injEq] at hv ⊢
      exact ⟨hv.1, trivial, hv.2.2⟩
    · rw [List.length_append] at hl; omega
    · have := congrArg (List.take (xs.length * D.c)) htk
      rw [List.take_take, D.L_app, List.take_left' (D.L_len xs), List.length_append, Nat.min_eq_left (Nat.mul_le_mul_right _ (by omega))] at this
      exact this
/-- The blocks of lists that were told. -/
def EB (K : List Sl) : Nat → Prop := fun k => ∃ e ∈ K, At e.a k
/-- Such in a row, each owned, no two in one block; what they hold. -/
structure Erow (D : Kn α) (w : World) (lo : Nat) (K : List Sl) (Z : Nat → List α) : Prop where
  ok : ∀ (i : Nat) (e : Sl), K[i]? = some e → (Z i).length = e.l ∧ OwG D w lo e.a e.k (Z i) ∧ e.l ≤ 2000000
  dis : ∀ (i j : Nat) (e f : Sl) (g : Nat), K[i]? = some e → K[j]? = some f → At e.a g → At f.a g → i = j
theorem Erow.kept {S : Nat → Prop} {w w' : World} {lo : Nat} {K : List Sl} {Z : Nat → List α} (h : Erow D w lo K Z) (hk : Kept S w w') (hS : ∀ k, EB K k → ¬ S k) : Erow D w' lo K Z :=
  ⟨fun i e he => ⟨(h.ok i e he).1, (h.ok i e he).2.1.kept hk (fun k hk => hS k ⟨e, List.mem_of_getElem? he, hk⟩), (h.ok i e he).2.2⟩, h.dis⟩
theorem Erow.no {w w' : World} {lo : Nat} {K : List Sl} {Z : Nat → List α} (h : Erow D w lo K Z) (hk : Kept No w w') : Erow D w' lo K Z := h.kept hk (fun _ _ e => e)
theorem Erow.lo {w : World} {lo : Nat} {K : List Sl} {Z : Nat → List α} (h : Erow D w lo K Z) {k : Nat} (hk : EB K k) : lo ≤ k ∧ k < w.heap.size ∧ ∃ cur, Box w k D.E cur := by
  obtain ⟨e, he, ha⟩ := hk
  obtain ⟨i, hi⟩ := List.mem_iff_getElem?.1 he
  have := (h.ok i e hi).2.1
  exact ⟨Own.base this ha, this.lt ha, this.ty ha⟩
theorem Erow.nil (w : World) (lo : Nat) (Z : Nat → List α) : Erow D w lo [] Z := ⟨fun i e h => by simp at h, fun i j e f g h => by simp at h⟩
/-- One more, new. -/
theorem Erow.add {w : World} {lo : Nat} {K : List Sl} {Z : Nat → List α} (h : Erow D w lo K Z) {e : Sl} {zs : List α} (hl : zs.length = e.l) (ho : OwG D w lo e.a e.k zs) (hb : e.l ≤ 2000000) (hn : ∀ k, At e.a k → ¬ EB K k) :
    Erow D w lo (K ++ [e]) (fun i => if i = K.length then zs else Z i) := by
  have key : ∀ i f, (K ++ [e])[i]? = some f → (i < K.length ∧ K[i]? = some f) ∨ (i = K.length ∧ f = e) := by
    intro i f hf
    by_cases hi : i < K.length
    · rw [List.getElem?_append_left hi] at hf; exact .inl ⟨hi, hf⟩
    · rw [List.getElem?_append_right (by omega)] at hf
      have h0 : i - K.length = 0 := by have := (List.getElem?_eq_some_iff.1 hf).1; simp at this; omega
      rw [h0] at hf
      simp at hf
      exact .inr ⟨by omega, hf.symm⟩
  refine ⟨fun i f hf => ?_, fun i j f f' g hi hj hg hg' => ?_⟩
  · rcases key i f hf with ⟨hi, hf⟩ | ⟨rfl, rfl⟩
    · simp only [if_neg (show ¬ i = K.length by omega)]; exact h.ok i f hf
    · simp only [if_true]; exact ⟨hl, ho, hb⟩
  · rcases key i f hi with ⟨h1, h2⟩ | ⟨h1, h2⟩ <;> rcases key j f' hj with ⟨h3, h4⟩ | ⟨h3, h4⟩
    · exact h.dis i j f f' g h2 h4 hg hg'
    · subst h4; exact absurd ⟨f, List.mem_of_getElem? h2, hg⟩ (hn g hg')
    · subst h2; exact absurd ⟨f', List.mem_of_getElem? h4, hg'⟩ (hn g hg)
    · omega
/-- One element of one of them. -/
theorem Erow.set {w : World} {lo : Nat} {K : List Sl} {Z : Nat → List α} (h : Erow D w lo K Z) {i j g : Nat} {e : Sl} (he : K[i]? = some e) (ha : e.a = some ⟨g, 0, none⟩) (hj : j < e.l) (x : α) {v : Value} (hv : v.cells = (D.cs x).toArray) (hz : (Try.prog.info? D.E).map (·.size) = some D.c) (h1 : ∀ u ∈ D.cs x, u.oneCell' = true) :
    ∃ cs', (storeVar D.E ⟨g, 0 + j * D.c, none⟩ v).run Try.prog w = .ok () (w.setRow g cs') ∧ Erow D (w.setRow g cs') lo K (fun q => if q = i then (Z i).set j x else Z q) := by
  have hi := h.ok i e he
  obtain ⟨cs', hr, ho⟩ := Own.setN (ty := D.E) (y := D.cs x) (xs := (Z i).map D.cs) hi.2.1 (D.L_c _) (by rw [List.length_map]) (i := j) (g := g) (by rw [hi.1]; exact hj) ha hv (by rw [D.hc]; exact hz) h1 (D.hc x)
  refine ⟨cs', hr, fun q f hf => ?_, h.dis⟩
  by_cases hq : q = i
  · subst hq
    rw [he] at hf
    cases hf
    simp only [if_true, List.length_set]
    refine ⟨hi.1, ?_, hi.2.2⟩
    unfold OwG Kn.L
    rw [List.length_set, List.map_set]
    exact ho
  · simp only [if_neg hq]
    have h2 := h.ok q f hf
    refine ⟨h2.1, h2.2.1.kept (Kept.setRow _ _ _) (fun k hk eo => hq ?_), h2.2.2⟩
    have eo' : k = g := eo
    subst eo'
    exact h.dis q i f e k hf he hk ⟨_, ha, rfl⟩
/-- A row of them in memory. -/
def Rw (D : Kn α) (w : World) (base : Nat) (ra : Option Addr) (rc : Nat) (K : List Sl) : Prop := Own D.R 1 w base ra rc K.length (K.map Sl.v)
theorem Rw.kept {S : Nat → Prop} {w w' : World} {base : Nat} {a : Option Addr} {c : Nat} {K : List Sl} (h : Rw D w base a c K) (hk : Kept S w w') (hS : ∀ k, At a k → ¬ S k) : Rw D w' base a c K := Own.kept h hk hS
theorem Rw.no {w w' : World} {base : Nat} {a : Option Addr} {c : Nat} {K : List Sl} (h : Rw D w base a c K) (hk : Kept No w w') : Rw D w' base a c K := Own.no h hk
theorem Rw.nil (w : World) (base : Nat) : Rw D w base none 0 [] := Own.nil _ _ _ _
theorem Rw.at {w : World} {base : Nat} {a : Option Addr} {c : Nat} {K : List Sl} (h : Rw D w base a c K) {i : Nat} {e : Sl} (he : K[i]? = some e) : ∃ g, a = some ⟨g, 0, none⟩ ∧ w.cell? ⟨g, 0 + i * 1, none⟩ = some e.v := by
  have hi := (List.getElem?_eq_some_iff.1 he).1
  obtain ⟨g, ea⟩ := Own.sm h (by omega)
  subst ea
  refine ⟨g, rfl, ?_⟩
  rw [Nat.zero_add, Nat.mul_one]
  have := World.ownsRow.cells h (by rfl) i e.v (by rw [List.getElem?_map, he]; rfl)
  simpa [addr_add] using this
theorem Rw.base {w : World} {base : Nat} {a : Option Addr} {c : Nat} {K : List Sl} (h : Rw D w base a c K) {k : Nat} (hk : At a k) : base ≤ k := Own.base h hk
theorem Rw.ty {w : World} {base : Nat} {a : Option Addr} {c : Nat} {K : List Sl} (h : Rw D w base a c K) {k : Nat} (hk : At a k) : ∃ cur, Box w k D.R cur := Own.ty h hk
theorem Rw.apart {w : World} {base lo : Nat} {a : Option Addr} {c : Nat} {K L : List Sl} {Z : Nat → List α} (h : Rw D w base a c K) (hE : Erow D w lo L Z) {k : Nat} (hk : At a k) : ¬ EB L k := by
  intro hb
  obtain ⟨cur, h1⟩ := h.ty hk
  obtain ⟨_, _, cur', h2⟩ := hE.lo hb
  exact box_ne h2 h1 D.ne rfl
/-- The marks of list i; what is put behind. -/
def marksOf (D : Kn α) (i l : Nat) : List α := (List.range l).map (D.mm i)
def growsOf (D : Kn α) (i l : Nat) : List α := (List.range l).map (D.mr i)
theorem marksOf_len (i l : Nat) : (marksOf D i l).length = l := by simp [marksOf]
theorem growsOf_len (i l : Nat) : (growsOf D i l).length = l := by simp [growsOf]
theorem growsOf_succ (i l : Nat) : growsOf D i (l + 1) = growsOf D i l ++ [D.mr i l] := by simp [growsOf, List.range_succ]
theorem gr_len2 (i l j : Nat) : (marksOf D i l ++ growsOf D i j).length = l + j := by rw [List.length_append, marksOf_len, growsOf_len]
theorem take_set_marks {zs : List α} {i j : Nat} (h : zs.take j = marksOf D i j) (hj : j < zs.length) : (zs.set j (D.mm i j)).take (j + 1) = marksOf D i (j + 1) := by
  have e : marksOf D i (j + 1) = marksOf D i j ++ [D.mm i j] := by simp [marksOf, List.range_succ]
  rw [e, ← h]
  apply List.ext_getElem?
  intro q
  simp only [List.getElem?_take, List.getElem?_set, List.getElem?_append, List.length_take]
  rw [Nat.min_eq_left (by omega)]
  by_cases h1 : q < j
  · simp [h1, show q < j + 1 by omega, show ¬ j = q by omega]
  · by_cases h2 : q = j
    · subst h2; simp [hj]
    · simp [h1, show ¬ q < j + 1 by omega, show q - j ≠ 0 by omega]
/-- The marks are laid: up to list i. -/
structure Ph1 (D : Kn α) (w wr : World) (base lo : Nat) (ra : Option Addr) (rc : Nat) (K : List Sl) (i : Nat) : Prop where
  row : Rw D wr base ra rc K
  kept : Kept (EB K) w wr
  ex : ∃ Z, Erow D wr lo K Z ∧ ∀ q, q < i → Z q = marksOf D q (Z q).length
/-- .. and up to element j of list i. -/
structure Ph1j (D : Kn α) (w wr : World) (base lo : Nat) (ra : Option Addr) (rc : Nat) (K : List Sl) (i j : Nat) : Prop where
  row : Rw D wr base ra rc K
  kept : Kept (EB K) w wr
  ex : ∃ Z, Erow D wr lo K Z ∧ (∀ q, q < i → Z q = marksOf D q (Z q).length) ∧ (Z i).take j = marksOf D i j
theorem Ph1j.sm {w wr : World} {base lo : Nat} {ra : Option Addr} {rc : Nat} {K : List Sl} {i j : Nat} (h : Ph1j D w wr base lo ra rc K i j) {e : Sl} (he : K[i]? = some e) (hj : j < e.l) : ∃ g, e.a = some ⟨g, 0, none⟩ := by
  obtain ⟨h1, h2, Z, h3, h4⟩ := h
  obtain ⟨hl, ho, _⟩ := h3.ok i e he
  exact Own.sm ho (by omega)
theorem Ph1j.set {w wr : World} {base lo : Nat} {ra : Option Addr} {rc : Nat} {K : List Sl} {i j : Nat} (h : Ph1j D w wr base lo ra rc K i j) {e : Sl} (he : K[i]? = some e) (hj : j < e.l) {g : Nat} (ha : e.a = some ⟨g, 0, none⟩) {v : Value} (hv : v.cells = (D.cs (D.mm i j)).toArray) (hz : (Try.prog.info? D.E).map (·.size) = some D.c) (hone : ∀ u ∈ D.cs (D.mm i j), u.oneCell' = true) :
    ∃ cs', (storeVar D.E ⟨g, 0 + j * D.c, none⟩ v).run Try.prog wr = .ok () (wr.setRow g cs') ∧ Ph1j D w (wr.setRow g cs') base lo ra rc K i (j + 1) := by
  obtain ⟨h1, h2, Z, h3, h4, h5⟩ := h
  have hb : EB K g := ⟨e, List.mem_of_getElem? he, _, ha, rfl⟩
  obtain ⟨cs', hr, hE⟩ := h3.set he ha hj (D.mm i j) hv hz hone
  refine ⟨cs', hr, h1.kept (Kept.setRow _ _ _) (fun k hk eo => ?_), h2.trans (Kept.setRow _ _ _) (fun _ e => e) (fun k _ eo => ?_), _, hE, fun q hq => ?_, ?_⟩
  · have eo' : k = g := eo
    subst eo'
    exact h1.apart h3 hk hb
  · have eo' : k = g := eo
    subst eo'
    exact hb
  · have : ¬ q = i := by omega
    simp only [if_neg this]
    exact h4 q hq
  · simp only [if_true]
    exact take_set_marks h5 (by rw [(h3.ok i e he).1]; exact hj)
theorem OwG.at {w : World} {lo g k : Nat} {zs : List α} (h : OwG D w lo (some ⟨g, 0, none⟩) k zs) {q : Nat} {x : α} (hq : zs[q]? = some x) : ∀ (j : Nat) v, (D.cs x)[j]? = some v → w.cell? ⟨g, 0 + q * D.c + j, none⟩ = some v := by
  intro j v hv
  have := World.ownsRow.cells h (by rfl) (q * D.c + j) v (flat_get D.c (zs.map D.cs) (D.L_c zs) q (D.cs x) (by rw [List.getElem?_map, hq]; rfl) j v hv)
  rw [addr_add] at this
  rw [Nat.add_assoc]
  exact this
/-- Lists that grow in turns: how many were put behind each. -/
structure Gz (D : Kn α) (w wr : World) (base lo : Nat) (ra : Option Addr) (rc : Nat) (K : List Sl) (ma : Option Addr) (mc : Nat) (M : List Sl) (c : Nat → Nat) : Prop where
  row : Rw D wr base ra rc K
  kept : Kept (EB K) w wr
  more : Rw D wr w.heap.size ma mc M
  len : M.length = K.length
  each : ∀ (q : Nat) (e f : Sl), K[q]? = some e → M[q]? = some f → f.l = e.l + c q ∧ OwG D wr lo e.a e.k (marksOf D q e.l) ∧ OwG D wr lo f.a f.k (marksOf D q e.l ++ growsOf D q (c q)) ∧ (f.a = e.a ∨ ∀ k, At f.a k → w.heap.size ≤ k) ∧ e.l ≤ 2000000
  dis : ∀ (i j : Nat) (e f : Sl) (g : Nat), M[i]? = some e → M[j]? = some f → At e.a g → At f.a g → i = j
  old : ∀ (q : Nat) (e : Sl) (k : Nat), K[q]? = some e → At e.a k → k < w.heap.size
  odis : ∀ (i j : Nat) (e f : Sl) (g : Nat), K[i]? = some e → K[j]? = some f → At e.a g → At f.a g → i = j
  rowOld : ∀ k, At ra k → k < w.heap.size
theorem Gz.no {w wr w' : World} {base lo : Nat} {ra : Option Addr} {rc : Nat} {K : List Sl} {ma : Option Addr} {mc : Nat} {M : List Sl} {c : Nat → Nat} (h : Gz D w wr base lo ra rc K ma mc M c) (hk : Kept No wr w') : Gz D w w' base lo ra rc K ma mc M c :=
  ⟨h.row.no hk, h.kept.then hk.of_no, h.more.no hk, h.len, fun q e f he hf => ⟨(h.each q e f he hf).1, (h.each q e f he hf).2.1.no hk, (h.each q e f he hf).2.2.1.no hk, (h.each q e f he hf).2.2.2⟩, h.dis, h.old, h.odis, h.rowOld⟩
theorem Gz.start {w wr w' : World} {base lo : Nat} {ra : Option Addr} {rc : Nat} {K : List Sl} {ma : Option Addr} {mc n : Nat} (h : Ph1 D w wr base lo ra rc K n) (hn : K.length = n) (hE : ∃ Z, Erow D w lo K Z) (hra : ∀ k, At ra k → k < w.heap.size) (hm : Own D.R 1 w' wr.heap.size ma mc K.length (K.map Sl.v)) (hk : Kept No wr w') : Gz D w w' base lo ra rc K ma mc K (fun _ => 0) := by
  obtain ⟨h1, h2, Z, h3, h4⟩ := h
  obtain ⟨Z0, hE⟩ := hE
  refine ⟨h1.no hk, h2.then hk.of_no, Own.lower hm h2.size, rfl, fun q e f he hf => ?_, h3.dis, fun q e k he ha => (hE.lo ⟨e, List.mem_of_getElem? he, ha⟩).2.1, h3.dis, hra⟩
  rw [he] at hf
  cases hf
  have hq : q < n := by rw [← hn]; exact (List.getElem?_eq_some_iff.1 he).1
  have h5 := h3.ok q e he
  have h6 := h4 q hq
  rw [h5.1] at h6
  have h7 : OwG D w' lo e.a e.k (marksOf D q e.l) := by rw [← h6]; exact h5.2.1.no hk
  exact ⟨rfl, h7, by simpa [growsOf] using h7, .inl rfl, h5.2.2⟩
theorem ap_set {M : List Sl} {i j : Nat} {f' e : Sl} (h : (M.set i f')[j]? = some e) : (j = i ∧ e = f') ∨ (j ≠ i ∧ M[j]? = some e) := by
  rw [List.getElem?_set] at h
  split at h
  · rename_i hij
    split at h
    · exact .inl ⟨hij.symm, by cases h; rfl⟩
    · cases h
  · rename_i hij
    exact .inr ⟨fun e => hij e.symm, h⟩
theorem flat1 (L : List Sl) : (L.map (fun s => [Sl.v s])).flatten = L.map Sl.v := by
  induction L with
  | nil => rfl
  | cons a r ih => rw [List.map_cons, List.flatten_cons, ih]; rfl
/-- One is appended to list i, and what comes of it is put back into the row. -/
theorem Gz.grow {w wr : World} {base lo : Nat} {ra : Option Addr} {rc : Nat} {K : List Sl} {mg : Nat} {mc : Nat} {M : List Sl} {c : Nat → Nat} (h : Gz D w wr base lo ra rc K (some ⟨mg, 0, none⟩) mc M c) {i : Nat} {e f : Sl} (he : K[i]? = some e) (hf : M[i]? = some f) {by' : Nat} {z : Value} (ht : Try.prog.underlying D.R = some (.slice D.E))
    (hinf : (Try.prog.info? D.E).map (fun i => (i.zero, i.size, i.bytes)) = some (some z, D.c, by')) (hzc : z.cells.size = D.c) (h1 : ∀ u ∈ D.cs (D.mr i (c i)), u.oneCell' = true) (hby : by' ≤ 1000) (hci : c i ≤ 1000) (hlo : lo ≤ wr.heap.size) (hR : (Try.prog.info? D.R).map (·.size) = some 1) :
    ∃ a4 c4 w4 cs', (Builtin.append_ #[D.R, D.R] D.R #[.slice f.a f.l f.k, .slice (some ⟨wr.heap.size, 0, none⟩) 1 1]).run Try.prog (wr.alloc (.cells (D.cs (D.mr i (c i))).toArray D.E)) = .ok (.slice a4 (f.l + 1) c4) w4 ∧
      (storeVar D.R ⟨mg, 0 + i * 1, none⟩ (.slice a4 (f.l + 1) c4)).run Try.prog w4 = .ok () (w4.setRow mg cs') ∧ Gz D w (w4.setRow mg cs') base lo ra rc K (some ⟨mg, 0, none⟩) mc (M.set i ⟨a4, f.l + 1, c4⟩) (fun q => if q = i then c i + 1 else c q) := by
  obtain ⟨x, hx⟩ : ∃ x, x = D.mr i (c i) := ⟨_, rfl⟩
  rw [← hx] at h1 ⊢
  have hk1 : Kept No wr (wr.alloc (.cells (D.cs x).toArray D.E)) := (Kept.refl No _).alloc _
  have hbx := Box.new wr D.E (D.cs x).toArray
  have hsz1 : (wr.alloc (.cells (D.cs x).toArray D.E)).heap.size = wr.heap.size + 1 := by simp
  obtain ⟨hfl, ho, hn, hwh, hel⟩ := h.each i e f he hf
  have hlen : (marksOf D i e.l ++ growsOf D i (c i)).length = f.l := by rw [gr_len2, hfl]
  have hn1 := hn.no hk1
  unfold OwG at hn1
  rw [hlen] at hn1
  obtain ⟨a4, c4, w4, hrun, ho4, hc4⟩ := run_appG (w := wr.alloc (.cells (D.cs x).toArray D.E)) D.R D.R D.E D.c by' z ht hinf hzc D.h0 lo f.l f.k f.a _ hn1 ⟨wr.heap.size, 0, none⟩ 1 (D.cs x) (D.hc x) (fun j u hj => by rw [addr_add, Nat.zero_add, hbx.cell, List.getElem?_toArray]; exact hj) h1 (by
    have : (f.l + 1) * by' ≤ 2001001 * 1000 := Nat.mul_le_mul (by omega) hby
    omega) (by omega) (Nat.le_trans hlo hk1.size)
  have hk4 : Kept (At f.a) wr w4 := by
    rcases hc4 with ⟨_, _, hk⟩ | ⟨_, hk⟩
    · exact hk1.of_no.then hk
    · exact (hk1.then hk).of_no
  have hiM : i < M.length := (List.getElem?_eq_some_iff.1 hf).1
  have hfR : ∀ k, At (some (⟨mg, 0, none⟩ : Addr)) k → ¬ At f.a k := fun k hk hk' => by
    obtain ⟨c1, b1⟩ := h.more.ty hk
    obtain ⟨c2, b2⟩ := hn.ty hk'
    exact box_ne b2 b1 D.ne rfl
  have hmore4 : Rw D w4 w.heap.size (some ⟨mg, 0, none⟩) mc M := h.more.kept hk4 hfR
  unfold Rw at hmore4
  obtain ⟨cs', hst, hown⟩ := Own.setN (ty := D.R) (T := D.R) (c := 1) (xs := M.map (fun s => [Sl.v s])) (W := w4) (base := w.heap.size) (a := some ⟨mg, 0, none⟩) (cap := mc) (n := M.length) (by
    rw [flat1]; exact hmore4) (by intro x hx; obtain ⟨s, _, rfl⟩ := List.mem_map.1 hx; rfl) (by simp) hiM rfl (v := .slice a4 (f.l + 1) c4) (y := [.slice a4 (f.l + 1) c4]) rfl hR (by simp [Value.oneCell']) rfl
  have hown' : Rw D (w4.setRow mg cs') w.heap.size (some ⟨mg, 0, none⟩) mc (M.set i ⟨a4, f.l + 1, c4⟩) := by
    unfold Rw
    rw [List.length_set]
    have e1 : ((M.map (fun s => [Sl.v s])).set i [.slice a4 (f.l + 1) c4]).flatten = (M.set i ⟨a4, f.l + 1, c4⟩).map Sl.v := by
      rw [← flat1, List.map_set]
      rfl
    rw [e1] at hown
    exact hown
  have hks : Kept (Only mg) w4 (w4.setRow mg cs') := Kept.setRow _ _ _
  have hmgbox : ∃ cur, Box w4 mg D.R cur := Own.ty hmore4 ⟨_, rfl, rfl⟩
  have offM : ∀ {a : Option Addr} {k : Nat} {zs : List α}, OwG D w4 lo a k zs → ∀ q, At a q → ¬ Only mg q := fun ho q hq eo => by
    obtain ⟨c1, b1⟩ := hmgbox
    obtain ⟨c2, b2⟩ := ho.ty hq
    have eo : q = mg := eo
    subst eo
    exact box_ne b2 b1 D.ne rfl
  have hmgw : w.heap.size ≤ mg := h.more.base ⟨_, rfl, rfl⟩
  -- where list i lies now
  have hwh4 : a4 = e.a ∨ ∀ k, At a4 k → w.heap.size ≤ k := by
    rcases hc4 with ⟨rfl, _, _⟩ | ⟨hfresh, _⟩
    · exact hwh
    · exact .inr (fun k hk => by have := hfresh k hk; have := h.kept.size; omega)
  have hdis4 : ∀ (q : Nat) (f' : Sl) (g : Nat), q ≠ i → M[q]? = some f' → At a4 g → ¬ At f'.a g := by
    intro q f' g hq hf' hg hg'
    rcases hc4 with ⟨rfl, _, _⟩ | ⟨hfresh, _⟩
    · exact hq (h.dis q i f' f g hf' hf hg' hg)
    · have h2 := hfresh g hg
      obtain ⟨e', he'⟩ : ∃ e', K[q]? = some e' := ⟨_, List.getElem?_eq_getElem (by rw [← h.len]; exact (List.getElem?_eq_some_iff.1 hf').1)⟩
      have := (h.each q e' f' he' hf').2.2.1.lt hg'
      omega
  have old4 : ∀ (q : Nat) (e' : Sl), K[q]? = some e' → OwG D w4 lo e'.a e'.k (marksOf D q e'.l) := by
    intro q e' he'
    obtain ⟨f', hf'⟩ : ∃ f', M[q]? = some f' := ⟨_, List.getElem?_eq_getElem (by rw [h.len]; exact (List.getElem?_eq_some_iff.1 he').1)⟩
    have hq := h.each q e' f' he' hf'
    by_cases hqi : q = i
    · subst hqi
      rw [he] at he'
      cases he'
      rcases hc4 with ⟨e1, e2, hk⟩ | ⟨_, hk⟩
      · rcases hwh with hw | hw
        · have h9 : OwG D w4 lo a4 c4 (marksOf D q e.l ++ (growsOf D q (c q) ++ [x])) := by
            unfold OwG
            rw [← List.append_assoc, D.L_app, D.L_1, List.length_append (bs := [x]), hlen]
            exact ho4
          have h10 := h9.front
          rw [e1, hw] at h10
          rcases ho.2 with ⟨hv, h0⟩ | ⟨g, cap', cur, hv, hb, hg, hl, hm', hcs, htk⟩
          · simp only [Value.slice.injEq] at hv
            have hz : marksOf D q e.l = [] := List.eq_nil_of_length_eq_zero h0
            rw [hz, hv.1, hv.2.2]
            exact Own.nil _ _ _ _
          · rw [e2] at h10
            simp only [Value.slice.injEq] at hv
            have hk' : f.k = e.k := by
              rw [hw] at hn
              rcases hn.2 with ⟨hv2, _⟩ | ⟨g2, cap2, cur2, hv2, hb2, hg2, hl2, hm2, hcs2, _⟩
              · simp only [Value.slice.injEq] at hv2
                rw [hv2.1] at hv; cases hv.1
              · simp only [Value.slice.injEq] at hv2
                have e3 := hv.1.symm.trans hv2.1
                cases e3
                rw [hg] at hg2
                cases hg2
                have h11 : cap' * D.c = cap2 * D.c := by rw [← hcs, ← hcs2]
                have h12 := Nat.eq_of_mul_eq_mul_right D.h0 h11
                rw [hv2.2.2, hv.2.2, h12]
            rw [hk'] at h10
            exact h10
        · exact ho.kept hk4 (fun k hk2 hk3 => by have := hw k hk3; have := h.old q e k he hk2; omega)
      · exact ho.no (hk1.then hk)
    · refine hq.2.1.kept hk4 (fun k hk2 hk3 => ?_)
      rcases hwh with hw | hw
      · rw [hw] at hk3
        exact hqi (h.odis q i e' e k he' he hk2 hk3)
      · have := hw k hk3; have := h.old q e' k he' hk2; omega
  refine ⟨a4, c4, w4, cs', hrun, hst, ⟨?_, ?_, hown', by rw [List.length_set]; exact h.len, ?_, ?_, h.old, h.odis, h.rowOld⟩⟩
  · refine (h.row.kept hk4 (fun k hk hk' => ?_)).kept hks (fun k hk eo => ?_)
    · obtain ⟨c1, b1⟩ := h.row.ty hk
      obtain ⟨c2, b2⟩ := hn.ty hk'
      exact box_ne b2 b1 D.ne rfl
    · have eo : k = mg := eo
      have := h.rowOld k hk
      omega
  · refine (h.kept.trans hk4 (fun _ e => e) (fun k hk hk' => ?_)).trans hks (fun _ e => e) (fun k hk eo => ?_)
    · rcases hwh with hw | hw
      · rw [hw] at hk'; exact ⟨e, List.mem_of_getElem? he, hk'⟩
      · have := hw k hk'; omega
    · have eo : k = mg := eo
      omega
  · intro q e' f' he' hf'
    rcases ap_set hf' with ⟨rfl, rfl⟩ | ⟨hq, hf'⟩
    · rw [he] at he'
      cases he'
      refine ⟨by simp only [if_true]; omega, (old4 q e he).kept hks (offM (old4 q e he)), ?_, hwh4, hel⟩
      have h9 : OwG D w4 lo a4 c4 (marksOf D q e.l ++ growsOf D q (c q + 1)) := by
        unfold OwG
        rw [growsOf_succ, ← hx, ← List.append_assoc, D.L_app, D.L_1, List.length_append (bs := [x]), hlen]
        exact ho4
      simp only [if_true]
      exact h9.kept hks (offM h9)
    · obtain ⟨g1, g2, g3, g4, g5⟩ := h.each q e' f' he' hf'
      simp only [if_neg hq]
      have g3' : OwG D w4 lo f'.a f'.k (marksOf D q e'.l ++ growsOf D q (c q)) := g3.kept hk4 (fun k hk hk' => hq (h.dis q i f' f k hf' hf hk hk'))
      exact ⟨g1, (old4 q e' he').kept hks (offM (old4 q e' he')), g3'.kept hks (offM g3'), g4, g5⟩
  · intro p q e' f' g hp hq hg hg'
    rcases ap_set hp with ⟨h1, h2⟩ | ⟨hp', hp2⟩ <;> rcases ap_set hq with ⟨h3, h4⟩ | ⟨hq', hq2⟩
    · omega
    · subst h2; exact absurd hg' (hdis4 q f' g hq' hq2 hg)
    · subst h4; exact absurd hg (hdis4 p e' g hp' hp2 hg')
    · exact h.dis p q e' f' g hp2 hq2 hg hg'

end
end Gx
end Go.Proofs.Ytpabpeppgpeaoaa.Md
namespace Go.Proofs.Ytpabpeppgpeaoaa.Md
open Go.RowKit Gt
set_option linter.unusedVariables false
set_option linter.unusedSimpArgs false

open Gx in
/-- Lists of messages: their marks, what is put behind. -/
def DM : Gx.Kn Mg where
  E := 47
  R := 66
  c := 30
  cs := Mg.cs
  mm := fun i j => ⟨((500 + i : Nat) : Int), adZ, adZ, ((j : Nat) : Int), 0, kyZ, spZ, spZ, slZ, cZ, bvZ, slZ, false⟩
  mr := fun i j => ⟨((900 + i : Nat) : Int), adZ, adZ, ((j : Nat) : Int), 0, kyZ, spZ, spZ, slZ, cZ, bvZ, slZ, false⟩
  hc := fun _ => rfl
  h0 := by decide
  ne := by decide
namespace Gx
end Gx
open Gx
end Go.Proofs.Ytpabpeppgpeaoaa.Md
