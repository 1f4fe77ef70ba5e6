import Derived.Test.YtphiokehcgbldaaHq
namespace Go.Proofs.Ytphiokehcgbldaa
open Go.RowKit
set_option linter.unusedVariables false
set_option linter.unusedSimpArgs false
set_option maxRecDepth 100000
namespace Gx
/-- append(s, x...): s the call's own, x whatever; in its place, or moved while nothing else has turned. -/
theorem wp_appN {P : Program} (w : World) {ops : Array Oper} {rest : List Oper} {o : Oper} {a : Act} {Q : Exit → Act → World → Prop}
    (t e : TypeId) (z : Value) (size bytes : Nat) (ht : P.underlying t = some (.slice e)) (he : (P.info? e).map (fun i => (i.zero, i.size, i.bytes)) = some (some z, size, bytes)) (hz : z.cells.size = size) (hsz : 0 < size)
    (hgd : o.guard = Option.none) (s x : Operand) (ho : o.op = .call { callee := .builtin .append, args := #[s, x], argTypes := #[t, t] })
    (base : Nat) (sa : Option Addr) (sn sc : Nat) (xs : List Value) (hs : a.eval s = .slice sa sn sc) (hown : w.ownsRow base e size (.slice sa sn sc) sn xs)
    (ad : Addr) (xn xc : Nat) (news : List Value) (hx : a.eval x = .slice (some ad) xn xc) (hxn : news.length = xn * size)
    (hc : ∀ (j : Nat) u, news[j]? = some u → w.cell? (ad.add j) = some u) (h1c : ∀ u ∈ news, u.oneCell' = true)
    (hlen : sn + xn ≤ 140737488355328) (hby : (sn + xn) * bytes ≤ 140737488355328) (hbase : base ≤ w.heap.size)
    (h : ∀ a' c' w', Hid (w'.ownsRow base e size (.slice a' (sn + xn) c') (sn + xn) (xs ++ news)) → Hid ((a' = sa ∧ c' = sc ∧ Kept (At sa) w w') ∨ ((∀ k, At a' k → w.heap.size ≤ k) ∧ Kept No w w')) → wpList P ops Q rest (a.put o.dst (.slice a' (sn + xn) c')) w') :
    wpList P ops Q (o :: rest) a w := by
  obtain ⟨i0, hi, hz0, hz1, hz2⟩ := info_parts he
  rcases hown.2 with ⟨hv, hn0⟩ | ⟨g, cap', cur, hv, hb, hg, hl, hm, hcs, htk⟩
  · simp only [Value.slice.injEq] at hv
    obtain ⟨rfl, rfl, rfl⟩ := hv
    have hxs : xs = [] := List.eq_nil_of_length_eq_zero (by have := hown.1; simpa using this)
    subst hxs
    refine wpList_append_own _ hgd s x t ho w.heap.size e i0 z size bytes ht hi hz0 hz1 hz2 hz hsz _ 0 [] hs (World.ownsRow_nil _ _ _ _) ad xn xc news hx hxn hc h1c (by unfold maxLen; omega) hby (Nat.le_refl _) ?_
    intro v' w' hown' hgrow _
    obtain ⟨a', c', rfl⟩ := own_slice hown'
    refine h a' c' w' ⟨hown'.1, ?_⟩ (.inr ⟨fun k hk => own_at hown' hk, (Kept.refl _ _).grown hgrow (fun k e _ => by simp [Value.ownBlock] at e)⟩)
    rcases hown'.2 with hl' | ⟨g, cap', cur, e1, e2, e3⟩
    · exact .inl hl'
    · exact .inr ⟨g, cap', cur, e1, by omega, e3⟩
  · simp only [Value.slice.injEq] at hv
    obtain ⟨rfl, -, rfl⟩ := hv
    by_cases hfit : sn + xn ≤ sc
    · refine wpList_append_fits_any _ hgd s x t ho base e i0 size ht hi hz1 g sn sc xs hs hown (some ad) xn xc news hx hxn (fun e => by cases e) (fun ad' e => by cases e; exact hc) h1c hfit ?_
      intro w' hown' hgrow
      exact h _ _ w' hown' (.inl ⟨rfl, rfl, (Kept.refl _ _).grown hgrow (fun k e _ => by cases e; exact ⟨_, rfl, rfl⟩)⟩)
    · refine wpList_append_grows _ hgd s x t ho e i0 z size bytes ht hi hz0 hz1 hz2 hz hsz (some ⟨g, 0, none⟩) sn sc xs hs (fun e => by cases e) hown.1 ?_ ad xn xc news hx hxn hc h1c (by omega) (by unfold maxLen; omega) hby ?_
      · intro b eb j u hu
        cases eb
        exact hown.cells (by rfl) j u hu
      · intro v' w' hown' hgrow
        obtain ⟨a', c', rfl⟩ := own_slice hown'
        refine h a' c' w' ⟨hown'.1, ?_⟩ (.inr ⟨fun k hk => own_at hown' hk, kept_grown hgrow⟩)
        rcases hown'.2 with hl' | ⟨g, cap', cur, e1, e2, e3⟩
        · exact .inl hl'
        · exact .inr ⟨g, cap', cur, e1, by omega, e3⟩

/-- The front of what is owned. -/
theorem OwnS.front {w : World} {base : Nat} {a : Option Addr} {c : Nat} {xs ys : List Int} (h : OwnS w base a c (xs ++ ys)) (hn : a = Option.none → c = 0) : OwnS w base a c xs := by
  rcases h.2 with ⟨hv, h0⟩ | ⟨g, cap', cur, hv, hb, hg, hl, hm, hcs, htk⟩
  · simp only [Value.slice.injEq] at hv
    have : xs = [] := List.eq_nil_of_length_eq_zero (by rw [List.length_append] at h0; omega)
    subst this
    rw [hv.1, hv.2.2]
    exact OwnS.nil _ _
  · refine ⟨by simp, .inr ⟨g, cap', cur, ?_, hb, hg, ?_, hm, hcs, ?_⟩⟩
    · simp only [Value.slice.injEq] at hv ⊢
      exact ⟨hv.1, trivial, hv.2.2⟩
    · rw [List.length_append] at hl; omega
    · rw [Nat.mul_one] at htk ⊢
      have := congrArg (List.take xs.length) htk
      rw [List.take_take, List.map_append, List.take_left' (by simp)] at this
      rw [List.length_append, Nat.min_eq_left (by omega)] at this
      exact this

/-- Two blocks of bytes that the call owns, told apart from blocks of other types. -/
theorem OwnS.typ {w : World} {base : Nat} {a : Option Addr} {c : Nat} {zs : List Int} (h : OwnS w base a c zs) {k : Nat} (hk : At a k) : ∃ cur, w.heap[k]? = Option.some (.cells cur 5 (0, 0)) := own_type h hk

/-- A slice of bytes that was told. -/
structure Ent where
  a : Option Addr
  l : Nat
  c : Nat
def entV (e : Ent) : Value := .slice e.a e.l e.c
/-- The blocks of such. -/
def EB (K : List Ent) : Nat → Prop := fun k => ∃ e ∈ K, At e.a k
/-- Such in a row, each owned, no two in one block; what they hold. -/
structure Erow (w : World) (lo : Nat) (K : List Ent) (Z : Nat → List Int) : Prop where
  ok : ∀ (i : Nat) (e : Ent), K[i]? = some e → (Z i).length = e.l ∧ OwnS w lo e.a e.c (Z i) ∧ e.l ≤ 140737488351232
  dis : ∀ (i j : Nat) (e f : Ent) (g : Nat), K[i]? = some e → K[j]? = some f → At e.a g → At f.a g → i = j
theorem Erow.kept {S : Nat → Prop} {w w' : World} {lo : Nat} {K : List Ent} {Z : Nat → List Int} (h : Erow w lo K Z) (hk : Kept S w w') (hS : ∀ k, EB K k → ¬ S k) : Erow w' lo K Z :=
  ⟨fun i e he => ⟨(h.ok i e he).1, (h.ok i e he).2.1.kept hk (fun k hk => hS k ⟨e, List.mem_of_getElem? he, hk⟩), (h.ok i e he).2.2⟩, h.dis⟩
theorem Erow.no {w w' : World} {lo : Nat} {K : List Ent} {Z : Nat → List Int} (h : Erow w lo K Z) (hk : Kept No w w') : Erow w' lo K Z := h.kept hk (fun _ _ e => e)
theorem Erow.lo {w : World} {lo : Nat} {K : List Ent} {Z : Nat → List Int} (h : Erow w lo K Z) {k : Nat} (hk : EB K k) : lo ≤ k ∧ k < w.heap.size ∧ ∃ cur, w.heap[k]? = some (.cells cur 5 (0, 0)) := by
  obtain ⟨e, he, ha⟩ := hk
  obtain ⟨i, hi⟩ := List.mem_iff_getElem?.1 he
  have := (h.ok i e hi).2.1
  exact ⟨this.base ha, this.lt ha, this.typ ha⟩
theorem Erow.nil (w : World) (lo : Nat) (Z : Nat → List Int) : Erow w lo [] Z := ⟨fun i e h => by simp at h, fun i j e f g h => by simp at h⟩
/-- One more, new. -/
theorem Erow.add {w : World} {lo : Nat} {K : List Ent} {Z : Nat → List Int} (h : Erow w lo K Z) {e : Ent} {zs : List Int} (hl : zs.length = e.l) (ho : OwnS w lo e.a e.c zs) (hb : e.l ≤ 140737488351232) (hn : ∀ k, At e.a k → ¬ EB K k) :
    Erow w lo (K ++ [e]) (fun i => if i = K.length then zs else Z i) := by
  have key : ∀ i f, (K ++ [e])[i]? = some f → (i < K.length ∧ K[i]? = some f) ∨ (i = K.length ∧ f = e) := by
    intro i f hf
    by_cases hi : i < K.length
    · rw [List.getElem?_append_left hi] at hf; exact .inl ⟨hi, hf⟩
    · rw [List.getElem?_append_right (by omega)] at hf
      have h0 : i - K.length = 0 := by have := (List.getElem?_eq_some_iff.1 hf).1; simp at this; omega
      rw [h0] at hf
      simp at hf
      exact .inr ⟨by omega, hf.symm⟩
  refine ⟨fun i f hf => ?_, fun i j f f' g hi hj hg hg' => ?_⟩
  · rcases key i f hf with ⟨hi, hf⟩ | ⟨rfl, rfl⟩
    · simp only [if_neg (show ¬ i = K.length by omega)]; exact h.ok i f hf
    · simp only [if_true]; exact ⟨hl, ho, hb⟩
  · rcases key i f hi with ⟨h1, h2⟩ | ⟨h1, h2⟩ <;> rcases key j f' hj with ⟨h3, h4⟩ | ⟨h3, h4⟩
    · exact h.dis i j f f' g h2 h4 hg hg'
    · subst h4; exact absurd ⟨f, List.mem_of_getElem? h2, hg⟩ (hn g hg')
    · subst h2; exact absurd ⟨f', List.mem_of_getElem? h4, hg'⟩ (hn g hg)
    · omega
/-- One byte of one of them. -/
theorem Erow.set {w : World} {lo : Nat} {K : List Ent} {Z : Nat → List Int} (h : Erow w lo K Z) {i j g : Nat} {e : Ent} (he : K[i]? = some e) (ha : e.a = some ⟨g, 0, none⟩) (x : Int) :
    Erow (w.setCell ⟨g, j, none⟩ (.int .u8 x)) lo K (fun q => if q = i then (Z i).set j x else Z q) := by
  refine ⟨fun q f hf => ?_, h.dis⟩
  by_cases hq : q = i
  · subst hq
    rw [he] at hf
    cases hf
    simp only [if_true, List.length_set]
    have h1 := (h.ok q e he)
    refine ⟨h1.1, ?_, h1.2.2⟩
    rw [ha] at h1 ⊢
    exact h1.2.1.set2 j x
  · simp only [if_neg hq]
    have h1 := h.ok q f hf
    refine ⟨h1.1, h1.2.1.kept ((Kept.refl (Only g) w).setCell (p := ⟨g, j, none⟩) (fun _ => (rfl : g = g)) _) (fun k hk eo => hq ?_), h1.2.2⟩
    have eo' : k = g := eo
    subst eo'
    exact h.dis q i f e k hf he hk ⟨_, ha, rfl⟩

/-- A row of them in memory. -/
def Rw (w : World) (base : Nat) (ra : Option Addr) (rc : Nat) (K : List Ent) : Prop := w.ownsRow base 35 1 (.slice ra K.length rc) K.length (K.map entV)
theorem Rw.kept {S : Nat → Prop} {w w' : World} {base : Nat} {a : Option Addr} {c : Nat} {K : List Ent} (h : Rw w base a c K) (hk : Kept S w w') (hS : ∀ k, At a k → ¬ S k) : Rw w' base a c K := by
  refine ⟨h.1, ?_⟩
  rcases h.2 with hn | ⟨g, cap', cur, hv, hb, hg, rest⟩
  · exact .inl hn
  · refine .inr ⟨g, cap', cur, hv, hb, ?_, rest⟩
    rw [hk.block g (Array.getElem?_eq_some_iff.1 hg).1 (hS g ?_)]
    · exact hg
    · simp only [Value.slice.injEq] at hv
      exact ⟨_, hv.1, rfl⟩
theorem Rw.no {w w' : World} {base : Nat} {a : Option Addr} {c : Nat} {K : List Ent} (h : Rw w base a c K) (hk : Kept No w w') : Rw w' base a c K := h.kept hk (fun _ _ e => e)
theorem Rw.nil (w : World) (base : Nat) : Rw w base none 0 [] := World.ownsRow_nil _ _ _ _
theorem Rw.at {w : World} {base : Nat} {a : Option Addr} {c : Nat} {K : List Ent} (h : Rw w base a c K) {i : Nat} {e : Ent} (he : K[i]? = some e) : ∃ g, a = some ⟨g, 0, none⟩ ∧ w.cell? ⟨g, i, none⟩ = some (entV e) := by
  have hi := (List.getElem?_eq_some_iff.1 he).1
  rcases h.2 with ⟨hv, h0⟩ | ⟨g, cap', cur, hv, hb, hg, _⟩
  · omega
  · simp only [Value.slice.injEq] at hv
    obtain ⟨rfl, -, rfl⟩ := hv
    refine ⟨g, rfl, ?_⟩
    rw [World.ownsRow.cellAt h _ (by omega)]
    simp [he]
theorem Rw.base {w : World} {base : Nat} {a : Option Addr} {c : Nat} {K : List Ent} (h : Rw w base a c K) {k : Nat} (hk : At a k) : base ≤ k := own_at h hk
theorem Rw.typ {w : World} {base : Nat} {a : Option Addr} {c : Nat} {K : List Ent} (h : Rw w base a c K) {k : Nat} (hk : At a k) : ∃ cur, w.heap[k]? = some (.cells cur 35 (0, 0)) := own_type h hk
theorem Rw.apart {w : World} {base lo : Nat} {a : Option Addr} {c : Nat} {K L : List Ent} {Z : Nat → List Int} (h : Rw w base a c K) (hE : Erow w lo L Z) {k : Nat} (hk : At a k) : ¬ EB L k := by
  intro hb
  obtain ⟨cur, h1⟩ := h.typ hk
  obtain ⟨_, _, cur', h2⟩ := hE.lo hb
  rw [h1] at h2
  cases h2

/-- The marks of list i. -/
def marksOf (i l : Nat) : List Int := (List.range l).map (fun j => (markOf i j : Int))
theorem marksOf_len (i l : Nat) : (marksOf i l).length = l := by simp [marksOf]
theorem marksOf_at {i l j : Nat} (h : j < l) : (marksOf i l)[j]?.getD 0 = (markOf i j : Int) := by simp [marksOf, h]
theorem marksOf_succ (i l : Nat) : marksOf i (l + 1) = marksOf i l ++ [(markOf i l : Int)] := by simp [marksOf, List.range_succ]
theorem take_set_marks {zs : List Int} {i j : Nat} (h : zs.take j = marksOf i j) (hj : j < zs.length) : (zs.set j (markOf i j : Int)).take (j + 1) = marksOf i (j + 1) := by
  rw [marksOf_succ, ← h]
  apply List.ext_getElem?
  intro q
  simp only [List.getElem?_take, List.getElem?_set, List.getElem?_append, List.length_take]
  rw [Nat.min_eq_left (by omega)]
  by_cases h1 : q < j
  · simp [h1, show q < j + 1 by omega, show ¬ j = q by omega]
  · by_cases h2 : q = j
    · subst h2; simp [hj]
    · simp [h1, show ¬ q < j + 1 by omega, show q - j ≠ 0 by omega]
/-- What is put behind. -/
def growsOf (i l : Nat) : List Int := (List.range l).map (fun j => 255 - (markOf i j : Int))
theorem growsOf_len (i l : Nat) : (growsOf i l).length = l := by simp [growsOf]
theorem growsOf_at {i l j : Nat} (h : j < l) : (growsOf i l)[j]?.getD 0 = 255 - (markOf i j : Int) := by simp [growsOf, h]
theorem growsOf_succ (i l : Nat) : growsOf i (l + 1) = growsOf i l ++ [255 - (markOf i l : Int)] := by simp [growsOf, List.range_succ]

/-- A list under growth: out of e, j bytes behind. -/
structure Gr (wi wr : World) (lo : Nat) (e : Ent) (ms gs : List Int) (a' : Option Addr) (c' : Nat) : Prop where
  kept : Kept (At e.a) wi wr
  old : OwnS wr lo e.a e.c ms
  new : OwnS wr lo a' c' (ms ++ gs)
  was : ∀ k, At e.a k → k < wi.heap.size
  wher : (a' = e.a ∧ c' = e.c) ∨ ∀ k, At a' k → wi.heap.size ≤ k
theorem Gr.start {w : World} {lo : Nat} {e : Ent} {ms : List Int} (h : OwnS w lo e.a e.c ms) : Gr w w lo e ms [] e.a e.c :=
  ⟨Kept.refl _ _, h, by rw [List.append_nil]; exact h, fun k hk => h.lt hk, .inl ⟨rfl, rfl⟩⟩
theorem Gr.no {wi wr w' : World} {lo : Nat} {e : Ent} {ms gs : List Int} {a' : Option Addr} {c' : Nat} (h : Gr wi wr lo e ms gs a' c') (hk : Kept No wr w') : Gr wi w' lo e ms gs a' c' :=
  ⟨h.kept.then hk.of_no, h.old.no hk, h.new.no hk, h.was, h.wher⟩
theorem Gr.more {wi wr w' : World} {lo : Nat} {e : Ent} {ms gs : List Int} {a' a'' : Option Addr} {c' c'' : Nat} {x : Int} (h : Gr wi wr lo e ms gs a' c') (ho : OwnS w' lo a'' c'' (ms ++ (gs ++ [x])))
    (hc : (a'' = a' ∧ c'' = c' ∧ Kept (At a') wr w') ∨ ((∀ k, At a'' k → wr.heap.size ≤ k) ∧ Kept No wr w')) : Gr wi w' lo e ms (gs ++ [x]) a'' c'' := by
  rcases hc with ⟨rfl, rfl, hk⟩ | ⟨hn, hk⟩
  · rcases h.wher with ⟨rfl, rfl⟩ | hf
    · exact ⟨h.kept.then hk, ho.front ho.nilcap, ho, h.was, .inl ⟨rfl, rfl⟩⟩
    · refine ⟨h.kept.trans hk (fun _ e => e) (fun i hi e => ?_), h.old.kept hk (fun k hk' e => ?_), ho, h.was, .inr hf⟩
      · have := hf i e; omega
      · have := hf k e; have := h.was k hk'; omega
  · exact ⟨h.kept.then hk.of_no, h.old.no hk, ho, h.was, .inr (fun k hk' => by have := hn k hk'; have := h.kept.size; omega)⟩

end Gx

end Go.Proofs.Ytphiokehcgbldaa
