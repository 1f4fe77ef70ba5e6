import Derived.Test.YtgiokkcdgoloaaaIc
namespace Go.Proofs.Ytgiokkcdgoloaaa
open Go.RowKit
set_option linter.unusedVariables false
set_option linter.unusedSimpArgs false

/-- The phase of machine j while machine i is at ph. -/
def phs (i ph j : Nat) : Nat := if j < i then 4 else if j = i then ph else 0
theorem phs_at (i ph : Nat) : phs i ph i = ph := by unfold phs; simp
theorem phs_ne {i j : Nat} (ph ph' : Nat) (h : j ≠ i) : phs i ph j = phs i ph' j := by unfold phs; simp [h]
theorem phs_next (i j : Nat) : phs (i + 1) 0 j = phs i 4 j := by
  unfold phs
  rcases Nat.lt_trichotomy j i with h | h | h
  · rw [if_pos (by omega), if_pos h]
  · subst h; rw [if_pos (by omega), if_neg (by omega), if_pos rfl]
  · rw [if_neg (show ¬ j < i + 1 by omega), if_neg (show ¬ j < i by omega), if_neg (show ¬ j = i by omega)]
    split <;> rfl
/-- The machines' row. -/
def mrow (ms : Nat → Nat) : Array Value := #[.iface 115 (.pointer (some ⟨ms 0, 0, none⟩)), .iface 115 (.pointer (some ⟨ms 1, 0, none⟩)), .iface 115 (.pointer (some ⟨ms 2, 0, none⟩))]
/-- All that the function holds while it runs: the machines each in blocks I j of its own, the row of what was told; X: blocks that it may write to, P: blocks told and not yet put into the row. -/
structure Ai (X P : Nat → Prop) (p : Par) (w0 : World) (rg : Nat) (ms : Nat → Nat) (i ph : Nat) (ra : Option Addr) (rc : Nat) (K : List Gx.Ent) (I : Nat → Nat → Prop) (Z : Nat → List Int) (W : World) : Prop where
  st : ∀ j, j < 3 → Pm p j (phs i ph j) (I j) (ms j) W
  bd : ∀ j, j < 3 → ∀ k, I j k → w0.heap.size ≤ k ∧ k < W.heap.size ∧ k ≠ rg ∧ ¬ At ra k ∧ ¬ X k
  tk : ∀ j, j < 3 → j ≠ 1 ∨ phs i ph j ≠ 4 → ∀ k, I j k → ¬ Gx.EB K k ∧ ¬ P k
  ap : ∀ j, j < 3 → ∀ j', j' < 3 → j' ≠ j → ∀ k, I j k → ¬ I j' k
  er : Gx.Erow W w0.heap.size K Z
  row : Gx.Rw W w0.heap.size ra rc K
  rl : ∀ k, At ra k → k < W.heap.size
  mr : Box W rg 31 (mrow ms)
  rb : w0.heap.size ≤ rg
  kp : Kept No w0 W
  xo : ∀ k, X k → w0.heap.size ≤ k ∧ k < W.heap.size ∧ k ≠ rg ∧ ¬ At ra k ∧ ¬ Gx.EB K k ∧ ¬ P k
  po : ∀ k, P k → w0.heap.size ≤ k ∧ k < W.heap.size ∧ k ≠ rg ∧ ¬ At ra k ∧ ¬ Gx.EB K k
section
variable {X X' P P' S : Nat → Prop} {p : Par} {w0 : World} {rg : Nat} {ms : Nat → Nat} {i ph : Nat} {ra : Option Addr} {rc : Nat} {K : List Gx.Ent} {I : Nat → Nat → Prop} {Z : Nat → List Int} {W W' : World}
theorem Ai.el (h : Ai X P p w0 rg ms i ph ra rc K I Z W) {k : Nat} (e : Gx.EB K k) : w0.heap.size ≤ k ∧ k < W.heap.size ∧ Typ5 W k := h.er.lo e
theorem Ai.kept (h : Ai X P p w0 rg ms i ph ra rc K I Z W) (hk : Kept S W W') (hS : ∀ k, S k → k < W.heap.size → X k) : Ai X P p w0 rg ms i ph ra rc K I Z W' where
  st := fun j hj => (h.st j hj).kept hk (fun k e l => ⟨fun f => (h.bd j hj k e).2.2.2.2 (hS k f l), e⟩)
  bd := fun j hj k e => by have h1 := h.bd j hj k e; have h2 := hk.size; exact ⟨h1.1, by omega, h1.2.2⟩
  tk := h.tk
  ap := h.ap
  er := h.er.kept hk (fun k e f => (h.xo k (hS k f (h.el e).2.1)).2.2.2.2.1 e)
  row := h.row.kept hk (fun k e f => (h.xo k (hS k f (h.rl k e))).2.2.2.1 e)
  rl := fun k e => by have := h.rl k e; have := hk.size; omega
  mr := h.mr.kept hk (fun f => (h.xo rg (hS rg f h.mr.lt)).2.2.1 rfl)
  rb := h.rb
  kp := h.kp.trans hk (fun _ e => e) (fun k hk' e => by have := (h.xo k (hS k e (by have := h.kp.size; omega))).1; omega)
  xo := fun k e => by have h2 := hk.size; have h1 := h.xo k e; exact ⟨h1.1, by omega, h1.2.2⟩
  po := fun k e => by have h2 := hk.size; have h1 := h.po k e; exact ⟨h1.1, by omega, h1.2.2⟩
theorem Ai.no (h : Ai X P p w0 rg ms i ph ra rc K I Z W) (hk : Kept No W W') : Ai X P p w0 rg ms i ph ra rc K I Z W' := h.kept hk (fun k e => e.elim)
/-- Blocks that are new since W may be written to, and told. -/
theorem Ai.fresh (h : Ai X P p w0 rg ms i ph ra rc K I Z W) (hk : Kept No W W') (hX : ∀ k, X' k → W.heap.size ≤ k ∧ k < W'.heap.size ∧ ¬ P' k) (hP : ∀ k, P' k → W.heap.size ≤ k ∧ k < W'.heap.size) : Ai X' P' p w0 rg ms i ph ra rc K I Z W' := by
  have h' := h.no hk
  have hw := h.kp.size
  refine ⟨h'.st, fun j hj k e => ?_, fun j hj hn k e => ⟨(h.tk j hj hn k e).1, fun f => ?_⟩, h.ap, h'.er, h'.row, h'.rl, h'.mr, h.rb, h'.kp, fun k e => ?_, fun k e => ?_⟩
  · have := h'.bd j hj k e
    have l := (h.bd j hj k e).2.1
    exact ⟨this.1, this.2.1, this.2.2.1, this.2.2.2.1, fun f => by have := hX k f; omega⟩
  · have := hP k f; have := (h.bd j hj k e).2.1; omega
  · obtain ⟨a, b, c⟩ := hX k e
    exact ⟨by omega, b, fun f => by have := h.mr.lt; omega, fun f => by have := h.rl k f; omega, fun f => by have := (h.el f).2.1; omega, c⟩
  · obtain ⟨a, b⟩ := hP k e
    exact ⟨by omega, b, fun f => by have := h.mr.lt; omega, fun f => by have := h.rl k f; omega, fun f => by have := (h.el f).2.1; omega⟩
/-- Machine i takes a step. -/
theorem Ai.step {ph' : Nat} {I' : Nat → Prop} (h : Ai X No p w0 rg ms i ph ra rc K I Z W) (hi : i < 3) (hph : ph ≠ 4) (hk : Kept S W W') (hS : ∀ k, S k → I i k) (hP : Pm p i ph' I' (ms i) W') (hI : ∀ k, I' k → (I i k ∨ W.heap.size ≤ k) ∧ k < W'.heap.size) (hQ : ∀ k, P' k → W.heap.size ≤ k ∧ k < W'.heap.size ∧ (i ≠ 1 ∨ ph' ≠ 4 → ¬ I' k)) :
    Ai X P' p w0 rg ms i ph' ra rc K (fun j => if j = i then I' else I j) Z W' := by
  have hw := h.kp.size
  have hsz := hk.size
  have hml := h.mr.lt
  have hb := h.bd i hi
  have ht := h.tk i hi (.inr (by rw [phs_at]; exact hph))
  refine ⟨fun j hj => ?_, fun j hj k e => ?_, fun j hj hn k e => ?_, fun j hj j' hj' hne k e f => ?_, h.er.kept hk (fun k e f => (ht k (hS k f)).1 e), h.row.kept hk (fun k e f => (hb k (hS k f)).2.2.2.1 e), fun k e => ?_, h.mr.kept hk (fun f => (hb rg (hS rg f)).2.2.1 rfl), h.rb, h.kp.trans hk (fun _ e => e) (fun k l e => by have := (hb k (hS k e)).1; omega), fun k e => ?_, fun k e => ?_⟩
  · by_cases e : j = i
    · subst e; rw [phs_at]; simp only [if_true]; exact hP
    · rw [phs_ne ph' ph e]; simp only [if_neg e]
      exact (h.st j hj).kept hk (fun k e' l => ⟨fun f => h.ap j hj i hi (Ne.symm e) k e' (hS k f), e'⟩)
  · by_cases ej : j = i
    · subst ej
      simp only [if_true] at e
      obtain ⟨h1, h2⟩ := hI k e
      rcases h1 with h1 | h1
      · have := hb k h1; exact ⟨this.1, h2, this.2.2⟩
      · exact ⟨by omega, h2, by omega, fun f => by have := h.rl k f; omega, fun f => by have := (h.xo k f).2.1; omega⟩
    · simp only [if_neg ej] at e
      have := h.bd j hj k e; exact ⟨this.1, by omega, this.2.2⟩
  · by_cases ej : j = i
    · subst ej
      simp only [if_true] at e
      rw [phs_at] at hn
      refine ⟨fun f => ?_, fun f => (hQ k f).2.2 hn e⟩
      obtain ⟨h1, h2⟩ := hI k e
      rcases h1 with h1 | h1
      · exact (ht k h1).1 f
      · have := (h.el f).2.1; omega
    · simp only [if_neg ej] at e
      rw [phs_ne ph' ph ej] at hn
      exact ⟨(h.tk j hj hn k e).1, fun f => by have := (hQ k f).1; have := (h.bd j hj k e).2.1; omega⟩
  · by_cases ej : j = i
    · subst ej
      simp only [if_true] at e
      simp only [if_neg hne] at f
      obtain ⟨h1, h2⟩ := hI k e
      rcases h1 with h1 | h1
      · exact h.ap j hj j' hj' hne k h1 f
      · have := (h.bd j' hj' k f).2.1; omega
    · simp only [if_neg ej] at e
      by_cases ej' : j' = i
      · subst ej'
        simp only [if_true] at f
        obtain ⟨h1, h2⟩ := hI k f
        rcases h1 with h1 | h1
        · exact h.ap j hj j' hj' hne k e h1
        · have := (h.bd j hj k e).2.1; omega
      · simp only [if_neg ej'] at f
        exact h.ap j hj j' hj' hne k e f
  · have := h.rl k e; omega
  · have h1 := h.xo k e
    exact ⟨h1.1, by omega, h1.2.2.1, h1.2.2.2.1, h1.2.2.2.2.1, fun f => by have := (hQ k f).1; omega⟩
  · obtain ⟨h1, h2, _⟩ := hQ k e
    exact ⟨by omega, h2, by omega, fun f => by have := h.rl k f; omega, fun f => by have := (h.el f).2.1; omega⟩
/-- What was told goes into the row. -/
theorem Ai.tell {ra' : Option Addr} {rc' : Nat} {K' : List Gx.Ent} {Z' : Nat → List Int} (h : Ai X P p w0 rg ms i ph ra rc K I Z W) (hE : Gx.Erow W w0.heap.size (K ++ K') Z') (hK : ∀ k, Gx.EB K' k → P k) (hR : Gx.Rw W' w0.heap.size ra' rc' (K ++ K')) (hA : (ra' = ra ∧ rc' = rc ∧ Kept (At ra) W W') ∨ ((∀ k, At ra' k → W.heap.size ≤ k) ∧ Kept No W W')) :
    Ai No No p w0 rg ms i ph ra' rc' (K ++ K') I Z' W' := by
  have hk : Kept (At ra) W W' := by
    rcases hA with e | e
    · exact e.2.2
    · exact e.2.of_no
  have hsz := hk.size
  have eb : ∀ k, Gx.EB (K ++ K') k → Gx.EB K k ∨ P k := fun k e => by
    obtain ⟨x, hx, hxa⟩ := e
    rcases List.mem_append.1 hx with hx | hx
    · exact .inl ⟨x, hx, hxa⟩
    · exact .inr (hK k ⟨x, hx, hxa⟩)
  have ne : ∀ k, At ra k → ¬ Gx.EB (K ++ K') k := fun k e f => by
    rcases eb k f with f | f
    · exact h.row.apart h.er e f
    · exact (h.po k f).2.2.2.1 e
  have at' : ∀ k, k < W.heap.size → At ra' k → At ra k := fun k l e => by
    rcases hA with f | f
    · rw [f.1] at e; exact e
    · have := f.1 k e; omega
  refine ⟨fun j hj => (h.st j hj).kept hk (fun k e l => ⟨fun f => (h.bd j hj k e).2.2.2.1 f, e⟩), fun j hj k e => ?_, fun j hj hn k e => ⟨fun f => ?_, fun f => f⟩, h.ap, hE.kept hk (fun k e f => ne k f e), hR, fun k e => Own.lt0 (t := 25) (c := 1) hR e, h.mr.kept hk (fun f => ?_), h.rb, h.kp.trans hk (fun _ e => e) (fun k l e => ?_), fun k e => e.elim, fun k e => e.elim⟩
  · have h1 := h.bd j hj k e
    exact ⟨h1.1, by omega, h1.2.2.1, fun f => h1.2.2.2.1 (at' k h1.2.1 f), fun f => f⟩
  · rcases eb k f with f | f
    · exact (h.tk j hj hn k e).1 f
    · exact (h.tk j hj hn k e).2 f
  · obtain ⟨cur, e1⟩ := h.row.typ f
    have e2 : W.heap[rg]? = some (.cells (mrow ms) 31 (0, 0)) := h.mr
    exact Gx.typ_ne e1 e2 (by decide)
  · have := h.row.base e; omega
/-- One machine done, the next. -/
theorem Ai.next (h : Ai X P p w0 rg ms i 4 ra rc K I Z W) : Ai X P p w0 rg ms (i + 1) 0 ra rc K I Z W :=
  ⟨fun j hj => by rw [phs_next]; exact h.st j hj, h.bd, fun j hj hn => h.tk j hj (by rw [phs_next] at hn; exact hn), h.ap, h.er, h.row, h.rl, h.mr, h.rb, h.kp, h.xo, h.po⟩
end
def entQ (h : Qh) (q : Qm) : Gx.Ent := ⟨q.ba, h.l, q.bc⟩
theorem bkC_ent (h : Qh) (qs : List Qm) : bkC h qs = (qs.map (entQ h)).map Gx.entV := by unfold bkC; rw [List.map_map]; rfl
theorem adds {W : World} {lo : Nat} {zs : List Int} {hq : Qh} (hz : zs.length = hq.l) (hb : hq.l ≤ 140737488351232) : ∀ (qs : List Qm) (K : List Gx.Ent) (Z : Nat → List Int), Gx.Erow W lo K Z → (∀ q ∈ qs, OwnB W lo q.ba q.bc zs) → qs.Pairwise (fun p q => ∀ k, At p.ba k → ∀ j, At q.ba j → k < j) → (∀ q ∈ qs, ∀ k, At q.ba k → ¬ Gx.EB K k) → ∃ Z', Gx.Erow W lo (K ++ qs.map (entQ hq)) Z'
  | [], K, Z, h, _, _, _ => ⟨Z, by simpa using h⟩
  | q :: qs, K, Z, h, ho, hp, hn => by
    have h1 := h.add (e := entQ hq q) (zs := zs) hz (ho q (by simp)) hb (hn q (by simp))
    obtain ⟨Z', h2⟩ := adds hz hb qs (K ++ [entQ hq q]) _ h1 (fun q' h' => ho q' (List.mem_cons_of_mem _ h')) (List.pairwise_cons.1 hp).2 (fun q' h' k e f => by
      obtain ⟨x, hx, hxa⟩ := f
      rcases List.mem_append.1 hx with hx | hx
      · exact hn q' (List.mem_cons_of_mem _ h') k e ⟨x, hx, hxa⟩
      · rw [List.mem_singleton.1 hx] at hxa
        have := (List.pairwise_cons.1 hp).1 q' h' k hxa k e
        omega)
    exact ⟨Z', by rw [List.map_cons]; simpa using h2⟩
/-- append(all, more...) -/
theorem wp_appQ {ops : Array Oper} {rest : List Oper} {o : Oper} {a : Act} {w : World} {Q : Exit → Act → World → Prop} (hgd : o.guard = Option.none) (s x : Operand) (ho : o.op = .call { callee := .builtin .append, args := #[s, x], argTypes := #[81, 81] })
    (base : Nat) (sa : Option Addr) (sn sc : Nat) (K : List Gx.Ent) (hs : a.eval s = .slice sa sn sc) (hsn : K.length = sn) (hown : Gx.Rw w base sa sc K) (b : Nat) (xa : Option Addr) (xn xc : Nat) (K' : List Gx.Ent) (hx : a.eval x = .slice xa xn xc) (hxn : K'.length = xn) (hox : Own 25 1 w b xa xc xn (K'.map Gx.entV)) (hlen : sn + xn ≤ 2000000) (h0 : 0 < sn ∨ 0 < xn) (hbase : base ≤ w.heap.size)
    (h : ∀ a' c' w', Hid (Gx.Rw w' base a' c' (K ++ K')) → Hid ((a' = sa ∧ c' = sc ∧ Kept (At sa) w w') ∨ ((∀ k, At a' k → w.heap.size ≤ k) ∧ Kept No w w')) → wpList Try.prog ops Q rest (a.put o.dst (.slice a' (sn + xn) c')) w') :
    wpList Try.prog ops Q (o :: rest) a w := by
  subst hsn hxn
  have one : ∀ u ∈ K'.map Gx.entV, u.oneCell' = true := fun u hu => by obtain ⟨e, _, rfl⟩ := List.mem_map.1 hu; rfl
  have fin : ∀ {a' c' w'}, w'.ownsRow base 25 1 (.slice a' (K.length + K'.length) c') (K.length + K'.length) (K.map Gx.entV ++ K'.map Gx.entV) → Gx.Rw w' base a' c' (K ++ K') := fun {a' c' w'} h => by
    unfold Gx.Rw
    rw [List.length_append, List.map_append]
    exact h
  rcases hox.2 with ⟨hv, hn0⟩ | ⟨g, cap', cur, hv, hb, hg, hl, hm, hcs, htk⟩
  · simp only [Value.slice.injEq] at hv
    obtain ⟨e1, e2, e3⟩ := hv
    have hK : K' = [] := List.eq_nil_of_length_eq_zero e2
    subst hK e1 e3
    have hpos : 0 < K.length := by rcases h0 with h0 | h0; exact h0; exact absurd h0 (by simp)
    obtain ⟨e, he⟩ : ∃ e, K[0]? = some e := ⟨_, List.getElem?_eq_getElem hpos⟩
    obtain ⟨g, rfl, -⟩ := hown.at he
    obtain ⟨i0, hi, hz0, hz1, hz2⟩ := info_parts Gx.Try.info25x
    have hcap : K.length ≤ sc := by
      rcases hown.2 with ⟨hv, _⟩ | ⟨g', cap', cur, hv, hb, hg, hl, hm, _⟩
      · simp at hv
      · simp only [Value.slice.injEq] at hv
        obtain ⟨-, -, rfl⟩ := hv
        omega
    refine wpList_append_fits_any _ hgd s x 81 ho base 25 i0 1 Gx.Try.und81x hi hz1 g K.length sc (K.map Gx.entV) hs hown none 0 0 [] hx rfl (fun _ => ⟨rfl, rfl⟩) (fun ad e => by cases e) (fun u hu => by simp at hu) (by omega) ?_
    intro w' hown' hgrow
    exact h _ _ w' (fin (by simpa using hown')) (.inl ⟨rfl, rfl, (Kept.refl _ _).grown hgrow (fun k e _ => by cases e; exact ⟨_, rfl, rfl⟩)⟩)
  · simp only [Value.slice.injEq] at hv
    obtain ⟨rfl, -, rfl⟩ := hv
    refine Gx.wp_appN w 81 25 (.slice none 0 0) 1 24 Gx.Try.und81x Gx.Try.info25x rfl (by decide) hgd s x ho base sa _ sc (K.map Gx.entV) hs hown ⟨g, 0, none⟩ _ _ (K'.map Gx.entV) hx (by simp) ?_ one (by omega) (by omega) hbase ?_
    · intro j u hu
      have hox' : w.ownsRow b 25 1 (.slice (some ⟨g, 0, none⟩) K'.length _) K'.length (K'.map Gx.entV) := hox
      exact hox'.cells (by rfl) j u hu
    · intro a' c' w' HO HC
      exact h a' c' w' (fin HO.out) HC

end Go.Proofs.Ytgiokkcdgoloaaa
