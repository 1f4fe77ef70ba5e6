import Derived.Test.YtpabpeppgpeaoaaZm
namespace Go.Proofs.Ytpabpeppgpeaoaa
open Go.RowKit Gt
set_option linter.unusedVariables false
set_option linter.unusedSimpArgs false

/-- A row of numbers lies apart from a tally. -/
theorem own_off {α : Type} {f : Option α → Value} {T : TypeId} {W : World} {t b cap : Nat} {a : Option Addr} {x : TS α} (h : Tal T f W t b a cap x) {c base n k0 : Nat} {g : Option Addr} {zs : List Int} (hg : Own 3 1 W base g k0 n (zs.map (Value.int .i64))) (hl : zs.length = n) {k : Nat} (hk : At g k) : ¬ Tb2 t b k := by
  rcases hg.cases (by simp [hl]) with ⟨rfl, _⟩ | ⟨g', rfl, _, _, sp, hh, _⟩
  · exact absurd hk At.none
  · obtain ⟨ad, e, rfl⟩ := hk
    cases e
    rintro (e | e)
    · have e : g' = t := e
      have := h.box
      unfold Box at this
      rw [e, this] at hh
      simp at hh
      exact h.ty hh.2
    · have e : g' = b := e
      obtain ⟨es, cl, hm, _⟩ := h.map
      rw [e, hm] at hh
      cases hh
section
variable {w : World} {I : Nat → Prop} {p q t : Nat} {s : PS} {g : Sl} {v : Value}
/-- What a message does that is no promise and no acceptance. -/
theorem oth_P {α : Type} {T : TypeId} {f : Option α → Value} {M : Ms} {rf : Bool} {x : TS Unit} {y : TS α} (hb : Box w p 94 (s.pv g v).cells) (hl : s.zs.length = g.l) (hg : Own 3 1 w 0 g.a g.k g.l (s.zs.map (Value.int .i64))) (hp : PhAt w I s v s.ph) (i1 : I p) (i2 : ∀ k, At g.a k → I k) (len : s.zs.length ≤ 2000000)
    (hQ : QAt T f w I s.zs M q t rf x y) (hT1 : T ≠ 111) (hT2 : T ≠ 94) (hask : ∀ W, Kept No w W → Calls Try.prog 50 #[.pointer (some ⟨p, 0, none⟩)] W (fun e w' => e = .returned (.pointer (some ⟨q, 0, none⟩)) ∧ Kept No W w'))
    (nk : TS Unit → Ph) (hnk : ∀ (w' : World) (I' : Nat → Prop) (x' : TS Unit) (tp : Int), QAt T f w' I' s.zs M q t true x' y → PhAt w' I' { s with top := tp, ph := nk x' } v (nk x'))
    (m : Ms) (es : List En) (ls : List La) (hbe : m.en.l * 40 ≤ 140737488355328) (hbl : m.la.l * 56 ≤ 140737488355328) (he : RdE w m.en es) (hla : RdL w m.la ls) (hsm : ∀ (w' : World) (I' : Nat → Prop), QAt T f w' I' s.zs M q t rf x y → PhAt w' I' s v s.ph) (tt : PS × List Ms)
    (ht : ansB s.v0 s.zs m = true → (m.k == 16) = false → (m.k == 17) = false → (m.k == 14) = false → ((m.k == 13) = true ∨ (m.k == 13) = false ∧ (m.k == 15) = true) → Calls Try.prog 28 #[.pointer (some ⟨p, 0, none⟩), .agg m.cells] w (PrOut w I p tt.1 tt.2)) :
    Calls Try.prog 28 #[.pointer (some ⟨p, 0, none⟩), .agg m.cells] w (PrOut w I p (othS s x nk m es ls tt).1 (othS s x nk m es ls tt).2) := by
  have hP : Prp w I p s := ⟨⟨g, v, hb, hl, hg, hp, i1, i2⟩, len⟩
  have hgl : (s.pv g v).ga.l ≤ 2000000 := by show g.l ≤ _; omega
  have hnum : Nums .i64 w (s.pv g v).ga.a s.zs := hg.nums hl
  have hgo : ∀ k, At g.a k → ¬ Only p k := fun k hk e => box_row hb (by decide) hg hk e
  unfold othS
  cases hab : ansB s.v0 s.zs m with
  | false => exact Calls.mono (take_wrong p (s.pv g v) m q s.zs w hb hask hl hgl hnum hab) (fun e w' h => PrOut.same h.1 hP h.2)
  | true =>
  cases h16 : m.k == 16 with
  | true =>
    refine Calls.mono (take_known p (s.pv g v) m q s.zs w hb hask hl hgl hnum hab h16) ?_
    rintro e w' ⟨he, hb', hk⟩
    exact PrOut.nil he (Prp.mk' (s := { s with ph := .dec m.c }) (g := g) (v := phDec m.c) hb' hl (hg.kept hk hgo) rfl (.inl i1) (fun k e => .inl (i2 k e)) len) (hk.mono (fun k _ e => (show k = p from e) ▸ i1))
  | false =>
  cases h17 : m.k == 17 with
  | true =>
    refine Calls.mono (take_bucket p (s.pv g v) m q s.zs es ls w hb hask hl hgl hnum hab h16 h17 hbe hbl he hla) ?_
    rintro e w' ⟨se, sl, he', hb', hE, hL, hk⟩
    refine PrOut.nil he' (Prp.mk' (s := { s with ph := .tri m.up es ls }) (g := g) (v := phTri m.up se sl) hb' hl (hg.kept hk hgo) ⟨se, sl, rfl, hE.lower (Nat.zero_le _), hL.lower (Nat.zero_le _), fun k e => .inr (hE.own.base e), fun k e => .inr (hL.own.base e), ?_, ?_⟩ (.inl i1) (fun k e => .inl (i2 k e)) len) (hk.mono (fun k _ e => (show k = p from e) ▸ i1))
    · rw [← hE.len, he.len]; exact hbe
    · rw [← hL.len, hla.len]; exact hbl
  | false =>
  cases h14 : m.k == 14 with
  | true =>
    obtain ⟨⟨h0, b, a, cap, tb, ta, tc, hq, hx, hy, h1, h2, j1, j2, j3⟩, gx, gy, ty⟩ := hQ
    by_cases hm : m.fi ∈ missL x
    · refine Calls.mono (take_nack p (s.pv g v) m q s.zs h0 b cap a M rf x w hb hask hl hgl hnum hab h16 h17 h14 hq hx (decide_eq_true hm)) ?_
      rintro e w' ⟨he', hb', hq', hx', hk⟩
      have hg' : Own 3 1 w' 0 g.a g.k g.l (s.zs.map (Value.int .i64)) := hg.kept hk (fun k e => by
        rintro (f | rfl | rfl)
        · exact own_off (c := 1) hx hg hl e f
        · exact box_row hq (by decide) hg e rfl
        · exact box_row hb (by decide) hg e rfl)
      have hy' : Tal T f w' t tb ta tc y := hy.kept hk (fun k e => by
        rintro (f | rfl | rfl)
        · exact tal_apart hx hy h1 h2 e f
        · exact tal_ne hy hq hT1 (by decide) e rfl
        · exact tal_ne hy hb hT2 (by decide) e rfl)
      have hI : ∀ k, NackK h0 b q p k → I k := by
        rintro k ((rfl | rfl) | rfl | rfl)
        · exact j2 _ (.inl rfl)
        · exact j2 _ (.inr (.inl rfl))
        · exact j1
        · exact i1
      simp only [if_pos hm, if_true, if_false, Bool.false_eq_true]
      refine PrOut.nil he' (Prp.mk' (s := { s with top := max s.top m.st.n, ph := nk (hearS x m.fi) }) (g := g) (v := v) hb' hl hg' ?_ (.inl i1) (fun k e => .inl (i2 k e)) len) (hk.mono (fun k _ e => hI k e))
      exact hnk w' _ _ _ ⟨⟨h0, b, a, cap, tb, ta, tc, hq', hx', hy', h1, h2, .inl j1, fun k e => .inl (j2 k e), fun k e => .inl (j3 k e)⟩, by rw [hear_g]; exact gx, gy, ty⟩
    · refine Calls.mono (take_nack_heard p (s.pv g v) m q s.zs h0 b cap a M rf x w hb hask hl hgl hnum hab h16 h17 h14 hq hx (decide_eq_false hm)) ?_
      rintro e w' ⟨he', hb', hq', hx', hk⟩
      rw [hear_no hm] at hx'
      simp only [if_neg hm, if_true, if_false, Bool.false_eq_true]
      have hI : ∀ k, Tb2 h0 b k → I k := by
        rintro k (rfl | rfl)
        · exact j2 _ (.inl rfl)
        · exact j2 _ (.inr (.inl rfl))
      refine PrOut.nil he' ?_ (hk.mono (fun k _ e => hI k e))
      have hg' : Own 3 1 w' 0 g.a g.k g.l (s.zs.map (Value.int .i64)) := hg.kept hk (fun k e f => own_off (c := 1) hx hg hl e f)
      have hy' : Tal T f w' t tb ta tc y := hy.kept hk (fun k e f => tal_apart hx hy h1 h2 e f)
      exact Prp.mk' (g := g) (v := v) hb' hl hg' (hsm w' _ ⟨⟨h0, b, a, cap, tb, ta, tc, hq', hx', hy', h1, h2, .inl j1, fun k e => .inl (j2 k e), fun k e => .inl (j3 k e)⟩, gx, gy, ty⟩) (.inl i1) (fun k e => .inl (i2 k e)) len
  | false =>
  cases h13 : m.k == 13 with
  | true => exact ht hab h16 h17 h14 (.inl h13)
  | false =>
  cases h15 : m.k == 15 with
  | true => exact ht hab h16 h17 h14 (.inr ⟨h13, h15⟩)
  | false => exact Calls.mono (take_pass p (s.pv g v) m q s.zs w hb hask hl hgl hnum hab h16 h17 h14 h13 h15) (fun e w' h => PrOut.same h.1 hP h.2)
/-- A promise. -/
theorem takP_P {rf : Bool} {x : TS Unit} {y : TS Vt} (hb : Box w p 94 (s.pv g v).cells) (hl : s.zs.length = g.l) (hg : Own 3 1 w 0 g.a g.k g.l (s.zs.map (Value.int .i64))) (i1 : I p) (i2 : ∀ k, At g.a k → I k) (len : s.zs.length ≤ 2000000) (hph : s.ph = .pre x y rf) (hv : v = phPre q t)
    (hQ : QAt 170 V.ans w I s.zs (prepM s.v0) q t rf x y) (m : Ms) :
    Calls Try.prog 58 #[.pointer (some ⟨p, 0, none⟩), .agg m.cells] w (PrOut w I p (takP s x y rf m).1 (takP s x y rf m).2) := by
  have hgl : (s.pv g v).ga.l ≤ 2000000 := by show g.l ≤ _; omega
  have hvp : (s.pv g v).ph = phPre q t := hv
  have hP : Prp w I p s := ⟨⟨g, v, hb, hl, hg, by rw [hph]; exact ⟨q, t, hv, hQ⟩, i1, i2⟩, len⟩
  obtain ⟨⟨h0, b, a, cap, tb, ta, tc, hq, hx, hy, h1, h2, j1, j2, j3⟩, gx, gy, ty⟩ := hQ
  have hgr : ∀ w', Kept (fun k => Tb2 h0 b k ∨ Tb2 t tb k) w w' → Own 3 1 w' 0 g.a g.k g.l (s.zs.map (Value.int .i64)) := fun w' hk => hg.kept hk (fun k e f => f.elim (own_off (c := 1) hx hg hl e) (own_off (c := 1) hy hg hl e))
  have hI : ∀ k, (Tb2 h0 b k ∨ Tb2 t tb k) → I k := by
    rintro k ((rfl | rfl) | (rfl | rfl))
    · exact j2 _ (.inl rfl)
    · exact j2 _ (.inr (.inl rfl))
    · exact j3 _ (.inl rfl)
    · exact j3 _ (.inr (.inl rfl))
  unfold takP
  cases hs : eqS m.st ⟨s.n, s.cl⟩ with
  | false => exact Calls.mono (agreed_other p (s.pv g v) m w hb hs) (fun e w' h => PrOut.same h.1 hP h.2)
  | true =>
  cases hk : m.k == 13 with
  | false => exact Calls.mono (agreedP_kind p q t (s.pv g v) m w hb hs hvp hk) (fun e w' h => PrOut.same h.1 hP h.2)
  | true =>
  cases hh : decide (m.fi ∈ missL x) with
  | false =>
    refine Calls.mono (agreedP_heard p q t (s.pv g v) m h0 b cap tb tc a ta _ rf x y w hb hs hvp hk hq hx hy ⟨h1, h2⟩ hh) ?_
    rintro e w' ⟨he, hx', hk'⟩
    refine PrOut.nil he ?_ (hk'.mono (fun k _ e => hI k (.inl e)))
    have hk2 : Kept (fun k => Tb2 h0 b k ∨ Tb2 t tb k) w w' := hk'.mono (fun k _ e => .inl e)
    refine Prp.mk' (g := g) (v := v) (hb.kept hk' (tal_far2 hx hb (by decide) (by decide))) hl (hgr w' hk2) ?_ (.inl i1) (fun k e => .inl (i2 k e)) len
    show PhAt w' _ s v s.ph
    rw [hph]
    exact ⟨q, t, hv, ⟨⟨h0, b, a, cap, tb, ta, tc, hq.kept hk' (tal_far2 hx hq (by decide) (by decide)), hx', hy.kept hk' (fun k e f => tal_apart hx hy h1 h2 e f), h1, h2, .inl j1, fun k e => .inl (j2 k e), fun k e => .inl (j3 k e)⟩, gx, gy, ty⟩⟩
  | true =>
  simp only [Bool.and_self, if_true]
  cases htk : takeB y m.fi with
  | false =>
    refine Calls.mono (agreedP_few p q t (s.pv g v) m h0 b cap tb tc a ta _ rf x y w hb hs hvp hk hq hx hy ⟨h1, h2⟩ hh htk) ?_
    rintro e w' ⟨he, hx', hy', hk'⟩
    refine PrOut.nil he ?_ (hk'.mono (fun k _ e => hI k e))
    refine Prp.mk' (s := { s with ph := .pre (hearS x m.fi) (takeS y m.fi (msV m)) rf }) (g := g) (v := v) (hb.kept hk' (fun e => e.elim (tal_far2 hx hb (by decide) (by decide)) (tal_far2 hy hb (by decide) (by decide)))) hl (hgr w' hk') ?_ (.inl i1) (fun k e => .inl (i2 k e)) len
    exact ⟨q, t, hv, ⟨⟨h0, b, a, cap, tb, ta, tc, hq.kept hk' (fun e => e.elim (tal_far2 hx hq (by decide) (by decide)) (tal_far2 hy hq (by decide) (by decide))), hx', hy', h1, h2, .inl j1, fun k e => .inl (j2 k e), fun k e => .inl (j3 k e)⟩, by rw [hear_g]; exact gx, by rw [take_g]; exact gy, ty⟩⟩
  | true =>
  have hcn : cnt (takeS y m.fi (msV m)) ≤ 2000000 ∧ 1 ≤ cnt (takeS y m.fi (msV m)) := ⟨by have := cnt_le (takeS y m.fi (msV m)); rw [take_g, gy] at this; have := uq_len s.zs; omega, take_cnt _ hy.nd htk⟩
  simp only [if_true]
  unfold accS
  cases ho : okN s.n && okN (wr1 s.rd) with
  | false =>
    refine Calls.mono (agreedP_no p q t (s.pv g v) m h0 b cap tb tc a ta _ rf x y w hb hs hvp hk hq hx hy ⟨h1, h2⟩ hh htk hcn ho) ?_
    rintro e w' ⟨he, hb', hx', hy', hk'⟩
    have hk2 : Kept I w w' := hk'.mono (by rintro k _ (rfl | e); exact i1; exact hI k e)
    refine PrOut.nil he ?_ hk2
    exact Prp.mk' (s := { s with ph := .worn }) (g := g) (v := phWorn) hb' hl (hg.kept hk' (by
      rintro k e (rfl | f)
      · exact box_row hb (by decide) hg e rfl
      · exact f.elim (own_off (c := 1) hx hg hl e) (own_off (c := 1) hy hg hl e))) rfl (.inl i1) (fun k e => .inl (i2 k e)) len
  | true =>
    refine Calls.mono (agreedP_yes p q t (s.pv g v) m h0 b cap tb tc a ta _ rf x y s.zs w hb hs hvp hk hq hx hy ⟨h1, h2⟩ hh htk hcn ho hl hgl hgr) ?_
    rintro e w' ⟨W, hA, hx', hy', hk'⟩
    have hcs : vCmd (bestV (ownV (s.pv g v) :: (gotL (takeS y m.fi (msV m))).map Prod.snd)) = choiceS s (takeS y m.fi (msV m)) := rfl
    have hmv : movP (s.pv g v) (s.pv g v).n (wr1 (s.pv g v).rd) = (mov s s.n (wr1 s.rd)).pv g v := pv_mov s g v s.n (wr1 s.rd) ho
    rw [hcs, hmv] at hA
    generalize choiceS s (takeS y m.fi (msV m)) = c at hA ⊢
    obtain ⟨q', h', b', a', cap', t', tb', ta', tc', la, lc, he, hO, hb', hq', hx2, hy2, ⟨hn1, hn2⟩, ⟨l1, l2, l3, l4, l5⟩, l6, l7, hk2⟩ := hA
    have hsz := hk'.size
    have hW : Box W p 94 (s.pv g v).cells := hb.kept hk' (fun e => e.elim (tal_far2 hx hb (by decide) (by decide)) (tal_far2 hy hb (by decide) (by decide)))
    have hkI : Kept I w w' := hk'.trans hk2 (fun k e => hI k e) (fun k _ e => (show k = p from e) ▸ i1)
    simp only [if_true]
    refine PrOut.mk (la := la) (lc := lc) (by rw [he, List.length_map]) (by rw [List.length_map]; exact hO.lower hsz) ?_ hkI
    refine Prp.mk' (s := { mov s s.n (wr1 s.rd) with ph := .acc c (tNew Unit s.zs (s.zs.length : Int)) (tNew Unit s.zs (needN s.zs.length)) false }) (g := g) (v := phAcc q' t') hb' hl ((hgr W hk').kept hk2 (fun k e f => box_row hW (by decide) (hgr W hk') e f)) ⟨q', t', rfl, ⟨⟨h', b', a', cap', tb', ta', tc', hq', hx2, hy2, hn2, hn1, .inr (by omega), ?_, ?_⟩, rfl, rfl, by decide⟩⟩ (.inl i1) (fun k e => .inl (i2 k e)) len
    · rintro k (rfl | rfl | e)
      · exact .inr (by omega)
      · exact .inr (by omega)
      · exact .inr (Nat.le_trans hsz (l6 k e))
    · rintro k (rfl | rfl | e)
      · exact .inr (by omega)
      · exact .inr (by omega)
      · exact .inr (Nat.le_trans hsz (l7 k e))
/-- An acceptance. -/
theorem takA_P {rf : Bool} {c : Cm} {x y : TS Unit} (hb : Box w p 94 (s.pv g v).cells) (hl : s.zs.length = g.l) (hg : Own 3 1 w 0 g.a g.k g.l (s.zs.map (Value.int .i64))) (i1 : I p) (i2 : ∀ k, At g.a k → I k) (len : s.zs.length ≤ 2000000) (hph : s.ph = .acc c x y rf) (hv : v = phAcc q t)
    (hQ : QAt 132 U.ans w I s.zs (accM s.v0 c) q t rf x y) (m : Ms) :
    Calls Try.prog 58 #[.pointer (some ⟨p, 0, none⟩), .agg m.cells] w (PrOut w I p (takA s c x y rf m).1 (takA s c x y rf m).2) := by
  have hgl : (s.pv g v).ga.l ≤ 2000000 := by show g.l ≤ _; omega
  have hvp : (s.pv g v).ph = phAcc q t := hv
  have hP : Prp w I p s := ⟨⟨g, v, hb, hl, hg, by rw [hph]; exact ⟨q, t, hv, hQ⟩, i1, i2⟩, len⟩
  obtain ⟨⟨h0, b, a, cap, tb, ta, tc, hq, hx, hy, h1, h2, j1, j2, j3⟩, gx, gy, ty⟩ := hQ
  have hgr : ∀ w', Kept (fun k => Tb2 h0 b k ∨ Tb2 t tb k) w w' → Own 3 1 w' 0 g.a g.k g.l (s.zs.map (Value.int .i64)) := fun w' hk => hg.kept hk (fun k e f => f.elim (own_off (c := 1) hx hg hl e) (own_off (c := 1) hy hg hl e))
  have hI : ∀ k, (Tb2 h0 b k ∨ Tb2 t tb k) → I k := by
    rintro k ((rfl | rfl) | (rfl | rfl))
    · exact j2 _ (.inl rfl)
    · exact j2 _ (.inr (.inl rfl))
    · exact j3 _ (.inl rfl)
    · exact j3 _ (.inr (.inl rfl))
  unfold takA
  cases hs : eqS m.st ⟨s.n, s.cl⟩ with
  | false => exact Calls.mono (agreed_other p (s.pv g v) m w hb hs) (fun e w' h => PrOut.same h.1 hP h.2)
  | true =>
  cases hk : m.k == 15 with
  | false => exact Calls.mono (agreedA_kind p q t (s.pv g v) m w hb hs hvp hk) (fun e w' h => PrOut.same h.1 hP h.2)
  | true =>
  cases hh : decide (m.fi ∈ missL x) with
  | false =>
    refine Calls.mono (agreedA_heard p q t (s.pv g v) m h0 b cap tb tc a ta _ rf x y w hb hs hvp hk hq hx hy ⟨h1, h2⟩ hh) ?_
    rintro e w' ⟨he, hx', hk'⟩
    refine PrOut.nil he ?_ (hk'.mono (fun k _ e => hI k (.inl e)))
    have hk2 : Kept (fun k => Tb2 h0 b k ∨ Tb2 t tb k) w w' := hk'.mono (fun k _ e => .inl e)
    refine Prp.mk' (g := g) (v := v) (hb.kept hk' (tal_far2 hx hb (by decide) (by decide))) hl (hgr w' hk2) ?_ (.inl i1) (fun k e => .inl (i2 k e)) len
    show PhAt w' _ s v s.ph
    rw [hph]
    exact ⟨q, t, hv, ⟨⟨h0, b, a, cap, tb, ta, tc, hq.kept hk' (tal_far2 hx hq (by decide) (by decide)), hx', hy.kept hk' (fun k e f => tal_apart hx hy h1 h2 e f), h1, h2, .inl j1, fun k e => .inl (j2 k e), fun k e => .inl (j3 k e)⟩, gx, gy, ty⟩⟩
  | true =>
  simp only [Bool.and_self, if_true]
  cases htk : takeB y m.fi with
  | false =>
    refine Calls.mono (agreedA_few p q t (s.pv g v) m h0 b cap tb tc a ta _ rf x y w hb hs hvp hk hq hx hy ⟨h1, h2⟩ hh htk) ?_
    rintro e w' ⟨he, hx', hy', hk'⟩
    refine PrOut.nil he ?_ (hk'.mono (fun k _ e => hI k e))
    refine Prp.mk' (s := { s with ph := .acc c (hearS x m.fi) (takeS y m.fi ()) rf }) (g := g) (v := v) (hb.kept hk' (fun e => e.elim (tal_far2 hx hb (by decide) (by decide)) (tal_far2 hy hb (by decide) (by decide)))) hl (hgr w' hk') ?_ (.inl i1) (fun k e => .inl (i2 k e)) len
    exact ⟨q, t, hv, ⟨⟨h0, b, a, cap, tb, ta, tc, hq.kept hk' (fun e => e.elim (tal_far2 hx hq (by decide) (by decide)) (tal_far2 hy hq (by decide) (by decide))), hx', hy', h1, h2, .inl j1, fun k e => .inl (j2 k e), fun k e => .inl (j3 k e)⟩, by rw [hear_g]; exact gx, by rw [take_g]; exact gy, ty⟩⟩
  | true =>
    refine Calls.mono (agreedA_enough p q t (s.pv g v) m h0 b cap tb tc a ta _ rf x y s.zs w hb hs hvp hk hq hx hy ⟨h1, h2⟩ hh htk hl hgl hgr) ?_
    rintro e w' ⟨la, lc, he, hO, hb', hx', hy', hk'⟩
    have hkI : Kept I w w' := hk'.mono (by rintro k _ (rfl | e); exact i1; exact hI k e)
    simp only [if_true]
    refine PrOut.mk (la := la) (lc := lc) (by rw [he, List.length_map]) (by rw [List.length_map]; exact hO) ?_ hkI
    exact Prp.mk' (s := { s with ph := .dec c }) (g := g) (v := phDec c) hb' hl (hg.kept hk' (by
      rintro k e (rfl | f)
      · exact box_row hb (by decide) hg e rfl
      · exact f.elim (own_off (c := 1) hx hg hl e) (own_off (c := 1) hy hg hl e))) rfl (.inl i1) (fun k e => .inl (i2 k e)) len
end
theorem PrOut.ret {w w' : World} {I : Nat → Prop} {p : Nat} {s : PS} {l : List Ms} {e : Ending} (h : PrOut w I p s l e w') : ∃ x : Sl, e = .returned x.v := by
  obtain ⟨la, lc, I', he, _⟩ := h
  exact ⟨⟨la, l.length, lc⟩, he⟩
/-- A message behind some steps that changed nothing of what was. -/
theorem PrOut.behind {w W w' : World} {I : Nat → Prop} {p : Nat} {s : PS} {l : List Ms} {e : Ending} (hk : Kept No w W) (h : PrOut W I p s l e w') : PrOut w I p s l e w' := by
  obtain ⟨la, lc, I', he, hO, hP, hI, hk'⟩ := h
  have hsz := hk.size
  exact ⟨la, lc, I', he, hO.lower hsz, hP, fun k e => ⟨(hI k e).1.imp id (fun l => Nat.le_trans hsz l), (hI k e).2⟩, (hk.of_no : Kept I w W).then hk'⟩
theorem take_P {w : World} {I : Nat → Prop} {p : Nat} {s : PS} (h : Prp w I p s) (m : Ms) (es : List En) (ls : List La) (hbe : m.en.l * 40 ≤ 140737488355328) (hbl : m.la.l * 56 ≤ 140737488355328) (he : RdE w m.en es) (hla : RdL w m.la ls) :
    Calls Try.prog 28 #[.pointer (some ⟨p, 0, none⟩), .agg m.cells] w (PrOut w I p (taksS s m es ls).1 (taksS s m es ls).2) := by
  have hP := h
  obtain ⟨⟨g, v, hb, hl, hg, hp, i1, i2⟩, len⟩ := h
  have hgl : (s.pv g v).ga.l ≤ 2000000 := by show g.l ≤ _; omega
  have hnum : Nums .i64 w (s.pv g v).ga.a s.zs := hg.nums hl
  have hno : (∀ x y rf, s.ph ≠ .pre x y rf) → (∀ c x y rf, s.ph ≠ .acc c x y rf) → Calls Try.prog 28 #[.pointer (some ⟨p, 0, none⟩), .agg m.cells] w (PrOut w I p s []) := fun h1 h2 =>
    Calls.mono (take_silent p (s.pv g v) m w hb (fun W hk => asked_P hP h1 h2 W hk)) (fun e w' h => PrOut.same h.1 hP h.2)
  unfold taksS
  cases hs : s.ph with
  | fresh => exact hno (by rw [hs]; intros; nofun) (by rw [hs]; intros; nofun)
  | dec c => exact hno (by rw [hs]; intros; nofun) (by rw [hs]; intros; nofun)
  | tri u es ls => exact hno (by rw [hs]; intros; nofun) (by rw [hs]; intros; nofun)
  | worn => exact hno (by rw [hs]; intros; nofun) (by rw [hs]; intros; nofun)
  | pre x y rf =>
    have hp' := hp
    rw [hs] at hp'
    obtain ⟨q, t, hv, hQ⟩ := hp'
    have hask : ∀ W, Kept No w W → Calls Try.prog 50 #[.pointer (some ⟨p, 0, none⟩)] W (fun e w' => e = .returned (.pointer (some ⟨q, 0, none⟩)) ∧ Kept No W w') := fun W hk => Calls.mono (askedP_any p q t (s.pv g v) W (hb.kept hk (fun e => e)) hv) (fun e w' h => ⟨h.1, by rw [h.2]; exact Kept.refl No W⟩)
    have hD : ∀ W, Kept No w W → Calls Try.prog 58 #[.pointer (some ⟨p, 0, none⟩), .agg m.cells] W (PrOut W I p (takP s x y rf m).1 (takP s x y rf m).2) := fun W hk => by
      refine takP_P (hb.kept hk (fun e => e)) hl (hg.no hk) i1 i2 len hs hv (hQ.kept hk (fun k e _ _ => ⟨fun f => f, e⟩)) m
    refine oth_P hb hl hg hp i1 i2 len hQ (by decide) (by decide) hask (fun x' => .pre x' y true) (fun w' I' x' tp h => ⟨q, t, hv, h⟩) m es ls hbe hbl he hla (fun w' I' h => by rw [hs]; exact ⟨q, t, hv, h⟩) _ ?_
    rintro hab h16 h17 h14 (h13 | ⟨h13, h15⟩)
    · exact Calls.mono (take_promise p (s.pv g v) m q s.zs (fun W => PrOut W I p (takP s x y rf m).1 (takP s x y rf m).2) w hb hask hl hgl hnum hab h16 h17 h14 h13 (fun W e w' h => h.ret) hD) (fun e w' ⟨W, hk, h⟩ => h.behind hk)
    · exact Calls.mono (take_accepted p (s.pv g v) m q s.zs (fun W => PrOut W I p (takP s x y rf m).1 (takP s x y rf m).2) w hb hask hl hgl hnum hab h16 h17 h14 h13 h15 (fun W e w' h => h.ret) hD) (fun e w' ⟨W, hk, h⟩ => h.behind hk)
  | acc c x y rf =>
    have hp' := hp
    rw [hs] at hp'
    obtain ⟨q, t, hv, hQ⟩ := hp'
    have hask : ∀ W, Kept No w W → Calls Try.prog 50 #[.pointer (some ⟨p, 0, none⟩)] W (fun e w' => e = .returned (.pointer (some ⟨q, 0, none⟩)) ∧ Kept No W w') := fun W hk => Calls.mono (askedA_any p q t (s.pv g v) W (hb.kept hk (fun e => e)) hv) (fun e w' h => ⟨h.1, by rw [h.2]; exact Kept.refl No W⟩)
    have hD : ∀ W, Kept No w W → Calls Try.prog 58 #[.pointer (some ⟨p, 0, none⟩), .agg m.cells] W (PrOut W I p (takA s c x y rf m).1 (takA s c x y rf m).2) := fun W hk => by
      refine takA_P (hb.kept hk (fun e => e)) hl (hg.no hk) i1 i2 len hs hv (hQ.kept hk (fun k e _ _ => ⟨fun f => f, e⟩)) m
    refine oth_P hb hl hg hp i1 i2 len hQ (by decide) (by decide) hask (fun x' => .acc c x' y true) (fun w' I' x' tp h => ⟨q, t, hv, h⟩) m es ls hbe hbl he hla (fun w' I' h => by rw [hs]; exact ⟨q, t, hv, h⟩) _ ?_
    rintro hab h16 h17 h14 (h13 | ⟨h13, h15⟩)
    · exact Calls.mono (take_promise p (s.pv g v) m q s.zs (fun W => PrOut W I p (takA s c x y rf m).1 (takA s c x y rf m).2) w hb hask hl hgl hnum hab h16 h17 h14 h13 (fun W e w' h => h.ret) hD) (fun e w' ⟨W, hk, h⟩ => h.behind hk)
    · exact Calls.mono (take_accepted p (s.pv g v) m q s.zs (fun W => PrOut W I p (takA s c x y rf m).1 (takA s c x y rf m).2) w hb hask hl hgl hnum hab h16 h17 h14 h13 h15 (fun W e w' h => h.ret) hD) (fun e w' ⟨W, hk, h⟩ => h.behind hk)
/-- What a proposer shows. -/
def decO (s : PS) : Cm × Bool := match s.ph with | .dec c => (c, true) | _ => (cZ, false)
def triO (s : PS) : Int × List En × List La × Bool := match s.ph with | .tri u es ls => (u, es, ls, true) | _ => (0, [], [], false)
def worO (s : PS) : Bool := match s.ph with | .worn => true | _ => false
/-- Its outcome as a value. -/
theorem out_P {w : World} {I : Nat → Prop} {p : Nat} {s : PS} (h : Prp w I p s) : ∃ (g : Sl) (v : Value) (o : Oc), Box w p 94 (s.pv g v).cells ∧ (∀ W, Calls Try.prog 45 #[v] W (fun e w' => e = .returned (.agg o.cells) ∧ Kept No W w')) ∧ o.c = (decO s).1 ∧ o.d = (decO s).2 ∧ o.w = worO s ∧ o.u = (triO s).1 ∧ o.t = (triO s).2.2.2 ∧ RdE w o.e (triO s).2.1 ∧ RdL w o.l (triO s).2.2.1 ∧ o.e.l * 40 ≤ 140737488355328 ∧ o.l.l * 56 ≤ 140737488355328 := by
  obtain ⟨⟨g, v, hb, hl, hg, hp, i1, i2⟩, len⟩ := h
  have e0 : RdE w slZ [] := ⟨RowsAt.nil _ _ _, rfl, fun _ => rfl⟩
  have l0 : RdL w slZ [] := ⟨RowsAt.nil _ _ _, rfl, fun _ => rfl⟩
  unfold decO triO worO
  cases hs : s.ph with
  | fresh => rw [hs] at hp; exact ⟨g, v, ocZ, hb, fun W => by rw [show v = .nilIface from hp]; exact out_nil W, rfl, rfl, rfl, rfl, rfl, e0, l0, by show 0 * 40 ≤ 140737488355328; decide, by show 0 * 56 ≤ 140737488355328; decide⟩
  | pre x y rf => rw [hs] at hp; obtain ⟨q, t, hv, _⟩ := hp; exact ⟨g, v, ocZ, hb, fun W => by rw [hv]; exact out_pre q t W, rfl, rfl, rfl, rfl, rfl, e0, l0, by show 0 * 40 ≤ 140737488355328; decide, by show 0 * 56 ≤ 140737488355328; decide⟩
  | acc c x y rf => rw [hs] at hp; obtain ⟨q, t, hv, _⟩ := hp; exact ⟨g, v, ocZ, hb, fun W => by rw [hv]; exact out_acc q t W, rfl, rfl, rfl, rfl, rfl, e0, l0, by show 0 * 40 ≤ 140737488355328; decide, by show 0 * 56 ≤ 140737488355328; decide⟩
  | dec c => rw [hs] at hp; exact ⟨g, v, ⟨true, false, false, c, 0, slZ, slZ⟩, hb, fun W => by rw [show v = phDec c from hp]; exact out_dec c W, rfl, rfl, rfl, rfl, rfl, e0, l0, by show 0 * 40 ≤ 140737488355328; decide, by show 0 * 56 ≤ 140737488355328; decide⟩
  | tri u es ls =>
    rw [hs] at hp
    obtain ⟨se, sl, hv, hE, hL, _, _, b1, b2⟩ := hp
    exact ⟨g, v, ⟨false, true, false, cZ, u, se, sl⟩, hb, fun W => by rw [hv]; exact out_tri u se sl W, rfl, rfl, rfl, rfl, rfl, hE.rd, hL.rd, b1, b2⟩
  | worn => rw [hs] at hp; exact ⟨g, v, ⟨false, false, true, cZ, 0, slZ, slZ⟩, hb, fun W => by rw [show v = phWorn from hp]; exact out_worn W, rfl, rfl, rfl, rfl, rfl, e0, l0, by show 0 * 40 ≤ 140737488355328; decide, by show 0 * 56 ≤ 140737488355328; decide⟩
theorem decided_P {w : World} {I : Nat → Prop} {p : Nat} {s : PS} (h : Prp w I p s) : Calls Try.prog 21 #[.pointer (some ⟨p, 0, none⟩)] w (fun e w' => e = .returned (.tuple #[.agg (decO s).1.cells, .bool (decO s).2]) ∧ Kept No w w') := by
  obtain ⟨g, v, o, hb, hO, e1, e2, _⟩ := out_P h
  rw [← e1, ← e2]
  exact decided_any p (s.pv g v) o w hb hO
theorem round_P {w : World} {I : Nat → Prop} {p : Nat} {s : PS} (h : Prp w I p s) : Calls Try.prog 22 #[.pointer (some ⟨p, 0, none⟩)] w (fun e w' => e = .returned (.int .i64 s.rd) ∧ w' = w) := by
  obtain ⟨⟨g, v, hb, _⟩, _⟩ := h
  exact round_any p (s.pv g v) w hb
def newS (cl op : Int) (y : Ky) (zs : List Int) (c : Cm) (n r : Int) : PS := ⟨cl, op, y, uq zs, c, n, n, r, .fresh⟩
theorem new_P (cl op : Int) (y : Ky) (a0 : Option Addr) (n0 cap0 : Nat) (zs : List Int) (c : Cm) (n r : Int) (w : World) (hz : zs.length = n0) (hn : n0 ≤ 2000000) (hg : Nums .i64 w a0 zs) :
    Calls Try.prog 9 #[.int .i64 cl, .int .i64 op, .agg y.cells, .slice a0 n0 cap0, .agg c.cells, .int .i64 n, .int .i64 r] w (fun e w' => ∃ p I, e = .returned (.pointer (some ⟨p, 0, none⟩)) ∧ Prp w' I p (newS cl op y zs c n r) ∧ (∀ k, I k → w.heap.size ≤ k ∧ k < w'.heap.size ∧ NotM w' k) ∧ Kept No w w') := by
  refine Calls.mono (newP_any cl op y a0 n0 cap0 zs c n r w hz (by omega) hg) ?_
  rintro e w' ⟨p, ga, gc, he, hb, hO, hlo, hk⟩
  have hP : Prp w' (fun k => w.heap.size ≤ k) p (newS cl op y zs c n r) := Prp.mk' (s := newS cl op y zs c n r) (g := ⟨ga, (uq zs).length, gc⟩) (v := .nilIface) hb rfl (hO.lower (Nat.zero_le _)) rfl hlo (fun k e => hO.base e) (by have := uq_len zs; show (uq zs).length ≤ _; omega)
  exact ⟨p, _, he, hP.cut, fun k e => e, hk⟩

end Go.Proofs.Ytpabpeppgpeaoaa
namespace Go.Proofs.Ytpabpeppgpeaoaa
open Go.RowKit Gt
set_option linter.unusedVariables false
set_option linter.unusedSimpArgs false

theorem zero23' : (Try.prog.info? 23).bind (·.zero) = some (.agg kyZ.cells) := by kernel_rfl
theorem store_K {w : World} {g : Nat} {y : Ky} {cur : Array Value} (hb : Box w g 23 cur) (hl : cur.size = 4) : (storeVar 23 ⟨g, 0, none⟩ (.agg y.cells)).run Try.prog w = .ok () (w.setRow g y.cells) :=
  run_storeVar_row w g 23 23 cur y.cells hb Try.size23 (by rw [hl]; rfl) (by simp [Ky.cells, Ky.cs, Value.oneCell'])
theorem slice1_i (z : Int) (w : World) : (Instr.buildSlice 24 1 #[(0, .int .i64 z)]).run Try.prog w = .ok (.slice (some ⟨w.heap.size, 0, none⟩) 1 1) (w.alloc (.cells #[.int .i64 z] 3)) := by kernel_rfl
/-- Messages that were told. -/
def Told (w : World) (base : Nat) (a : Option Addr) (c : Nat) (l : List Ms) : Prop := Own 47 30 w base a c l.length (msL l)
theorem Told.box {w : World} {base : Nat} {a : Option Addr} {c : Nat} {l : List Ms} (h : Told w base a c l) {k : Nat} (hk : At a k) : ∃ cs, Box w k 47 cs := by
  rcases Own.cases h (msL_len l) with ⟨rfl, _⟩ | ⟨g', rfl, _, _, sp, hh, _⟩
  · exact absurd hk At.none
  · obtain ⟨ad, e, rfl⟩ := hk
    cases e
    exact ⟨_, hh⟩
theorem Told.keptI {w w' : World} {base : Nat} {a : Option Addr} {c : Nat} {l : List Ms} {I : Nat → Prop} (h : Told w base a c l) (hk : Kept I w w') (hI : ∀ k, I k → NotM w k) : Told w' base a c l :=
  Own.kept h hk (fun k e f => by obtain ⟨cs, hb⟩ := h.box e; exact hI k f cs hb)
theorem Told.no {w w' : World} {base : Nat} {a : Option Addr} {c : Nat} {l : List Ms} (h : Told w base a c l) (hk : Kept No w w') : Told w' base a c l := Own.no h hk
theorem msL_at : ∀ (l : List Ms) (i j : Nat) (y : Ms) (u : Value), l[i]? = some y → y.cs[j]? = some u → (msL l)[i * 30 + j]? = some u
  | [], i, j, y, u, h, _ => by simp at h
  | z :: l, 0, j, y, u, h, hu => by
    simp at h
    subst h
    have hj := (List.getElem?_eq_some_iff.1 hu).1
    simp only [msL, List.flatMap_cons, Nat.zero_mul, Nat.zero_add]
    rw [List.getElem?_append_left hj]
    exact hu
  | z :: l, i + 1, j, y, u, h, hu => by
    have := msL_at l i j y u (by simpa using h) hu
    have e : (i + 1) * 30 + j = 30 + (i * 30 + j) := by omega
    simp only [msL, List.flatMap_cons]
    rw [e, List.getElem?_append_right (by rw [Ms.len]; omega), Ms.len, Nat.add_sub_cancel_left]
    exact this
theorem Told.row {w : World} {base : Nat} {a : Option Addr} {c : Nat} {l : List Ms} (h : Told w base a c l) (h0 : 0 < l.length) : ∃ g, a = some ⟨g, 0, none⟩ ∧ base ≤ g ∧ ∀ (i : Nat) y, l[i]? = some y → ∀ (j : Nat) u, y.cs[j]? = some u → w.cell? ⟨g, i * 30 + j, none⟩ = some u := by
  rcases Own.cases h (msL_len l) with ⟨_, _, e⟩ | ⟨g', rfl, hb, _, sp, hh, _⟩
  · omega
  · refine ⟨g', rfl, hb, fun i y hy j u hu => ?_⟩
    rw [cell_of_row w g' _ _ 47 (0, 0) hh]
    have := msL_at l i j y u hy hu
    have hl := (List.getElem?_eq_some_iff.1 this).1
    rw [List.getElem?_toArray, List.getElem?_append_left hl]
    exact this
theorem load_row {w : World} {g o : Nat} {t : TypeId} {d : TypeDesc} {sub : List Value} (hc : ∀ (j : Nat) u, sub[j]? = some u → w.cell? ⟨g, o + j, none⟩ = some u)
    (hu : Try.prog.underlying t = some d) (hd : (match d with | .struct _ | .array _ _ => true | _ => false) = true) (hi : (Try.prog.info? t).map (·.size) = some sub.length) :
    (loadVar t ⟨g, o, none⟩).run Try.prog w = .ok (.agg sub.toArray) w :=
  load_at (n := 0) (i := 0) (off := o) (b := g) (it := sub) (fun j v hv => by simpa using hc j v hv) hu hd hi
def nMsg (k : Int) (fi ti op rd : Int) (ky : Ky) (n c : Int) : Ms := ⟨k, false, fi, true, ti, op, rd, ky, ⟨n, c⟩, sZ, slZ, cZ, 0, slZ, slZ, slZ, false⟩
theorem take_N {w : World} {I : Nat → Prop} {p : Nat} {s : PS} (h : Prp w I p s) (k fi ti op rd : Int) (ky : Ky) (n c : Int) :
    Calls Try.prog 28 #[.pointer (some ⟨p, 0, none⟩), .agg (nMsg k fi ti op rd ky n c).cells] w (PrOut w I p (taksS s (nMsg k fi ti op rd ky n c) [] []).1 (taksS s (nMsg k fi ti op rd ky n c) [] []).2) :=
  take_P h _ [] [] (by show 0 * 40 ≤ 140737488355328; decide) (by show 0 * 56 ≤ 140737488355328; decide) ⟨RowsAt.nil _ _ _, rfl, fun _ => rfl⟩ ⟨RowsAt.nil _ _ _, rfl, fun _ => rfl⟩
def kK : Ky := ⟨3, 2, 5, 0⟩
def kX : Cm := ⟨4, 7, 4, ⟨#[]⟩, 0, 0, 0, 0, 0⟩
def k0 : PS := newS 7 4 kK [3] kX 2 10
def k1 : PS := (begS k0).1
def k2 : PS := (taksS k1 (nMsg 13 3 7 4 10 kK 2 7) [] []).1
def k3 : PS := (taksS k2 (nMsg 15 3 7 4 11 kK 2 7) [] []).1
theorem kl1 : ∃ m : Ms, (begS k0).2 = [m] ∧ m.k = 3 := ⟨_, rfl, rfl⟩
theorem kl2 : ∃ m : Ms, (taksS k1 (nMsg 13 3 7 4 10 kK 2 7) [] []).2 = [m] ∧ m.k = 4 ∧ m.c = kX := ⟨_, rfl, rfl, rfl⟩
theorem kl3 : ∃ m : Ms, (taksS k2 (nMsg 15 3 7 4 11 kK 2 7) [] []).2 = [m] ∧ m.k = 5 := ⟨_, rfl, rfl⟩
end Go.Proofs.Ytpabpeppgpeaoaa
