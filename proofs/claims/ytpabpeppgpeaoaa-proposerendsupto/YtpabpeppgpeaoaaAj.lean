import Derived.Test.YtpabpeppgpeaoaaAh
/-! The proposer keeps to the history: Begin, Tick, Take over its pure state. -/

namespace Go.Proofs.Ytpabpeppgpeaoaa
open Go.RowKit Gt
set_option linter.unusedVariables false
set_option linter.unusedSimpArgs false

namespace Pax

/-- The best of a list, gone through from the left: the first, or one that is more; none is more than it. -/
theorem vLess_tr {a b c : Vt} (h : vLess a b = true) (k : vLess b c = true) : vLess a c = true := by
  unfold vLess at *
  simp only [Bool.or_eq_true, Bool.and_eq_true, decide_eq_true_eq] at *
  omega
theorem vLess_no {a b c : Vt} (h : vLess a b = true) (k : vLess a c = false) : vLess b c = false := by
  unfold vLess at *
  simp only [Bool.or_eq_true, Bool.and_eq_true, decide_eq_true_eq, Bool.or_eq_false_iff, Bool.and_eq_false_iff, decide_eq_false_iff_not] at *
  omega
theorem bi_best (ps : List Vt) : ∀ k, (bi (ltV ps) k = 0 ∨ ltV ps 0 (bi (ltV ps) k) = true) ∧ ∀ j, j ≤ k → ltV ps (bi (ltV ps) k) j = false
  | 0 => ⟨.inl rfl, fun j hj => by
      have e : j = 0 := by omega
      subst e
      show vLess (vAt ps 0) (vAt ps 0) = false
      unfold vLess; simp⟩
  | k + 1 => by
    obtain ⟨h1, h2⟩ := bi_best ps k
    cases hl : ltV ps (bi (ltV ps) k) (k + 1)
    · rw [bi_no hl]
      refine ⟨h1, fun j hj => ?_⟩
      by_cases e : j = k + 1
      · subst e; exact hl
      · exact h2 j (by omega)
    · rw [bi_yes hl]
      refine ⟨.inr ?_, fun j hj => ?_⟩
      · rcases h1 with e | e
        · rw [e] at hl; exact hl
        · exact vLess_tr e hl
      · by_cases e : j = k + 1
        · subst e
          show vLess (vAt ps (k + 1)) (vAt ps (k + 1)) = false
          unfold vLess; simp
        · exact vLess_no hl (h2 j (by omega))
theorem best_or (o : Vt) (l : List Vt) : (bestV (o :: l) = o ∨ (bestV (o :: l) ∈ l ∧ vLess o (bestV (o :: l)) = true)) ∧ ∀ v, v ∈ o :: l → vLess (bestV (o :: l)) v = false := by
  obtain ⟨h1, h2⟩ := bi_best (o :: l) ((o :: l).length - 1)
  have hb := bi_le (ltV (o :: l)) ((o :: l).length - 1)
  refine ⟨?_, fun v hv => ?_⟩
  · rcases h1 with e | e
    · left; unfold bestV; rw [e]; rfl
    · by_cases e0 : bi (ltV (o :: l)) ((o :: l).length - 1) = 0
      · left; unfold bestV; rw [e0]; rfl
      · right
        refine ⟨?_, e⟩
        unfold bestV
        generalize bi (ltV (o :: l)) ((o :: l).length - 1) = i at *
        obtain ⟨j, rfl⟩ : ∃ j, i = j + 1 := ⟨i - 1, by omega⟩
        simp only [List.length_cons] at hb
        unfold vAt
        rw [List.getElem?_cons_succ, List.getElem?_eq_getElem (by omega)]
        exact List.getElem_mem _
  · obtain ⟨j, hj, e⟩ := List.getElem_of_mem hv
    have := h2 j (by omega)
    unfold ltV at this
    have e2 : vAt (o :: l) j = v := by unfold vAt; rw [List.getElem?_eq_getElem hj, e]; rfl
    rw [e2] at this
    exact this

/-- Where it stands in its phase. -/
def PhOk (zs : List Int) (h : Hist Cm) (b : Nat) : Ph → Prop
  | .fresh => h.prop b = none
  | .pre _ y _ => h.prop b = none ∧ y.g = zs ∧ y.need = needN zs.length ∧ ∀ a (v : Vt), y.v a = some v → Sok ⟨v.n, v.b⟩ ∧ Rep h a b (bal ⟨v.n, v.b⟩) (vCmd v)
  | .acc c _ y _ => h.prop b = some c ∧ y.g = zs ∧ y.need = needN zs.length ∧ ∀ a, (y.v a).isSome = true → h.vote a b
  | .dec c => Known zs h c
  | .tri _ _ _ => True
  | .worn => True
structure Pok (zs : List Int) (P : Cm → Prop) (h : Hist Cm) (s : PS) : Prop where
  g : s.zs = zs
  c0 : 1 ≤ s.cl
  c1 : s.cl < 256
  mine : P s.mine
  n1 : 1 ≤ s.n
  nt : s.n ≤ s.top
  t1 : s.top ≤ 1099511627776
  used : ∀ n, 1 ≤ n → h.prop (bal ⟨n, s.cl⟩) ≠ none → n ≤ s.n
  ph : PhOk zs h (bal ⟨s.n, s.cl⟩) s.ph
theorem Pok.st {zs : List Int} {P : Cm → Prop} {h : Hist Cm} {s : PS} (p : Pok zs P h s) : Sok ⟨s.n, s.cl⟩ :=
  ⟨by have := p.n1; simp only; omega, by have := p.nt; have := p.t1; simp only; omega, by have := p.c0; simp only; omega, p.c1⟩
/-- What is proposed elsewhere leaves it as it stands. -/
theorem Pok.le {zs : List Int} {P : Cm → Prop} {h k : Hist Cm} {s : PS} (p : Pok zs P h s) (l : Le h k) (hp : ∀ n, 1 ≤ n → k.prop (bal ⟨n, s.cl⟩) = h.prop (bal ⟨n, s.cl⟩)) : Pok zs P k s := by
  obtain ⟨p1, p2, p3, p4, p5, p6, p7, p8, p9⟩ := p
  refine ⟨p1, p2, p3, p4, p5, p6, p7, fun n hn e => p8 n hn (by rw [← hp n hn]; exact e), ?_⟩
  revert p9
  cases s.ph with
  | fresh => exact fun e => (hp _ p5).trans e
  | pre x y rf => exact fun ⟨e1, e2, e3, e4⟩ => ⟨(hp _ p5).trans e1, e2, e3, fun a v e => ⟨(e4 a v e).1, (e4 a v e).2.le l⟩⟩
  | acc c x y rf => exact fun ⟨e1, e2, e3, e4⟩ => ⟨(hp _ p5).trans e1, e2, e3, fun a e => l.vote _ _ (e4 a e)⟩
  | dec c => exact fun e => Known.le e l
  | tri _ _ _ => exact fun _ => trivial
  | worn => exact fun _ => trivial
theorem Pok.step {zs : List Int} {P : Cm → Prop} {h k : Hist Cm} {s : PS} {a : Int} (p : Pok zs P h s) (x : SvStep zs P h k a) : Pok zs P k s := p.le x.le (fun n _ => by rw [x.prop])
theorem okN_iff {n : Int} : okN n = true ↔ 1 ≤ n ∧ n ≤ 1099511627776 := by unfold okN; simp
theorem tNew_g {α : Type} {zs : List Int} (hn : zs.Nodup) (need : Int) : (tNew α zs need).g = zs := uq_self hn
/-- A first phase begins at a ballot at which nothing is proposed. -/
theorem prep_ok {zs : List Int} {P : Cm → Prop} {h : Hist Cm} (hz : zs.Nodup) {s : PS} (p : Pok zs P h s) {n r : Int} (hn : s.n ≤ n) (hp : h.prop (bal ⟨n, s.cl⟩) = none) :
    Pok zs P h (prepS s n r).1 ∧ ∀ m, m ∈ (prepS s n r).2 → Mok zs h m := by
  obtain ⟨p1, p2, p3, p4, p5, p6, p7, p8, p9⟩ := p
  unfold prepS
  cases ho : okN n && okN r
  · rw [if_neg (by decide)]
    exact ⟨⟨p1, p2, p3, p4, p5, p6, p7, p8, trivial⟩, fun m hm => absurd hm (by simp)⟩
  · rw [if_pos rfl]
    rw [Bool.and_eq_true, okN_iff] at ho
    obtain ⟨⟨o1, o2⟩, _⟩ := ho
    refine ⟨⟨p1, p2, p3, p4, o1, ?_, ?_, fun k hk e => Int.le_trans (p8 k hk e) hn, ?_⟩, fun m hm => ?_⟩
    · show n ≤ max s.top n; omega
    · show max s.top n ≤ _; omega
    · refine ⟨hp, ?_, ?_, fun a v e => nomatch e⟩
      · show (tNew Vt s.zs (needN s.zs.length)).g = zs; rw [p1]; exact tNew_g hz _
      · show needN s.zs.length = _; rw [p1]
    · obtain ⟨z, _, rfl⟩ := List.mem_map.1 hm
      refine ⟨.inl rfl, ⟨?_, o2, ?_, p3⟩, fun _ => o1, ?_, ?_, ?_, ?_, ?_, fun _ => ⟨rfl, .inl rfl⟩⟩
      · show 0 ≤ n; omega
      · show 0 ≤ s.cl; omega
      all_goals exact fun e => absurd e (by show ¬ ((3 : Int) = _); decide)
theorem begin_ok {zs : List Int} {P : Cm → Prop} {h : Hist Cm} (hz : zs.Nodup) {s : PS} (p : Pok zs P h s) : Pok zs P h (begS s).1 ∧ ∀ m, m ∈ (begS s).2 → Mok zs h m := by
  have p9 := p.ph
  unfold begS
  cases hs : s.ph with
  | fresh => rw [hs] at p9; exact prep_ok hz p (Int.le_refl _) p9
  | _ => exact ⟨p, fun m hm => absurd hm (by simp)⟩
theorem wr1_ok {n : Int} (h0 : 0 ≤ n) (h1 : n ≤ 1099511627776) : wr1 n = n + 1 := by
  unfold wr1
  rw [IntKind.wrap_i64]
  all_goals omega
theorem prepM_ok {zs : List Int} {P : Cm → Prop} {h : Hist Cm} {s : PS} (p : Pok zs P h s) (z : Int) : Mok zs h ((prepM s.v0).to z) := by
  refine ⟨.inl rfl, p.st, fun _ => p.n1, ?_, ?_, ?_, ?_, ?_, fun _ => ⟨rfl, .inl rfl⟩⟩
  all_goals exact fun e => absurd e (by show ¬ ((3 : Int) = _); decide)
theorem accM_ok {zs : List Int} {P : Cm → Prop} {h : Hist Cm} {s : PS} (p : Pok zs P h s) {c : Cm} (hp : h.prop (bal ⟨s.n, s.cl⟩) = some c) (z : Int) : Mok zs h ((accM s.v0 c).to z) := by
  refine ⟨.inr (.inl rfl), p.st, fun _ => p.n1, fun _ => hp, ?_, ?_, ?_, ?_, fun _ => ⟨rfl, .inr (.inl rfl)⟩⟩
  all_goals exact fun e => absurd e (by show ¬ ((4 : Int) = _); decide)
theorem lrnM_ok {zs : List Int} {h : Hist Cm} {s : PS} {c : Cm} (hp : Known zs h c) (z : Int) : Mok zs h ((lrnM s.v0 c).to z) := by
  refine ⟨.inr (.inr (.inl rfl)), sokZ, ?_, ?_, fun _ => hp, ?_, ?_, ?_, fun _ => ⟨rfl, .inr (.inr rfl)⟩⟩
  · exact fun e => absurd e (by show ¬ ((5 : Int) = 3 ∨ (5 : Int) = 4); decide)
  all_goals exact fun e => absurd e (by show ¬ ((5 : Int) = _); decide)
theorem tick_ok {zs : List Int} {P : Cm → Prop} {h : Hist Cm} (hz : zs.Nodup) {s : PS} (p : Pok zs P h s) : Pok zs P h (tickS s).1 ∧ ∀ m, m ∈ (tickS s).2 → Mok zs h m := by
  have p9 := p.ph
  have new : ∀ r, Pok zs P h (prepS s (wr1 s.top) r).1 ∧ ∀ m, m ∈ (prepS s (wr1 s.top) r).2 → Mok zs h m := fun r => by
    have e := wr1_ok (n := s.top) (by have := p.n1; have := p.nt; omega) p.t1
    refine prep_ok hz p (by have := p.nt; omega) ?_
    cases hp : h.prop (bal ⟨wr1 s.top, s.cl⟩) with
    | none => rfl
    | some v =>
      have := p.used (wr1 s.top) (by have := p.n1; have := p.nt; omega) (by rw [hp]; exact fun e => nomatch e)
      have := p.nt
      omega
  unfold tickS
  cases hs : s.ph with
  | pre x y rf =>
    cases rf
    · exact ⟨p, fun m hm => by obtain ⟨z, _, rfl⟩ := List.mem_map.1 hm; exact prepM_ok p z⟩
    · exact new _
  | acc c x y rf =>
    rw [hs] at p9
    cases rf
    · exact ⟨p, fun m hm => by obtain ⟨z, _, rfl⟩ := List.mem_map.1 hm; exact accM_ok p p9.1 z⟩
    · exact new _
  | _ => exact ⟨p, fun m hm => absurd hm (by simp)⟩

end Pax

end Go.Proofs.Ytpabpeppgpeaoaa
/-! The proposer keeps to the history: Take over its pure state. -/

namespace Go.Proofs.Ytpabpeppgpeaoaa
open Go.RowKit Gt
set_option linter.unusedVariables false
set_option linter.unusedSimpArgs false

namespace Pax

/-- A proposer's step: the history goes on, the servers stay, and what is proposed is proposed at its own ballot. -/
structure PrStep (zs : List Int) (P : Cm → Prop) (h h' : Hist Cm) (cl : Int) : Prop where
  le : Le h h'
  ok : Ok zs P h'
  servers : ∀ x p d c, Sv h x p d c → Sv h' x p d c
  others : ∀ d n, 0 ≤ d → d < 256 → d ≠ cl → 1 ≤ n → h'.prop (bal ⟨n, d⟩) = h.prop (bal ⟨n, d⟩)
theorem PrStep.same {zs : List Int} {P : Cm → Prop} {h : Hist Cm} (o : Ok zs P h) (cl : Int) : PrStep zs P h h cl := ⟨Le.refl h, o, fun _ _ _ _ e => e, fun _ _ _ _ _ _ => rfl⟩
theorem PrStep.aok {zs : List Int} {P : Cm → Prop} {h h' : Hist Cm} {cl x : Int} {i : In} (s : PrStep zs P h h' cl) (k : Aok zs h x i) : Aok zs h' x i := by
  rcases k with ⟨e, k⟩ | ⟨e, k1, k2, k3⟩
  · exact .inl ⟨e, k.le s.le⟩
  · exact .inr ⟨e, k1, k2, s.servers _ _ _ _ k3⟩
theorem PrStep.pok {zs : List Int} {P : Cm → Prop} {h h' : Hist Cm} {cl : Int} {s : PS} (x : PrStep zs P h h' cl) (hc : s.cl ≠ cl) (p : Pok zs P h s) : Pok zs P h' s :=
  p.le x.le (fun n hn => x.others s.cl n (by have := p.c0; omega) p.c1 hc hn)
theorem propose_step {zs : List Int} {P : Cm → Prop} {h : Hist Cm} (o : Ok zs P h) {n cl : Int} {c : Cm} (hn : 1 ≤ n) (c0 : 1 ≤ cl) (c1 : cl < 256) (hp : h.prop (bal ⟨n, cl⟩) = none) (hs : Safe zs h (bal ⟨n, cl⟩) c) (hP : P c) :
    PrStep zs P h (proposed h (bal ⟨n, cl⟩) c) cl := by
  refine ⟨proposed_le hp, proposed_ok o hp hs hP, fun x p d e k => k.proposed hp, fun d k d0 d1 hd hk => ?_⟩
  show (if bal ⟨k, d⟩ = bal ⟨n, cl⟩ then some c else h.prop (bal ⟨k, d⟩)) = _
  rw [if_neg fun e => hd (bal_inj (by omega) (by omega) d0 (by omega) d1 c1 e).2]

theorem take_maj {α : Type} {zs : List Int} (hz : zs.Nodup) {y : TS α} (hg : y.g = zs) (hn : y.need = needN zs.length) {a : Int} {v : α} (h : takeB y a = true) : Maj zs (fun x => ((takeS y a v).v x).isSome) := by
  unfold takeB at h
  rw [Bool.and_eq_true, decide_eq_true_eq] at h
  obtain ⟨h1, h2⟩ := h
  have e : takeS y a v = putS y a v := by unfold takeS; rw [if_pos h1]
  unfold mayB at h1
  simp only [Bool.and_eq_true, decide_eq_true_eq, Option.isNone_iff_eq_none] at h1
  have hc := cnt_put (v := v) (hg ▸ hz) h1.1.1 h1.1.2
  rw [e]
  unfold Maj
  have : cnt (putS y a v) = zs.countP (fun x => ((putS y a v).v x).isSome) := by unfold cnt; rw [show (putS y a v).g = zs from hg]
  rw [hn] at h2
  unfold needN at h2
  omega
theorem take_v {α : Type} {y : TS α} {a x : Int} {v u : α} (h : (takeS y a v).v x = some u) : y.v x = some u ∨ (x = a ∧ u = v) := by
  unfold takeS at h
  split at h
  · unfold putS at h
    simp only at h
    split at h
    · next e => exact .inr ⟨e, (Option.some.inj h).symm⟩
    · exact .inl h
  · exact .inl h
theorem take_need {α : Type} (y : TS α) (a : Int) (v : α) : (takeS y a v).need = y.need := by
  unfold takeS
  split <;> rfl
/-- The choice may be proposed. -/
theorem choice_safe {zs : List Int} {P : Cm → Prop} {h : Hist Cm} (o : Ok zs P h) {s : PS} (p : Pok zs P h s) {y : TS Vt} (hg : y.g = zs) (hm : Maj zs (fun x => (y.v x).isSome)) (hp : h.prop (bal ⟨s.n, s.cl⟩) = none)
    (hr : ∀ a (v : Vt), y.v a = some v → Sok ⟨v.n, v.b⟩ ∧ Rep h a (bal ⟨s.n, s.cl⟩) (bal ⟨v.n, v.b⟩) (vCmd v)) : Safe zs h (bal ⟨s.n, s.cl⟩) (choiceS s y) ∧ P (choiceS s y) := by
  obtain ⟨hb, hall⟩ := best_or (ownV s.v0) ((gotL y).map Prod.snd)
  have got : ∀ a (v : Vt), a ∈ zs → y.v a = some v → v ∈ (gotL y).map Prod.snd := fun a v ha e => by
    refine List.mem_map.2 ⟨(a, v), ?_, rfl⟩
    unfold gotL
    rw [List.mem_filterMap]
    exact ⟨a, hg ▸ ha, by rw [e]; rfl⟩
  have tog : ∀ v, v ∈ (gotL y).map Prod.snd → ∃ a, a ∈ zs ∧ y.v a = some v := fun v hv => by
    obtain ⟨⟨a, u⟩, hu, e⟩ := List.mem_map.1 hv
    unfold gotL at hu
    rw [List.mem_filterMap] at hu
    obtain ⟨x, hx, e2⟩ := hu
    cases e3 : y.v x with
    | none => rw [e3] at e2; exact nomatch e2
    | some z =>
      rw [e3] at e2
      have e2 := Option.some.inj e2
      cases e2
      exact ⟨a, hg ▸ hx, by rw [e3]; exact congrArg some e⟩
  have hc : choiceS s y = vCmd (bestV (ownV s.v0 :: (gotL y).map Prod.snd)) := rfl
  rw [hc]
  generalize hB : bestV (ownV s.v0 :: (gotL y).map Prod.snd) = B at *
  let d : Int → Nat := fun a => match y.v a with | some v => bal ⟨v.n, v.b⟩ | none => 0
  let c : Int → Cm := fun a => match y.v a with | some v => vCmd v | none => cZ
  have dv : ∀ a v, y.v a = some v → d a = bal ⟨v.n, v.b⟩ := fun a v e => by show (match y.v a with | some v => bal ⟨v.n, v.b⟩ | none => 0) = _; rw [e]
  have cv : ∀ a v, y.v a = some v → c a = vCmd v := fun a v e => by show (match y.v a with | some v => vCmd v | none => cZ) = _; rw [e]
  have R : ∀ a, a ∈ zs → (y.v a).isSome = true → Rep h a (bal ⟨s.n, s.cl⟩) (d a) (c a) := fun a _ e => by
    obtain ⟨v, e⟩ := Option.isSome_iff_exists.1 e
    rw [dv a v e, cv a v e]
    exact (hr a v e).2
  have less : ∀ v, v ∈ (gotL y).map Prod.snd → ∀ (k : Sok ⟨B.n, B.b⟩), bal ⟨v.n, v.b⟩ ≤ bal ⟨B.n, B.b⟩ := fun v hv k => by
    obtain ⟨a, ha, e⟩ := tog v hv
    exact ltS_no k (hr a v e).1 (hall v (List.mem_cons_of_mem _ hv))
  rcases hb with e | ⟨e1, e2⟩
  · have k : Sok ⟨B.n, B.b⟩ := by rw [e]; exact sokZ
    have e0 : bal ⟨B.n, B.b⟩ = 0 := by rw [e]; rfl
    refine ⟨safe_of o hm hp R (B := 0) (fun a ha ea => ?_) (.inl rfl), by rw [e]; exact p.mine⟩
    obtain ⟨v, ev⟩ := Option.isSome_iff_exists.1 ea
    rw [dv a v ev, ← e0]
    exact less v (got a v ha ev) k
  · obtain ⟨a, ha, e⟩ := tog B e1
    have k := (hr a B e).1
    have S : Safe zs h (bal ⟨s.n, s.cl⟩) (vCmd B) := safe_of o hm hp R (B := bal ⟨B.n, B.b⟩) (fun x hx ex => by
        obtain ⟨v, ev⟩ := Option.isSome_iff_exists.1 ex
        rw [dv x v ev]
        exact less v (got x v hx ev) k) (.inr ⟨a, ha, by rw [e]; rfl, dv a B e, cv a B e⟩)
    refine ⟨S, ?_⟩
    have h0 : 0 < bal ⟨B.n, B.b⟩ := by
      have : ltS sZ ⟨B.n, B.b⟩ = true := e2
      have := (ltS_iff sokZ k).1 this
      rw [balZ] at this
      exact this
    exact (o.prop _ _ ((hr a B e).2.held.resolve_left (by omega))).2
/-- What a step of a proposer leaves. -/
def TakOut (zs : List Int) (P : Cm → Prop) (h : Hist Cm) (s : PS) (t : PS × List Ms) : Prop := ∃ h', PrStep zs P h h' s.cl ∧ Pok zs P h' t.1 ∧ t.1.cl = s.cl ∧ ∀ m, m ∈ t.2 → Mok zs h' m
theorem TakOut.keep {zs : List Int} {P : Cm → Prop} {h : Hist Cm} (o : Ok zs P h) {s t : PS} (p : Pok zs P h t) (e : t.cl = s.cl) : TakOut zs P h s (t, []) := ⟨h, .same o _, p, e, fun m hm => absurd hm (by simp)⟩
/-- A second phase begins. -/
theorem acc_ok {zs : List Int} {P : Cm → Prop} {h : Hist Cm} (hz : zs.Nodup) (o : Ok zs P h) {s : PS} (p : Pok zs P h s) {c : Cm} (hp : h.prop (bal ⟨s.n, s.cl⟩) = none) (hs : Safe zs h (bal ⟨s.n, s.cl⟩) c) (hP : P c) : TakOut zs P h s (accS s c) := by
  have p' := p
  obtain ⟨p1, p2, p3, p4, p5, p6, p7, p8, p9⟩ := p
  unfold accS
  cases ho : okN s.n && okN (wr1 s.rd)
  · rw [if_neg (by decide)]
    exact TakOut.keep o ⟨p1, p2, p3, p4, p5, p6, p7, p8, trivial⟩ rfl
  · rw [if_pos rfl]
    have st := propose_step o p5 p2 p3 hp hs hP
    have e0 : (proposed h (bal ⟨s.n, s.cl⟩) c).prop (bal ⟨s.n, s.cl⟩) = some c := by show (if _ = _ then some c else _) = _; rw [if_pos rfl]
    have P2 : Pok zs P (proposed h (bal ⟨s.n, s.cl⟩) c) { mov s s.n (wr1 s.rd) with ph := .acc c (tNew Unit s.zs (s.zs.length : Int)) (tNew Unit s.zs (needN s.zs.length)) false } := by
      refine ⟨p1, p2, p3, p4, p5, ?_, ?_, fun n hn e => ?_, ⟨e0, ?_, ?_, fun a e => absurd e (by show ¬ ((none : Option Unit).isSome = true); decide)⟩⟩
      · show s.n ≤ max s.top s.n; omega
      · show max s.top s.n ≤ _; omega
      · show n ≤ s.n
        by_cases en : bal ⟨n, s.cl⟩ = bal ⟨s.n, s.cl⟩
        · exact Int.le_of_eq (bal_inj (by omega) (by omega) (by omega) (by omega) p3 p3 en).1
        · refine p8 n hn fun e' => e ?_
          show (if bal ⟨n, s.cl⟩ = bal ⟨s.n, s.cl⟩ then some c else h.prop (bal ⟨n, s.cl⟩)) = none
          rw [if_neg en]; exact e'
      · show (tNew Unit s.zs (needN s.zs.length)).g = zs; rw [p1]; exact tNew_g hz _
      · show needN s.zs.length = _; rw [p1]
    refine ⟨_, st, P2, rfl, fun m hm => ?_⟩
    obtain ⟨z, _, rfl⟩ := List.mem_map.1 hm
    exact accM_ok P2 e0 z
theorem hear_g {x : TS Unit} {z : Int} : (hearS x z).g = x.g := by
  unfold hearS takeS
  split
  · split <;> rfl
  · rfl
theorem takP_ok {zs : List Int} {P : Cm → Prop} {h : Hist Cm} (hz : zs.Nodup) (o : Ok zs P h) {s : PS} (p : Pok zs P h s) {x : TS Unit} {y : TS Vt} {rf : Bool} (hs : s.ph = .pre x y rf) {m : Ms} (hm : Mok zs h m) : TakOut zs P h s (takP s x y rf m) := by
  have p9 := p.ph
  rw [hs] at p9
  obtain ⟨q1, q2, q3, q4⟩ := p9
  unfold takP
  cases hc : eqS m.st ⟨s.n, s.cl⟩ && (m.k == 13) && decide (m.fi ∈ missL x)
  · rw [if_neg (by decide)]; exact TakOut.keep o p rfl
  · rw [if_pos rfl]
    simp only [Bool.and_eq_true, beq_iff_eq, decide_eq_true_eq] at hc
    obtain ⟨⟨e1, e2⟩, _⟩ := hc
    have e1 := eqS_eq e1
    obtain ⟨r1, r2⟩ := hm.pro e2
    rw [e1] at r2
    have R : ∀ a (v : Vt), (takeS y m.fi (msV m)).v a = some v → Sok ⟨v.n, v.b⟩ ∧ Rep h a (bal ⟨s.n, s.cl⟩) (bal ⟨v.n, v.b⟩) (vCmd v) := fun a v e => by
      rcases take_v e with e | ⟨rfl, rfl⟩
      · exact q4 a v e
      · exact ⟨r1, r2⟩
    have g : (takeS y m.fi (msV m)).g = zs := (take_g y m.fi (msV m)).trans q2
    cases ht : takeB y m.fi
    · rw [if_neg (by decide)]
      obtain ⟨p1, p2, p3, p4, p5, p6, p7, p8, _⟩ := p
      exact TakOut.keep o ⟨p1, p2, p3, p4, p5, p6, p7, p8, ⟨q1, g, (take_need _ _ _).trans q3, R⟩⟩ rfl
    · rw [if_pos rfl]
      obtain ⟨c1, c2⟩ := choice_safe o p g (take_maj hz q2 q3 ht) q1 R
      exact acc_ok hz o p q1 c1 c2
theorem takA_ok {zs : List Int} {P : Cm → Prop} {h : Hist Cm} (hz : zs.Nodup) (o : Ok zs P h) {s : PS} (p : Pok zs P h s) {c : Cm} {x y : TS Unit} {rf : Bool} (hs : s.ph = .acc c x y rf) {m : Ms} (hm : Mok zs h m) : TakOut zs P h s (takA s c x y rf m) := by
  have p9 := p.ph
  rw [hs] at p9
  obtain ⟨q1, q2, q3, q4⟩ := p9
  unfold takA
  cases hc : eqS m.st ⟨s.n, s.cl⟩ && (m.k == 15) && decide (m.fi ∈ missL x)
  · rw [if_neg (by decide)]; exact TakOut.keep o p rfl
  · rw [if_pos rfl]
    simp only [Bool.and_eq_true, beq_iff_eq, decide_eq_true_eq] at hc
    obtain ⟨⟨e1, e2⟩, _⟩ := hc
    have e1 := eqS_eq e1
    have r2 := hm.vot e2
    rw [e1] at r2
    have R : ∀ a, ((takeS y m.fi ()).v a).isSome = true → h.vote a (bal ⟨s.n, s.cl⟩) := fun a e => by
      obtain ⟨v, e⟩ := Option.isSome_iff_exists.1 e
      rcases take_v e with e | ⟨rfl, _⟩
      · exact q4 a (by rw [e]; rfl)
      · exact r2
    have g : (takeS y m.fi ()).g = zs := (take_g y m.fi ()).trans q2
    obtain ⟨p1, p2, p3, p4, p5, p6, p7, p8, _⟩ := p
    cases ht : takeB y m.fi
    · rw [if_neg (by decide)]
      exact TakOut.keep o ⟨p1, p2, p3, p4, p5, p6, p7, p8, ⟨q1, g, (take_need _ _ _).trans q3, R⟩⟩ rfl
    · rw [if_pos rfl]
      have k : Known zs h c := ⟨_, q1, _, take_maj hz q2 q3 ht, fun a _ e => R a e⟩
      refine ⟨h, .same o _, ⟨p1, p2, p3, p4, p5, p6, p7, p8, k⟩, rfl, fun m' hm' => ?_⟩
      obtain ⟨z, _, rfl⟩ := List.mem_map.1 hm'
      exact lrnM_ok k z
theorem oth_ok {zs : List Int} {P : Cm → Prop} {h : Hist Cm} (o : Ok zs P h) {s : PS} (p : Pok zs P h s) {x : TS Unit} {nk : TS Unit → Ph} (hk : ∀ x', PhOk zs h (bal ⟨s.n, s.cl⟩) (nk x')) {m : Ms} (hm : Mok zs h m) {es : List En} {ls : List La}
    {t : PS × List Ms} (ht : TakOut zs P h s t) : TakOut zs P h s (othS s x nk m es ls t) := by
  have p' := p
  obtain ⟨p1, p2, p3, p4, p5, p6, p7, p8, p9⟩ := p
  unfold othS
  split
  · split
    · next e => exact TakOut.keep o ⟨p1, p2, p3, p4, p5, p6, p7, p8, hm.knw (by simpa using e)⟩ rfl
    · split
      · exact TakOut.keep o ⟨p1, p2, p3, p4, p5, p6, p7, p8, trivial⟩ rfl
      · split
        · split
          · refine TakOut.keep o ⟨p1, p2, p3, p4, p5, ?_, ?_, p8, hk _⟩ rfl
            · show s.n ≤ max s.top m.st.n; omega
            · have := hm.st.n1; show max s.top m.st.n ≤ _; omega
          · exact TakOut.keep o p' rfl
        · split
          · exact ht
          · exact TakOut.keep o p' rfl
  · exact TakOut.keep o p' rfl
theorem take_ok {zs : List Int} {P : Cm → Prop} {h : Hist Cm} (hz : zs.Nodup) (o : Ok zs P h) {s : PS} (p : Pok zs P h s) {m : Ms} (hm : Mok zs h m) (es : List En) (ls : List La) : TakOut zs P h s (taksS s m es ls) := by
  have p9 := p.ph
  unfold taksS
  cases hs : s.ph with
  | pre x y rf => rw [hs] at p9; exact oth_ok (nk := fun x' => .pre x' y true) o p (fun x' => p9) hm (takP_ok hz o p hs hm)
  | acc c x y rf => rw [hs] at p9; exact oth_ok (nk := fun x' => .acc c x' y true) o p (fun x' => p9) hm (takA_ok hz o p hs hm)
  | _ => exact TakOut.keep o p rfl
theorem dec_ok {zs : List Int} {P : Cm → Prop} {h : Hist Cm} {s : PS} (p : Pok zs P h s) (e : (decO s).2 = true) : Known zs h (decO s).1 := by
  have p9 := p.ph
  unfold decO at *
  cases hs : s.ph with
  | dec c => rw [hs] at p9; exact p9
  | _ => rw [hs] at e; exact nomatch e
theorem new_ok {zs : List Int} {P : Cm → Prop} (hz : zs.Nodup) {cl op : Int} {y : Ky} {c : Cm} {n r : Int} (c0 : 1 ≤ cl) (c1 : cl < 256) (hP : P c) (n0 : 1 ≤ n) (n1 : n ≤ 1099511627776) : Pok zs P h0 (newS cl op y zs c n r) :=
  ⟨uq_self hz, c0, c1, hP, n0, Int.le_refl _, n1, fun n _ e => absurd rfl e, rfl⟩

end Pax

end Go.Proofs.Ytpabpeppgpeaoaa
