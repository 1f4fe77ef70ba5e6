import Derived.Test.YtcgnbpaaalmkoaaCd
namespace Go.Proofs.Ytcgnbpaaalmkoaa
open Go.RowKit
set_option linter.unusedVariables false
set_option linter.unusedSimpArgs false

/-- An answer: its message without lists, and what the lists hold. -/
structure Aw where
  m : Mg
  b : List Int
  e : List En
  l : List La
  c : List Cm
def scal (m : Mg) : Mg := ⟨m.k, m.fr, m.to, m.op, m.rd, m.ky, m.st, m.hd, slZ, m.c, ⟨m.bk.up, slZ, slZ⟩, slZ, m.mo⟩
structure MgRd (W : World) (m : Mg) (A : Aw) : Prop where
  s : scal m = A.m
  b : RdB W m.bl A.b
  e : RdE W m.bk.e A.e
  l : RdL W m.bk.l A.l
  c : RdC W m.cm A.c
def MgNew (n : Nat) (m : Mg) : Prop := ∀ k, (At m.bl.a k ∨ At m.bk.e.a k ∨ At m.bk.l.a k ∨ At m.cm.a k) → n ≤ k
theorem MgRd.kept {S : Nat → Prop} {W W' : World} {m : Mg} {A : Aw} {n : Nat} (h : MgRd W m A) (hn : MgNew n m) (hk : Kept S W W') (hS : ∀ k, S k → k < n) : MgRd W' m A :=
  ⟨h.s, h.b.kept hk (fun k e f => by have := hn k (.inl e); have := hS k f; omega), h.e.kept hk (fun k e f => by have := hn k (.inr (.inl e)); have := hS k f; omega), h.l.kept hk (fun k e f => by have := hn k (.inr (.inr (.inl e))); have := hS k f; omega), h.c.kept hk (fun k e f => by have := hn k (.inr (.inr (.inr e))); have := hS k f; omega)⟩
theorem MgRd.no {W W' : World} {m : Mg} {A : Aw} (h : MgRd W m A) (hk : Kept No W W') : MgRd W' m A := ⟨h.s, h.b.no hk, h.e.no hk, h.l.no hk, h.c.no hk⟩
def AnOut (w : World) (A : Aw) (e : Ending) (w' : World) : Prop := ∃ m, e = .returned (.agg (Mg.cells m)) ∧ MgRd w' m A ∧ Kept No w w'
def AnNew (w : World) (A : Aw) (e : Ending) (w' : World) : Prop := ∃ m, e = .returned (.agg (Mg.cells m)) ∧ MgRd w' m A ∧ MgNew w.heap.size m ∧ Kept No w w'
theorem RdB.nil (w : World) : RdB w slZ [] := ⟨Nums.nil _ _ _, rfl, fun _ => rfl⟩
theorem RdE.nil (w : World) : RdE w slZ [] := ⟨RowsAt.nil _ _ _, rfl, fun _ => rfl⟩
theorem RdL.nil (w : World) : RdL w slZ [] := ⟨RowsAt.nil _ _ _, rfl, fun _ => rfl⟩
theorem RdC.nil (w : World) : RdC w slZ [] := ⟨RowsAt.nil _ _ _, rfl, fun _ => rfl⟩
theorem OwC.rd {w : World} {base : Nat} {s : Sl} {cs : List Cm} (h : OwC w base s cs) : RdC w s cs := ⟨Own.rows h.own (cmL_c cs) (by omega), h.len, h.own.cap0⟩
theorem sameM2 (m n : Mg) (A : Aw) (w : World) (h : MgRd w m A) (g : MgRd w n A) (he : A.e.length ≤ 4000000000000) (hl : A.l.length ≤ 4000000000000) (hc : A.c.length ≤ 4000000000000) : Calls Try.prog 14 #[.agg (Mg.cells m), .agg (Mg.cells n)] w (fun e w' => e = .returned (.bool true) ∧ Kept No w w') := by
  have hs : scal m = scal n := h.s.trans g.s.symm
  have h1 := h.e.len
  have h2 := h.l.len
  have h3 := h.c.len
  have e : n = likeM m n.bl n.bk.e.a n.bk.e.k n.bk.l.a n.bk.l.k n.cm.a n.cm.k := by
    have g1 : n.bk.e.l = m.bk.e.l := by rw [← g.e.len, ← h.e.len]
    have g2 : n.bk.l.l = m.bk.l.l := by rw [← g.l.len, ← h.l.len]
    have g3 : n.cm.l = m.cm.l := by rw [← g.c.len, ← h.c.len]
    clear h g h1 h2 h3
    obtain ⟨k, fr, t0, op, rd, ky, st, hd, bl, c, ⟨up, ⟨ea, el, ek⟩, ⟨la, ll, lk⟩⟩, ⟨ca, cl, ck⟩, mo⟩ := m
    obtain ⟨k', fr', t0', op', rd', ky', st', hd', bl', c', ⟨up', ⟨ea', el', ek'⟩, ⟨la', ll', lk'⟩⟩, ⟨ca', cl', ck'⟩, mo'⟩ := n
    simp only [scal, Mg.mk.injEq, Bv.mk.injEq, true_and, and_true] at hs
    obtain ⟨rfl, rfl, rfl, rfl, rfl, rfl, rfl, rfl, rfl, rfl, rfl⟩ := hs
    have g1 : el' = el := g1
    have g2 : ll' = ll := g2
    have g3 : cl' = cl := g3
    subst g1 g2 g3
    rfl
  have gg1 : RdE w ⟨n.bk.e.a, m.bk.e.l, n.bk.e.k⟩ A.e := by
    have e1 : n.bk.e.l = m.bk.e.l := by rw [← g.e.len, ← h.e.len]
    rw [← e1]; exact g.e
  have gg2 : RdL w ⟨n.bk.l.a, m.bk.l.l, n.bk.l.k⟩ A.l := by
    have e1 : n.bk.l.l = m.bk.l.l := by rw [← g.l.len, ← h.l.len]
    rw [← e1]; exact g.l
  have gg3 : RdC w ⟨n.cm.a, m.cm.l, n.cm.k⟩ A.c := by
    have e1 : n.cm.l = m.cm.l := by rw [← g.c.len, ← h.c.len]
    rw [← e1]; exact g.c
  have hfin := sameM_any m n.bl n.bk.e.a n.bk.e.k n.bk.l.a n.bk.l.k n.cm.a n.cm.k A.b A.e A.l A.c w h.b g.b h.e gg1 h.l gg2 h.c gg3 (by omega) (by omega) (by omega)
  rw [← e] at hfin
  exact hfin
theorem topF_in : ∀ (l : List (Int × Cm)) (a : Int), topF a l = a ∨ ∃ x ∈ l, topF a l = x.1
  | [], a => .inl rfl
  | x :: r, a => by
    rcases topF_in r x.1 with h | ⟨y, hy, h⟩
    · exact .inr ⟨x, by simp, h⟩
    · exact .inr ⟨y, by simp [hy], h⟩
theorem MayP.mem {h : Hd} {ps : List Pl} (H : MayP h ps) : ∀ x ∈ decd ps, 0 ≤ x.1 ∧ x.1 ≤ 1048576 := by
  intro x hx
  obtain ⟨i, hi, _, rfl⟩ := decd_mem hx
  have h1 := (H.2.2 i hi).1
  have h2 := H.1
  show 0 ≤ (pAt ps i).n ∧ (pAt ps i).n ≤ 1048576
  omega
theorem MayP.top {h : Hd} {ps : List Pl} (H : MayP h ps) : 0 ≤ topF h.k.up (decd ps) ∧ topF h.k.up (decd ps) ≤ 1048576 := by
  have h1 := H.1
  rcases topF_in (decd ps) h.k.up with e | ⟨x, hx, e⟩
  · rw [e]; exact h1
  · rw [e]; exact H.mem x hx
def hvN (a : Mg) (h : Hd) (ps : List Pl) : Nat := (min (topF h.k.up (decd ps)) (a.st.n + 63) - a.st.n + 1).toNat
def haveA (a : Mg) (h : Hd) (bs : List Int) (es : List En) (ls : List La) (ps : List Pl) : Aw :=
  bif (a.k == 21 && (a.ky.k == 1 || (a.ky.k == 2 && askB a.st.n))) then
    bif a.ky.k == 1 then
      bif eqS h.b.s spZ then ⟨haveM a, [], [], [], []⟩ else ⟨{ haveM a with st := h.b.s }, bs, [], [], []⟩
    else bif decide (a.st.n ≤ h.k.up) then ⟨{ haveM a with bk := ⟨h.k.up, slZ, slZ⟩, mo := decide (h.k.up < topF h.k.up (decd ps)) }, [], es, ls, []⟩
    else ⟨{ haveM a with st := ⟨a.st.n, 0⟩, mo := decide (min (topF h.k.up (decd ps)) (a.st.n + 63) < topF h.k.up (decd ps)) }, [], [], [], tab (hvN a h ps) (fun j => cmdAt ps (a.st.n + ((j : Nat) : Int)))⟩
  else ⟨mgZ, [], [], [], []⟩
theorem new_nil (n : Nat) : ∀ k, (At slZ.a k ∨ At slZ.a k ∨ At slZ.a k ∨ At slZ.a k) → n ≤ k := by
  rintro k (e | e | e | e) <;> exact absurd e At.none
theorem hv_len (a : Mg) (h : Hd) (bs : List Int) (es : List En) (ls : List La) (ps : List Pl) (he : es.length ≤ 4000000000000) (hl : ls.length ≤ 4000000000000) : (haveA a h bs es ls ps).e.length ≤ 4000000000000 ∧ (haveA a h bs es ls ps).l.length ≤ 4000000000000 ∧ (haveA a h bs es ls ps).c.length ≤ 4000000000000 := by
  unfold haveA
  cases (a.k == 21 && (a.ky.k == 1 || (a.ky.k == 2 && askB a.st.n))) with
  | false => exact ⟨Nat.zero_le _, Nat.zero_le _, Nat.zero_le _⟩
  | true =>
    cases (a.ky.k == 1) with
    | true => cases (eqS h.b.s spZ) <;> exact ⟨Nat.zero_le _, Nat.zero_le _, Nat.zero_le _⟩
    | false =>
      cases decide (a.st.n ≤ h.k.up) with
      | true => exact ⟨he, hl, Nat.zero_le _⟩
      | false =>
        refine ⟨Nat.zero_le _, Nat.zero_le _, ?_⟩
        show (tab (hvN a h ps) _).length ≤ _
        rw [tab_len]
        unfold hvN
        omega
theorem have_any (a : Mg) (h : Hd) (bs : List Int) (es : List En) (ls : List La) (ps : List Pl) (gb ge gl gp base : Nat) (w : World) (HH : HdAt w h bs es ls ps) (HT : LtAt w base h bs es ls ps gb ge gl gp) (HM : MayP h ps) :
    Calls Try.prog 17 #[.agg (Mg.cells a), .agg (Hd.cells (lentH h gb ge gl gp))] w (AnNew w (haveA a h bs es ls ps)) := by
  have tb : ∀ k, At (lentH h gb ge gl gp).b.d.a k → k < w.heap.size := fun k e => by obtain ⟨ad, e1, e2⟩ := e; cases e1; subst e2; exact HT.b.lt
  have te : ∀ k, At (lentH h gb ge gl gp).k.e.a k → k < w.heap.size := fun k e => by obtain ⟨ad, e1, e2⟩ := e; cases e1; subst e2; exact HT.e.lt
  have tl : ∀ k, At (lentH h gb ge gl gp).k.l.a k → k < w.heap.size := fun k e => by obtain ⟨ad, e1, e2⟩ := e; cases e1; subst e2; exact HT.l.lt
  have tp : ∀ k, At (lentH h gb ge gl gp).r.a k → k < w.heap.size := fun k e => by obtain ⟨ad, e1, e2⟩ := e; cases e1; subst e2; exact HT.p.lt
  have rb : RdB w (lentH h gb ge gl gp).b.d bs := rd_B (s := h.b.d) HH.b.len HT.b
  have re : RdE w (lentH h gb ge gl gp).k.e es := rd_E (s := h.k.e) HH.e.len HT.e
  have rl : RdL w (lentH h gb ge gl gp).k.l ls := rd_L (s := h.k.l) HH.l.len HT.l
  have rp : RdP w (lentH h gb ge gl gp).r ps := rd_P (s := h.r) HH.p.len HT.p
  have nb := HH.nb
  have ne := HH.ne
  have nl := HH.nl
  have np := HH.np
  have hm : ps.length ≤ 10000000000000 := by rw [HH.p.len]; omega
  have hg0 : ∀ x ∈ decd ps, 0 ≤ x.1 ∧ x.1 ≤ 4611686018427387904 := fun x hx => by have := HM.mem x hx; omega
  cases hz : (a.k == 21 && (a.ky.k == 1 || (a.ky.k == 2 && askB a.st.n))) with
  | false =>
    have hA : haveA a h bs es ls ps = ⟨mgZ, [], [], [], []⟩ := by unfold haveA; rw [hz]; rfl
    rw [hA]
    exact (have_zero a (lentH h gb ge gl gp) w hz).mono fun e w' ⟨he, hk⟩ => ⟨mgZ, he, ⟨rfl, RdB.nil _, RdE.nil _, RdL.nil _, RdC.nil _⟩, new_nil _, hk⟩
  | true =>
    have hz2 := hz
    simp only [Bool.and_eq_true, Bool.or_eq_true] at hz2
    obtain ⟨hk21, hky⟩ := hz2
    cases hk1 : (a.ky.k == 1) with
    | true =>
      cases hq : eqS h.b.s spZ with
      | true =>
        have hA : haveA a h bs es ls ps = ⟨haveM a, [], [], [], []⟩ := by unfold haveA; rw [hz, hk1, hq]; rfl
        rw [hA]
        exact (have_block_no a (lentH h gb ge gl gp) w hk21 hk1 hq).mono fun e w' ⟨he, hk⟩ => ⟨haveM a, he, ⟨rfl, RdB.nil _, RdE.nil _, RdL.nil _, RdC.nil _⟩, new_nil _, hk⟩
      | false =>
        have hA : haveA a h bs es ls ps = ⟨{ haveM a with st := h.b.s }, bs, [], [], []⟩ := by unfold haveA; rw [hz, hk1, hq]; rfl
        rw [hA]
        exact (have_block_yes a (lentH h gb ge gl gp) bs w hk21 hk1 hq rb (by show h.b.d.l ≤ _; omega) tb).mono fun e w' ⟨s', he, ho, hk⟩ => ⟨_, he, ⟨rfl, ho.rd, RdE.nil _, RdL.nil _, RdC.nil _⟩, (by
          rintro k (e | e | e | e)
          · exact ho.own.base e
          · exact absurd e At.none
          · exact absurd e At.none
          · exact absurd e At.none), hk⟩
    | false =>
      rw [hk1] at hky
      simp only [Bool.false_eq_true, false_or] at hky
      obtain ⟨hk2, hab⟩ := hky
      cases hup : decide (a.st.n ≤ h.k.up) with
      | true =>
        have hA : haveA a h bs es ls ps = ⟨{ haveM a with bk := ⟨h.k.up, slZ, slZ⟩, mo := decide (h.k.up < topF h.k.up (decd ps)) }, [], es, ls, []⟩ := by unfold haveA; rw [hz, hk1, hup]; rfl
        rw [hA]
        exact (have_bucket a (lentH h gb ge gl gp) ps es ls w hk21 hk1 hk2 hab hup re rl (by show h.k.e.l * 40 ≤ _; omega) (by show h.k.l.l * 56 ≤ _; omega) rp tp te tl hm HM.rng).mono fun e w' ⟨se, sl, he, hoe, hol, hk⟩ => ⟨_, he, ⟨rfl, RdB.nil _, hoe.rd, hol.rd, RdC.nil _⟩, (by
          rintro k (e | e | e | e)
          · exact absurd e At.none
          · exact hoe.own.base e
          · exact hol.own.base e
          · exact absurd e At.none), hk⟩
      | false =>
        have hA : haveA a h bs es ls ps = ⟨{ haveM a with st := ⟨a.st.n, 0⟩, mo := decide (min (topF h.k.up (decd ps)) (a.st.n + 63) < topF h.k.up (decd ps)) }, [], [], [], tab (hvN a h ps) (fun j => cmdAt ps (a.st.n + ((j : Nat) : Int)))⟩ := by unfold haveA; rw [hz, hk1, hup]; rfl
        rw [hA]
        by_cases hc : min (topF h.k.up (decd ps)) (a.st.n + 63) < a.st.n
        · have h0 : hvN a h ps = 0 := by unfold hvN; omega
          rw [h0]
          exact (have_cmds_no a (lentH h gb ge gl gp) ps w hk21 hk1 hk2 hab hup rp tp hm HM.rng hg0 hc).mono fun e w' ⟨he, hk⟩ => ⟨_, he, ⟨rfl, RdB.nil _, RdE.nil _, RdL.nil _, RdC.nil _⟩, new_nil _, hk⟩
        · have hc1 : ((hvN a h ps : Nat) : Int) = min (topF h.k.up (decd ps)) (a.st.n + 63) - a.st.n + 1 := by unfold hvN; omega
          exact (have_cmds_yes a (lentH h gb ge gl gp) ps (hvN a h ps) w hk21 hk1 hk2 hab hup rp tp hm HM.rng hg0 hc1 (by omega)).mono fun e w' ⟨g, he, hb, hgl, hk⟩ => ⟨_, he, ⟨rfl, RdB.nil _, RdE.nil _, RdL.nil _, by
            rw [← decF_tab a.st.n (hvN a h ps) ps h.k.up HM.rise]
            exact RdC.ofBox hb (decF_len _ _ _)⟩, (by
            rintro k (e | e | e | e)
            · exact absurd e At.none
            · exact absurd e At.none
            · exact absurd e At.none
            · obtain ⟨ad, e1, e2⟩ := e; cases e1; subst e2; exact hgl), hk⟩
theorem refHave_any (a : Mg) (h : Hd) (bs : List Int) (es : List En) (ls : List La) (ps : List Pl) (w : World) (HH : HdAt w h bs es ls ps) (HM : MayP h ps) :
    Calls Try.prog 20 #[.agg (Mg.cells a), .agg (Hd.cells h)] w (AnOut w (haveA a h bs es ls ps)) := by
  have np := HH.np
  have hm : ps.length ≤ 10000000000000 := by rw [HH.p.len]; omega
  cases hz : (a.k == 21 && (a.ky.k == 1 || (a.ky.k == 2 && askB a.st.n))) with
  | false =>
    have hA : haveA a h bs es ls ps = ⟨mgZ, [], [], [], []⟩ := by unfold haveA; rw [hz]; rfl
    rw [hA]
    exact (refHave_zero a h w hz).mono fun e w' ⟨he, hk⟩ => ⟨mgZ, he, ⟨rfl, RdB.nil _, RdE.nil _, RdL.nil _, RdC.nil _⟩, hk⟩
  | true =>
    have hz2 := hz
    simp only [Bool.and_eq_true, Bool.or_eq_true] at hz2
    obtain ⟨hk21, hky⟩ := hz2
    cases hk1 : (a.ky.k == 1) with
    | true =>
      cases hq : eqS h.b.s spZ with
      | true =>
        have hA : haveA a h bs es ls ps = ⟨haveM a, [], [], [], []⟩ := by unfold haveA; rw [hz, hk1, hq]; rfl
        rw [hA]
        exact (refHave_block_no a h w hk21 hk1 hq).mono fun e w' ⟨he, hk⟩ => ⟨_, he, ⟨by rw [eqS_iff.1 hq]; rfl, RdB.nil _, RdE.nil _, RdL.nil _, RdC.nil _⟩, hk⟩
      | false =>
        have hA : haveA a h bs es ls ps = ⟨{ haveM a with st := h.b.s }, bs, [], [], []⟩ := by unfold haveA; rw [hz, hk1, hq]; rfl
        rw [hA]
        exact (refHave_block_yes a h w hk21 hk1 hq).mono fun e w' ⟨he, hk⟩ => ⟨_, he, ⟨rfl, HH.b.no hk, RdE.nil _, RdL.nil _, RdC.nil _⟩, hk⟩
    | false =>
      rw [hk1] at hky
      simp only [Bool.false_eq_true, false_or] at hky
      obtain ⟨hk2, hab⟩ := hky
      cases hup : decide (a.st.n ≤ h.k.up) with
      | true =>
        have hA : haveA a h bs es ls ps = ⟨{ haveM a with bk := ⟨h.k.up, slZ, slZ⟩, mo := decide (h.k.up < topF h.k.up (decd ps)) }, [], es, ls, []⟩ := by unfold haveA; rw [hz, hk1, hup]; rfl
        rw [hA]
        exact (refHave_bucket a h ps w hk21 hk1 hk2 hab hup HH.p hm).mono fun e w' ⟨he, hk⟩ => ⟨_, he, ⟨rfl, RdB.nil _, HH.e.no hk, HH.l.no hk, RdC.nil _⟩, hk⟩
      | false =>
        have hA : haveA a h bs es ls ps = ⟨{ haveM a with st := ⟨a.st.n, 0⟩, mo := decide (min (topF h.k.up (decd ps)) (a.st.n + 63) < topF h.k.up (decd ps)) }, [], [], [], tab (hvN a h ps) (fun j => cmdAt ps (a.st.n + ((j : Nat) : Int)))⟩ := by unfold haveA; rw [hz, hk1, hup]; rfl
        rw [hA]
        exact (refHave_cmds a h ps (hvN a h ps) w hk21 hk1 hk2 hab hup HH.p hm rfl HM.top).mono fun e w' ⟨s', he, ho, hk⟩ => ⟨_, he, ⟨rfl, RdB.nil _, RdE.nil _, RdL.nil _, ho.rd⟩, hk⟩

end Go.Proofs.Ytcgnbpaaalmkoaa
