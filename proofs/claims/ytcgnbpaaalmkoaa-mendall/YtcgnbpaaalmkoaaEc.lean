import Derived.Test.YtcgnbpaaalmkoaaEa
namespace Go.Proofs.Ytcgnbpaaalmkoaa
open Go.RowKit
set_option linter.unusedVariables false
set_option linter.unusedSimpArgs false

theorem take_gen (m : Mg) (h : Hd) (bs : List Int) (es : List En) (ls : List La) (cs : List Cm) (hb : List Int) (hes : List En) (hls : List La) (ps : List Pl) (gb ge gl gp base : Nat) (w : World) (HA : MgAt w m bs es ls cs) (HH : HdAt w h hb hes hls ps) (HT : LtAt w base h hb hes hls ps gb ge gl gp) (HM : MayP h ps) :
 Calls Try.prog 21 #[.agg (Mg.cells m), .agg (Hd.cells (lentH h gb ge gl gp))] w (TkOutN w (takeA m h bs es ls cs ps)) := by
 have tp : ∀ k, At (lentH h gb ge gl gp).r.a k → k < w.heap.size := fun k e => by obtain ⟨ad, e1, e2⟩ := e; cases e1; subst e2; exact HT.p.lt
 have rp : RdP w (lentH h gb ge gl gp).r ps := rd_P (s := h.r) HH.p.len HT.p
 have rb := HA.b
 have re := HA.e
 have rl := HA.l
 have rc := HA.c
 have nb := HA.nb
 have ne := HA.ne
 have nl := HA.nl
 have nc := HA.nc
 have np := HH.np
 have hm : ps.length ≤ 10000000000000 := by rw [HH.p.len]; omega
 have hg0 : ∀ x ∈ decd ps, 0 ≤ x.1 ∧ x.1 ≤ 4611686018427387904 := fun x hx => by have := HM.mem x hx; omega
 cases hz : (m.k == 22 && (m.ky.k == 1 || (m.ky.k == 2 && ((decide (1 ≤ m.bk.up) && decide (m.bk.up ≤ 1048576)) || (m.bk.up == 0 && askB m.st.n))))) with
 | false =>
  have hA : takeA m h bs es ls cs ps = ⟨[], [], [], [], mgZ, false⟩ := by unfold takeA; rw [hz]; rfl
  rw [hA]
  exact (take_zero m (lentH h gb ge gl gp) w hz).mono fun e w' ⟨he, hk⟩ => ⟨slZ, [], he, TkRd.nil _, TkNew.nil _, hk⟩
 | true =>
  have hz2 := hz
  simp only [Bool.and_eq_true, Bool.or_eq_true] at hz2
  obtain ⟨hk22, hky⟩ := hz2
  cases hk1 : (m.ky.k == 1) with
  | true =>
   cases hq : lessB h.b.s m.st with
   | false =>
    have hA : takeA m h bs es ls cs ps = ⟨[], [], [], [], mgZ, false⟩ := by unfold takeA; rw [hz, hk1, hq]; rfl
    rw [hA]
    exact (take_block_no m (lentH h gb ge gl gp) bs w hk22 hk1 hq rb (by show m.bl.l ≤ _; omega)).mono fun e w' ⟨he, hk⟩ => ⟨slZ, [], he, TkRd.nil _, TkNew.nil _, hk⟩
   | true =>
    have hA : takeA m h bs es ls cs ps = ⟨[⟨m.ky, ⟨m.st, slZ⟩, inZ, bvZ⟩], bs, [], [], mgZ, false⟩ := by unfold takeA; rw [hz, hk1, hq]; rfl
    rw [hA]
    exact (take_block_yes m (lentH h gb ge gl gp) bs w hk22 hk1 hq rb (by show m.bl.l ≤ _; omega)).mono fun e w' ⟨g, s', he, hb, ho, hg, hk⟩ => ⟨⟨some ⟨g, 0, none⟩, 1, 1⟩, [⟨m.ky, ⟨m.st, s'⟩, inZ, bvZ⟩], he, ⟨rfl, row_one hb, rfl, one_el ⟨rfl, ho.rd, RdE.nil _, RdL.nil _⟩⟩, ⟨fun k e => by obtain ⟨ad, e1, e2⟩ := e; cases e1; subst e2; exact hg, fun i hi k e => by
     have : i = 0 := by have : i < 1 := hi; omega
     subst this
     rcases e with e | e | e
     · exact ho.own.base e
     · exact absurd e At.none
     · exact absurd e At.none⟩, hk⟩
  | false =>
   rw [hk1] at hky
   simp only [Bool.false_eq_true, false_or] at hky
   obtain ⟨hk2, hu⟩ := hky
   cases hup : (m.bk.up == 0) with
   | true =>
    have hu0 : m.bk.up = 0 := by simpa using hup
    have hab : askB m.st.n = true := by
     rcases hu with hu | hu
     · have := of_decide_eq_true hu.1; omega
     · exact hu.2
    have hA : takeA m h bs es ls cs ps = ⟨newF m.ky.a m.st.n h.k.up cs (decF m.st.n m.cm.l (decd ps)) m.cm.l, [], [], [], msgT m (m.st.n + ((m.cm.l : Nat) : Int)), moreB m⟩ := by unfold takeA; rw [hz, hk1, hup]; rfl
    rw [hA]
    exact (take_cmds m (lentH h gb ge gl gp) ps cs w hk22 hk1 hk2 hup hab rc rp tp hm hg0 (by show m.cm.l ≤ _; omega)).mono fun e w' ⟨s', he, ho, hk⟩ => ⟨s', _, he, ⟨ho.len, Own.rows ho.own (chL_c _) (by omega), ho.len, fun i hi => new_el (by rw [← ho.len] at hi; exact hi)⟩, ⟨fun k e => ho.own.base e, fun i hi => new_new (by rw [← ho.len] at hi; exact hi)⟩, hk⟩
   | false =>
    have hu0 : ¬ m.bk.up = 0 := by simpa using hup
    have hu2 : (decide (1 ≤ m.bk.up) = true) ∧ (decide (m.bk.up ≤ 1048576) = true) := by
     rcases hu with hu | hu
     · exact hu
     · exact absurd hu.1 (by rw [hup]; simp)
    cases hE : decide (edgeF h.k.up (decd ps) < m.bk.up) with
    | true =>
     have hA : takeA m h bs es ls cs ps = ⟨[⟨m.ky, blZ, inZ, ⟨m.bk.up, slZ, slZ⟩⟩], [], es, ls, msgT m (m.bk.up + 1), moreB m⟩ := by unfold takeA; rw [hz, hk1, hup, hE]; rfl
     rw [hA]
     exact (take_bucket_yes m (lentH h gb ge gl gp) ps es ls w hk22 hk1 hk2 hu2.1 hu2.2 (of_decide_eq_true hE) re rl (by show m.bk.e.l * 40 ≤ _; omega) (by show m.bk.l.l * 56 ≤ _; omega) rp tp hm HM.rng).mono fun e w' ⟨g, se, sl, he, hb, hoe, hol, hg, hk⟩ => ⟨⟨some ⟨g, 0, none⟩, 1, 1⟩, [⟨m.ky, blZ, inZ, ⟨m.bk.up, se, sl⟩⟩], he, ⟨rfl, row_one hb, rfl, one_el ⟨rfl, RdB.nil _, hoe.rd, hol.rd⟩⟩, ⟨fun k e => by obtain ⟨ad, e1, e2⟩ := e; cases e1; subst e2; exact hg, fun i hi k e => by
      have : i = 0 := by have : i < 1 := hi; omega
      subst this
      rcases e with e | e | e
      · exact absurd e At.none
      · exact hoe.own.base e
      · exact hol.own.base e⟩, hk⟩
    | false =>
     have hA : takeA m h bs es ls cs ps = ⟨[], [], [], [], msgT m (m.bk.up + 1), moreB m⟩ := by unfold takeA; rw [hz, hk1, hup, hE]; rfl
     rw [hA]
     exact (take_bucket_no m (lentH h gb ge gl gp) ps es ls w hk22 hk1 hk2 hu2.1 hu2.2 (by have := of_decide_eq_false hE; show m.bk.up ≤ edgeF h.k.up (decd ps); omega) re rl (by show m.bk.e.l * 40 ≤ _; omega) (by show m.bk.l.l * 56 ≤ _; omega) rp tp hm HM.rng).mono fun e w' ⟨he, hk⟩ => ⟨slZ, [], he, TkRd.nil _, TkNew.nil _, hk⟩
theorem hv_b (a : Mg) (h : Hd) (bs : List Int) (es : List En) (ls : List La) (ps : List Pl) : ((haveA a h bs es ls ps).b.length ≤ bs.length ∧ (haveA a h bs es ls ps).e.length ≤ es.length) ∧ (haveA a h bs es ls ps).l.length ≤ ls.length ∧ (haveA a h bs es ls ps).c.length ≤ 1048577 := by
 unfold haveA
 cases (a.k == 21 && (a.ky.k == 1 || (a.ky.k == 2 && askB a.st.n))) with
 | false => exact ⟨⟨Nat.zero_le _, Nat.zero_le _⟩, Nat.zero_le _, Nat.zero_le _⟩
 | true =>
  cases (a.ky.k == 1) with
  | true => cases (eqS h.b.s spZ) with
   | true => exact ⟨⟨Nat.zero_le _, Nat.zero_le _⟩, Nat.zero_le _, Nat.zero_le _⟩
   | false => exact ⟨⟨Nat.le_refl _, Nat.zero_le _⟩, Nat.zero_le _, Nat.zero_le _⟩
  | false =>
   cases decide (a.st.n ≤ h.k.up) with
   | true => exact ⟨⟨Nat.zero_le _, Nat.le_refl _⟩, Nat.le_refl _, Nat.zero_le _⟩
   | false =>
    refine ⟨⟨Nat.zero_le _, Nat.zero_le _⟩, Nat.zero_le _, ?_⟩
    show (tab (hvN a h ps) _).length ≤ _
    rw [tab_len]
    unfold hvN
    omega
theorem MgRd.at {W : World} {m : Mg} {A : Aw} (h : MgRd W m A) (hb : A.b.length ≤ 140737488351232) (he : A.e.length ≤ 3518437208780) (hl : A.l.length ≤ 2513169434843) (hc : A.c.length ≤ 1759218604390) : MgAt W m A.b A.e A.l A.c :=
 ⟨h.b, h.e, h.l, h.c, by rw [← h.b.len]; exact hb, by rw [← h.e.len]; exact he, by rw [← h.l.len]; exact hl, by rw [← h.c.len]; exact hc⟩
theorem tk_b (m : Mg) (h : Hd) (bs : List Int) (es : List En) (ls : List La) (cs : List Cm) (ps : List Pl) (hb : bs.length ≤ 140737488351232) (he : es.length ≤ 3518437208780) (hl : ls.length ≤ 2513169434843) : (takeA m h bs es ls cs ps).b.length ≤ 140737488351232 ∧ (takeA m h bs es ls cs ps).e.length ≤ 3518437208780 ∧ (takeA m h bs es ls cs ps).l.length ≤ 2513169434843 := by
 unfold takeA
 cases (m.k == 22 && (m.ky.k == 1 || (m.ky.k == 2 && ((decide (1 ≤ m.bk.up) && decide (m.bk.up ≤ 1048576)) || (m.bk.up == 0 && askB m.st.n))))) with
 | false => exact ⟨Nat.zero_le _, Nat.zero_le _, Nat.zero_le _⟩
 | true =>
  cases (m.ky.k == 1) with
  | true => cases (lessB h.b.s m.st) with
   | true => exact ⟨hb, Nat.zero_le _, Nat.zero_le _⟩
   | false => exact ⟨Nat.zero_le _, Nat.zero_le _, Nat.zero_le _⟩
  | false =>
   cases (m.bk.up == 0) with
   | true => exact ⟨Nat.zero_le _, Nat.zero_le _, Nat.zero_le _⟩
   | false => cases decide (edgeF h.k.up (decd ps) < m.bk.up) with
    | true => exact ⟨Nat.zero_le _, he, hl⟩
    | false => exact ⟨Nat.zero_le _, Nat.zero_le _, Nat.zero_le _⟩

end Go.Proofs.Ytcgnbpaaalmkoaa
