import Derived.Test.YtcgnbpaaalmkoaaDb
namespace Go.Proofs.Ytcgnbpaaalmkoaa
open Go.RowKit
set_option linter.unusedVariables false
set_option linter.unusedSimpArgs false

/-- What a Take tells: changes, message, whether there is more. -/
structure Tw where
  z : List Ch
  b : List Int
  e : List En
  l : List La
  m : Mg
  o : Bool
def TkNew (n : Nat) (s : Sl) (X : List Ch) : Prop := (∀ k, At s.a k → n ≤ k) ∧ ∀ i, i < s.l → ∀ k, (At (hAt X i).b.d.a k ∨ At (hAt X i).bk.e.a k ∨ At (hAt X i).bk.l.a k) → n ≤ k
theorem TkRd.kept {S : Nat → Prop} {W W' : World} {s : Sl} {z : List Ch} {bs : List Int} {es : List En} {ls : List La} {X : List Ch} {n : Nat} (h : TkRd W s z bs es ls X) (hn : TkNew n s X) (hk : Kept S W W') (hS : ∀ k, S k → k < n) : TkRd W' s z bs es ls X :=
  ⟨h.len, h.row.kept hk (fun k e f => by have := hn.1 k e; have := hS k f; omega), h.zl, fun i hi => ⟨(h.el i hi).s, (h.el i hi).b.kept hk (fun k e f => by have := hn.2 i hi k (.inl e); have := hS k f; omega), (h.el i hi).e.kept hk (fun k e f => by have := hn.2 i hi k (.inr (.inl e)); have := hS k f; omega), (h.el i hi).l.kept hk (fun k e f => by have := hn.2 i hi k (.inr (.inr e)); have := hS k f; omega)⟩⟩
def TkOut (w : World) (A : Tw) (e : Ending) (w' : World) : Prop := ∃ (s : Sl) (X : List Ch), e = .returned (.tuple #[s.v, .agg (Mg.cells A.m), .bool A.o]) ∧ TkRd w' s A.z A.b A.e A.l X ∧ Kept No w w'
def TkOutN (w : World) (A : Tw) (e : Ending) (w' : World) : Prop := ∃ (s : Sl) (X : List Ch), e = .returned (.tuple #[s.v, .agg (Mg.cells A.m), .bool A.o]) ∧ TkRd w' s A.z A.b A.e A.l X ∧ TkNew w.heap.size s X ∧ Kept No w w'
theorem TkRd.nil (w : World) : TkRd w slZ [] [] [] [] [] := ⟨rfl, RowsAt.nil _ _ _, rfl, fun i hi => absurd hi (Nat.not_lt_zero _)⟩
theorem TkNew.nil (n : Nat) : TkNew n slZ [] := ⟨fun k e => absurd e At.none, fun i hi => absurd hi (Nat.not_lt_zero _)⟩
theorem newF_mem (a f up : Int) (cs ks : List Cm) : ∀ k x, x ∈ newF a f up cs ks k → ∃ n c, x = chM a n c
  | 0, x, h => by simp [newF] at h
  | k + 1, x, h => by
    unfold newF at h
    split at h
    · exact newF_mem a f up cs ks k x h
    · rcases List.mem_append.1 h with h | h
      · exact newF_mem a f up cs ks k x h
      · exact ⟨_, _, by simpa using h⟩
theorem hAt_mem {X : List Ch} {i : Nat} (h : i < X.length) : hAt X i ∈ X := by unfold hAt; rw [List.getElem?_eq_getElem h]; exact List.getElem_mem h
theorem new_el {w : World} {a f up : Int} {cs ks : List Cm} {k i : Nat} (hi : i < (newF a f up cs ks k).length) : ChRd w (hAt (newF a f up cs ks k) i) (hAt (newF a f up cs ks k) i) [] [] [] := by
  obtain ⟨n, c, e⟩ := newF_mem a f up cs ks k _ (hAt_mem hi)
  rw [e]
  exact ⟨rfl, RdB.nil _, RdE.nil _, RdL.nil _⟩
theorem new_new {a f up : Int} {cs ks : List Cm} {k i m : Nat} (hi : i < (newF a f up cs ks k).length) : ∀ j, (At (hAt (newF a f up cs ks k) i).b.d.a j ∨ At (hAt (newF a f up cs ks k) i).bk.e.a j ∨ At (hAt (newF a f up cs ks k) i).bk.l.a j) → m ≤ j := by
  obtain ⟨n, c, e⟩ := newF_mem a f up cs ks k _ (hAt_mem hi)
  rw [e]
  rintro j (h | h | h) <;> exact absurd h At.none
theorem row_one {w : World} {g : Nat} {T : TypeId} {x : Ch} (hb : Box w g T (Ch.cells x)) : RowsAt 24 w (some ⟨g, 0, none⟩) ([x].map Ch.cs) := by
  intro i it hi
  refine ⟨g, 0, rfl, fun j v hv => ?_⟩
  have hi0 : i = 0 := by have := (List.getElem?_eq_some_iff.1 hi).1; simp at this; exact this
  subst hi0
  simp at hi
  subst hi
  rw [Nat.zero_mul, Nat.zero_add, hb.cell]
  exact cell_ch _ _ _ hv
theorem one_el {w : World} {x z : Ch} {bs : List Int} {es : List En} {ls : List La} (h : ChRd w x z bs es ls) : ∀ i, i < 1 → ChRd w (hAt [x] i) (hAt [z] i) bs es ls := by
  intro i hi
  have : i = 0 := by omega
  subst this
  exact h
def msgT (m : Mg) (n : Int) : Mg := if moreB m then askM m.to m.fr m.ky n else mgZ
def takeA (m : Mg) (h : Hd) (bs : List Int) (es : List En) (ls : List La) (cs : List Cm) (ps : List Pl) : Tw :=
  bif (m.k == 22 && (m.ky.k == 1 || (m.ky.k == 2 && ((decide (1 ≤ m.bk.up) && decide (m.bk.up ≤ 1048576)) || (m.bk.up == 0 && askB m.st.n))))) then
    bif m.ky.k == 1 then
      bif lessB h.b.s m.st then ⟨[⟨m.ky, ⟨m.st, slZ⟩, inZ, bvZ⟩], bs, [], [], mgZ, false⟩ else ⟨[], [], [], [], mgZ, false⟩
    else bif m.bk.up == 0 then ⟨newF m.ky.a m.st.n h.k.up cs (decF m.st.n m.cm.l (decd ps)) m.cm.l, [], [], [], msgT m (m.st.n + ((m.cm.l : Nat) : Int)), moreB m⟩
    else bif decide (edgeF h.k.up (decd ps) < m.bk.up) then ⟨[⟨m.ky, blZ, inZ, ⟨m.bk.up, slZ, slZ⟩⟩], [], es, ls, msgT m (m.bk.up + 1), moreB m⟩ else ⟨[], [], [], [], msgT m (m.bk.up + 1), moreB m⟩
  else ⟨[], [], [], [], mgZ, false⟩
theorem tk_len (m : Mg) (h : Hd) (bs : List Int) (es : List En) (ls : List La) (cs : List Cm) (ps : List Pl) (hc : m.cm.l ≤ 4000000000000) (he : es.length ≤ 4000000000000) (hl : ls.length ≤ 4000000000000) : (takeA m h bs es ls cs ps).z.length ≤ 4000000000000 ∧ (takeA m h bs es ls cs ps).e.length ≤ 4000000000000 ∧ (takeA m h bs es ls cs ps).l.length ≤ 4000000000000 := by
  unfold takeA
  cases (m.k == 22 && (m.ky.k == 1 || (m.ky.k == 2 && ((decide (1 ≤ m.bk.up) && decide (m.bk.up ≤ 1048576)) || (m.bk.up == 0 && askB m.st.n))))) with
  | false => exact ⟨Nat.zero_le _, Nat.zero_le _, Nat.zero_le _⟩
  | true =>
    cases (m.ky.k == 1) with
    | true => cases (lessB h.b.s m.st) <;> exact ⟨by simp, Nat.zero_le _, Nat.zero_le _⟩
    | false =>
      cases (m.bk.up == 0) with
      | true =>
        refine ⟨?_, Nat.zero_le _, Nat.zero_le _⟩
        have := newF_len m.ky.a m.st.n h.k.up cs (decF m.st.n m.cm.l (decd ps)) m.cm.l
        exact Nat.le_trans this hc
      | false => cases decide (edgeF h.k.up (decd ps) < m.bk.up) with
        | true => exact ⟨by simp, he, hl⟩
        | false => exact ⟨Nat.zero_le _, Nat.zero_le _, Nat.zero_le _⟩
theorem msgT_nil (m : Mg) (n : Int) : (msgT m n).bl = slZ ∧ (msgT m n).bk.e = slZ ∧ (msgT m n).bk.l = slZ ∧ (msgT m n).cm = slZ := by
  unfold msgT
  split <;> exact ⟨rfl, rfl, rfl, rfl⟩
theorem tk_nil (m : Mg) (h : Hd) (bs : List Int) (es : List En) (ls : List La) (cs : List Cm) (ps : List Pl) : (takeA m h bs es ls cs ps).m.bl = slZ ∧ (takeA m h bs es ls cs ps).m.bk.e = slZ ∧ (takeA m h bs es ls cs ps).m.bk.l = slZ ∧ (takeA m h bs es ls cs ps).m.cm = slZ := by
  unfold takeA
  cases (m.k == 22 && (m.ky.k == 1 || (m.ky.k == 2 && ((decide (1 ≤ m.bk.up) && decide (m.bk.up ≤ 1048576)) || (m.bk.up == 0 && askB m.st.n))))) with
  | false => exact ⟨rfl, rfl, rfl, rfl⟩
  | true =>
    cases (m.ky.k == 1) with
    | true => cases (lessB h.b.s m.st) <;> exact ⟨rfl, rfl, rfl, rfl⟩
    | false =>
      cases (m.bk.up == 0) with
      | true => exact msgT_nil _ _
      | false => cases decide (edgeF h.k.up (decd ps) < m.bk.up) <;> exact msgT_nil _ _
theorem take_any (m : Mg) (h : Hd) (bs : List Int) (es : List En) (ls : List La) (cs : List Cm) (hb : List Int) (hes : List En) (hls : List La) (ps : List Pl) (mb me ml mc mbase gb ge gl gp base : Nat) (w : World) (HA : MgAt w m bs es ls cs) (HQ : LmAt w mbase m bs es ls cs mb me ml mc) (HH : HdAt w h hb hes hls ps) (HT : LtAt w base h hb hes hls ps gb ge gl gp) (HM : MayP h ps) :
    Calls Try.prog 21 #[.agg (Mg.cells (lentM m mb me ml mc)), .agg (Hd.cells (lentH h gb ge gl gp))] w (TkOutN w (takeA m h bs es ls cs ps)) := by
  have tp : ∀ k, At (lentH h gb ge gl gp).r.a k → k < w.heap.size := fun k e => by obtain ⟨ad, e1, e2⟩ := e; cases e1; subst e2; exact HT.p.lt
  have rp : RdP w (lentH h gb ge gl gp).r ps := rd_P (s := h.r) HH.p.len HT.p
  have rb : RdB w (lentM m mb me ml mc).bl bs := rd_B (s := m.bl) HA.b.len HQ.b
  have re : RdE w (lentM m mb me ml mc).bk.e es := rd_E (s := m.bk.e) HA.e.len HQ.e
  have rl : RdL w (lentM m mb me ml mc).bk.l ls := rd_L (s := m.bk.l) HA.l.len HQ.l
  have rc : RdC w (lentM m mb me ml mc).cm cs := rd_C (s := m.cm) HA.c.len HQ.c
  have nb := HA.nb
  have ne := HA.ne
  have nl := HA.nl
  have nc := HA.nc
  have np := HH.np
  have hm : ps.length ≤ 10000000000000 := by rw [HH.p.len]; omega
  have hg0 : ∀ x ∈ decd ps, 0 ≤ x.1 ∧ x.1 ≤ 4611686018427387904 := fun x hx => by have := HM.mem x hx; omega
  cases hz : (m.k == 22 && (m.ky.k == 1 || (m.ky.k == 2 && ((decide (1 ≤ m.bk.up) && decide (m.bk.up ≤ 1048576)) || (m.bk.up == 0 && askB m.st.n))))) with
  | false =>
    have hA : takeA m h bs es ls cs ps = ⟨[], [], [], [], mgZ, false⟩ := by unfold takeA; rw [hz]; rfl
    rw [hA]
    exact (take_zero (lentM m mb me ml mc) (lentH h gb ge gl gp) w hz).mono fun e w' ⟨he, hk⟩ => ⟨slZ, [], he, TkRd.nil _, TkNew.nil _, hk⟩
  | true =>
    have hz2 := hz
    simp only [Bool.and_eq_true, Bool.or_eq_true] at hz2
    obtain ⟨hk22, hky⟩ := hz2
    cases hk1 : (m.ky.k == 1) with
    | true =>
      cases hq : lessB h.b.s m.st with
      | false =>
        have hA : takeA m h bs es ls cs ps = ⟨[], [], [], [], mgZ, false⟩ := by unfold takeA; rw [hz, hk1, hq]; rfl
        rw [hA]
        exact (take_block_no (lentM m mb me ml mc) (lentH h gb ge gl gp) bs w hk22 hk1 hq rb (by show m.bl.l ≤ _; omega)).mono fun e w' ⟨he, hk⟩ => ⟨slZ, [], he, TkRd.nil _, TkNew.nil _, hk⟩
      | true =>
        have hA : takeA m h bs es ls cs ps = ⟨[⟨m.ky, ⟨m.st, slZ⟩, inZ, bvZ⟩], bs, [], [], mgZ, false⟩ := by unfold takeA; rw [hz, hk1, hq]; rfl
        rw [hA]
        exact (take_block_yes (lentM m mb me ml mc) (lentH h gb ge gl gp) bs w hk22 hk1 hq rb (by show m.bl.l ≤ _; omega)).mono fun e w' ⟨g, s', he, hb, ho, hg, hk⟩ => ⟨⟨some ⟨g, 0, none⟩, 1, 1⟩, [⟨m.ky, ⟨m.st, s'⟩, inZ, bvZ⟩], he, ⟨rfl, row_one hb, rfl, one_el ⟨rfl, ho.rd, RdE.nil _, RdL.nil _⟩⟩, ⟨fun k e => by obtain ⟨ad, e1, e2⟩ := e; cases e1; subst e2; exact hg, fun i hi k e => by
          have : i = 0 := by have : i < 1 := hi; omega
          subst this
          rcases e with e | e | e
          · exact ho.own.base e
          · exact absurd e At.none
          · exact absurd e At.none⟩, hk⟩
    | false =>
      rw [hk1] at hky
      simp only [Bool.false_eq_true, false_or] at hky
      obtain ⟨hk2, hu⟩ := hky
      cases hup : (m.bk.up == 0) with
      | true =>
        have hu0 : m.bk.up = 0 := by simpa using hup
        have hab : askB m.st.n = true := by
          rcases hu with hu | hu
          · have := of_decide_eq_true hu.1; omega
          · exact hu.2
        have hA : takeA m h bs es ls cs ps = ⟨newF m.ky.a m.st.n h.k.up cs (decF m.st.n m.cm.l (decd ps)) m.cm.l, [], [], [], msgT m (m.st.n + ((m.cm.l : Nat) : Int)), moreB m⟩ := by unfold takeA; rw [hz, hk1, hup]; rfl
        rw [hA]
        exact (take_cmds (lentM m mb me ml mc) (lentH h gb ge gl gp) ps cs w hk22 hk1 hk2 hup hab rc rp tp hm hg0 (by show m.cm.l ≤ _; omega)).mono fun e w' ⟨s', he, ho, hk⟩ => ⟨s', _, he, ⟨ho.len, Own.rows ho.own (chL_c _) (by omega), ho.len, fun i hi => new_el (by rw [← ho.len] at hi; exact hi)⟩, ⟨fun k e => ho.own.base e, fun i hi => new_new (by rw [← ho.len] at hi; exact hi)⟩, hk⟩
      | false =>
        have hu0 : ¬ m.bk.up = 0 := by simpa using hup
        have hu2 : (decide (1 ≤ m.bk.up) = true) ∧ (decide (m.bk.up ≤ 1048576) = true) := by
          rcases hu with hu | hu
          · exact hu
          · exact absurd hu.1 (by rw [hup]; simp)
        cases hE : decide (edgeF h.k.up (decd ps) < m.bk.up) with
        | true =>
          have hA : takeA m h bs es ls cs ps = ⟨[⟨m.ky, blZ, inZ, ⟨m.bk.up, slZ, slZ⟩⟩], [], es, ls, msgT m (m.bk.up + 1), moreB m⟩ := by unfold takeA; rw [hz, hk1, hup, hE]; rfl
          rw [hA]
          exact (take_bucket_yes (lentM m mb me ml mc) (lentH h gb ge gl gp) ps es ls w hk22 hk1 hk2 hu2.1 hu2.2 (of_decide_eq_true hE) re rl (by show m.bk.e.l * 40 ≤ _; omega) (by show m.bk.l.l * 56 ≤ _; omega) rp tp hm HM.rng).mono fun e w' ⟨g, se, sl, he, hb, hoe, hol, hg, hk⟩ => ⟨⟨some ⟨g, 0, none⟩, 1, 1⟩, [⟨m.ky, blZ, inZ, ⟨m.bk.up, se, sl⟩⟩], he, ⟨rfl, row_one hb, rfl, one_el ⟨rfl, RdB.nil _, hoe.rd, hol.rd⟩⟩, ⟨fun k e => by obtain ⟨ad, e1, e2⟩ := e; cases e1; subst e2; exact hg, fun i hi k e => by
            have : i = 0 := by have : i < 1 := hi; omega
            subst this
            rcases e with e | e | e
            · exact absurd e At.none
            · exact hoe.own.base e
            · exact hol.own.base e⟩, hk⟩
        | false =>
          have hA : takeA m h bs es ls cs ps = ⟨[], [], [], [], msgT m (m.bk.up + 1), moreB m⟩ := by unfold takeA; rw [hz, hk1, hup, hE]; rfl
          rw [hA]
          exact (take_bucket_no (lentM m mb me ml mc) (lentH h gb ge gl gp) ps es ls w hk22 hk1 hk2 hu2.1 hu2.2 (by have := of_decide_eq_false hE; show m.bk.up ≤ edgeF h.k.up (decd ps); omega) re rl (by show m.bk.e.l * 40 ≤ _; omega) (by show m.bk.l.l * 56 ≤ _; omega) rp tp hm HM.rng).mono fun e w' ⟨he, hk⟩ => ⟨slZ, [], he, TkRd.nil _, TkNew.nil _, hk⟩
theorem refTake_any (m : Mg) (h : Hd) (bs : List Int) (es : List En) (ls : List La) (cs : List Cm) (hb : List Int) (hes : List En) (hls : List La) (ps : List Pl) (w : World) (HA : MgAt w m bs es ls cs) (HH : HdAt w h hb hes hls ps) (HM : MayP h ps) :
    Calls Try.prog 22 #[.agg (Mg.cells m), .agg (Hd.cells h)] w (TkOut w (takeA m h bs es ls cs ps)) := by
  have nc := HA.nc
  have np := HH.np
  have hm : ps.length ≤ 10000000000000 := by rw [HH.p.len]; omega
  cases hz : (m.k == 22 && (m.ky.k == 1 || (m.ky.k == 2 && ((decide (1 ≤ m.bk.up) && decide (m.bk.up ≤ 1048576)) || (m.bk.up == 0 && askB m.st.n))))) with
  | false =>
    have hA : takeA m h bs es ls cs ps = ⟨[], [], [], [], mgZ, false⟩ := by unfold takeA; rw [hz]; rfl
    rw [hA]
    exact (refTake_zero m h w hz).mono fun e w' ⟨he, hk⟩ => ⟨slZ, [], he, TkRd.nil _, hk⟩
  | true =>
    have hz2 := hz
    simp only [Bool.and_eq_true, Bool.or_eq_true] at hz2
    obtain ⟨hk22, hky⟩ := hz2
    cases hk1 : (m.ky.k == 1) with
    | true =>
      cases hq : lessB h.b.s m.st with
      | false =>
        have hA : takeA m h bs es ls cs ps = ⟨[], [], [], [], mgZ, false⟩ := by unfold takeA; rw [hz, hk1, hq]; rfl
        rw [hA]
        exact (refTake_block_no m h w hk22 hk1 hq).mono fun e w' ⟨he, hk⟩ => ⟨slZ, [], he, TkRd.nil _, hk⟩
      | true =>
        have hA : takeA m h bs es ls cs ps = ⟨[⟨m.ky, ⟨m.st, slZ⟩, inZ, bvZ⟩], bs, [], [], mgZ, false⟩ := by unfold takeA; rw [hz, hk1, hq]; rfl
        rw [hA]
        exact (refTake_block_yes m h w hk22 hk1 hq).mono fun e w' ⟨sa, cap, he, ho, hk⟩ => ⟨⟨sa, 1, cap⟩, [⟨m.ky, ⟨m.st, m.bl⟩, inZ, bvZ⟩], he, ⟨rfl, Own.rows (xs := [Ch.cs ⟨m.ky, ⟨m.st, m.bl⟩, inZ, bvZ⟩]) ho.own (chL_c [⟨m.ky, ⟨m.st, m.bl⟩, inZ, bvZ⟩]) (by omega), rfl, one_el ⟨rfl, HA.b.no hk, RdE.nil _, RdL.nil _⟩⟩, hk⟩
    | false =>
      rw [hk1] at hky
      simp only [Bool.false_eq_true, false_or] at hky
      obtain ⟨hk2, hu⟩ := hky
      cases hup : (m.bk.up == 0) with
      | true =>
        have hu0 : m.bk.up = 0 := by simpa using hup
        have hab : askB m.st.n = true := by
          rcases hu with hu | hu
          · have := of_decide_eq_true hu.1; omega
          · exact hu.2
        have hA : takeA m h bs es ls cs ps = ⟨newF m.ky.a m.st.n h.k.up cs (decF m.st.n m.cm.l (decd ps)) m.cm.l, [], [], [], msgT m (m.st.n + ((m.cm.l : Nat) : Int)), moreB m⟩ := by unfold takeA; rw [hz, hk1, hup]; rfl
        rw [hA]
        exact (refTake_cmds m h ps cs w hk22 hk1 hk2 hup hab HA.c (by omega) HH.p hm HM).mono fun e w' ⟨s', he, ho, hk⟩ => ⟨s', _, he, ⟨ho.len, Own.rows ho.own (chL_c _) (by omega), ho.len, fun i hi => new_el (by rw [← ho.len] at hi; exact hi)⟩, hk⟩
      | false =>
        have hu0 : ¬ m.bk.up = 0 := by simpa using hup
        have hu2 : (decide (1 ≤ m.bk.up) = true) ∧ (decide (m.bk.up ≤ 1048576) = true) := by
          rcases hu with hu | hu
          · exact hu
          · exact absurd hu.1 (by rw [hup]; simp)
        cases hE : decide (edgeF h.k.up (decd ps) < m.bk.up) with
        | true =>
          have hA : takeA m h bs es ls cs ps = ⟨[⟨m.ky, blZ, inZ, ⟨m.bk.up, slZ, slZ⟩⟩], [], es, ls, msgT m (m.bk.up + 1), moreB m⟩ := by unfold takeA; rw [hz, hk1, hup, hE]; rfl
          rw [hA]
          exact (refTake_bucket_yes m h ps w hk22 hk1 hk2 (of_decide_eq_true hu2.1) (of_decide_eq_true hu2.2) hE HH.p hm HM).mono fun e w' ⟨sa, cap, he, ho, hk⟩ => ⟨⟨sa, 1, cap⟩, [⟨m.ky, blZ, inZ, m.bk⟩], he, ⟨rfl, Own.rows (xs := [Ch.cs ⟨m.ky, blZ, inZ, m.bk⟩]) ho.own (chL_c [⟨m.ky, blZ, inZ, m.bk⟩]) (by omega), rfl, one_el ⟨rfl, RdB.nil _, HA.e.no hk, HA.l.no hk⟩⟩, hk⟩
        | false =>
          have hA : takeA m h bs es ls cs ps = ⟨[], [], [], [], msgT m (m.bk.up + 1), moreB m⟩ := by unfold takeA; rw [hz, hk1, hup, hE]; rfl
          rw [hA]
          exact (refTake_bucket_no m h ps w hk22 hk1 hk2 (of_decide_eq_true hu2.1) (of_decide_eq_true hu2.2) hE HH.p hm HM).mono fun e w' ⟨he, hk⟩ => ⟨slZ, [], he, TkRd.nil _, hk⟩

end Go.Proofs.Ytcgnbpaaalmkoaa
