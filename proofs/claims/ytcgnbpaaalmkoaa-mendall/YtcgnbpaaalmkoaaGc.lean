import Derived.Test.YtcgnbpaaalmkoaaGb
namespace Go.Proofs.Ytcgnbpaaalmkoaa
open Go.RowKit
set_option linter.unusedVariables false
set_option linter.unusedSimpArgs false


def NxQ (q : Mg) (b : Hd) (bp : List Pl) (m : Mg) : Prop := m.k = 21 ∧ m.ky.k = 2 ∧ (1 ≤ m.st.n ∧ m.st.n ≤ 1048577) ∧ b.k.up < m.st.n ∧ q.st.n < m.st.n ∧ (b.k.up < q.st.n → q.st.n + 64 ≤ m.st.n) ∧ m.st.n ≤ topF b.k.up (decd bp)
def Cov (a : Hd) (ap : List Pl) (Y : List Ch) (n : Nat) (i : Int) : Prop := knowB a ap i = true ∨ ∃ j, j < n ∧ ChK (hAt Y j) i
theorem one_w {W : World} {s : Sl} {z : Ch} {bs : List Int} {es : List En} {ls : List La} {Y : List Ch} {u : Int} {v : Sp} (h : TkRd W s [z] bs es ls Y) (hz : ChW u v z bs es ls) : LsW u v Y s.l bs es ls := by
  have h1 : 1 = s.l := h.zl
  refine ⟨fun i hi => ?_, fun _ => h1.symm⟩
  have hs := (h.el i hi).s
  have i0 : i = 0 := by omega
  subst i0
  have hs : scalC (hAt Y 0) = z := hs
  exact (show ChW u v (scalC (hAt Y 0)) bs es ls from hs ▸ hz)
theorem one_at {W : World} {s : Sl} {z : Ch} {bs : List Int} {es : List En} {ls : List La} {Y : List Ch} (h : TkRd W s [z] bs es ls Y) : 0 < s.l ∧ scalC (hAt Y 0) = z := by
  have h1 : 1 = s.l := h.zl
  exact ⟨by omega, (h.el 0 (by omega)).s⟩
theorem nil_w {W : World} {s : Sl} {bs : List Int} {es : List En} {ls : List La} {Y : List Ch} {u : Int} {v : Sp} (h : TkRd W s [] bs es ls Y) : LsW u v Y s.l bs es ls := by
  have h1 : 0 = s.l := h.zl
  exact ⟨fun i hi => by omega, fun ⟨i, hi, _⟩ => by omega⟩
theorem edge_up {h : Hd} {ps : List Pl} (H : MayP h ps) : h.k.up ≤ edgeF h.k.up (decd ps) := by
  rw [edge_ref ps h.k.up H.rise]; omega
structure StepW (q : Mg) (a b : Hd) (ap bp : List Pl) (s : Sl) (Y : List Ch) (T : Tw) : Prop where
  ls : LsW a.k.up a.b.s Y s.l T.b T.e T.l
  nx : T.o = true → q.ky.k = 2 ∧ NxQ q b bp T.m ∧ ∀ i, i < T.m.st.n → knowB b bp i = true → Cov a ap Y s.l i
  en : T.o = false → q.ky.k = 2 → ∀ i, knowB b bp i = true → Cov a ap Y s.l i
  bl : q.ky.k = 1 → (∃ j, j < s.l ∧ ((hAt Y j).ky.k == 1) = true ∧ (hAt Y j).b.s = b.b.s) ∨ lessB a.b.s b.b.s = false
  nb : q.ky.k = 2 → ∀ j, j < s.l → ((hAt Y j).ky.k == 1) = false
  bq : q.ky.k = 1 → ∀ j, j < s.l → (hAt Y j).b.s = b.b.s
theorem nil_nb {W : World} {s : Sl} {bs : List Int} {es : List En} {ls : List La} {Y : List Ch} (h : TkRd W s [] bs es ls Y) : ∀ j, j < s.l → ((hAt Y j).ky.k == 1) = false := by
  have h1 : 0 = s.l := h.zl
  exact fun j hj => by omega
theorem one_nb {W : World} {s : Sl} {z : Ch} {bs : List Int} {es : List En} {ls : List La} {Y : List Ch} (h : TkRd W s [z] bs es ls Y) (hz : (z.ky.k == 1) = false) : ∀ j, j < s.l → ((hAt Y j).ky.k == 1) = false := fun j hj => by
  have h1 : 1 = s.l := h.zl
  have hs := (h.el j hj).s
  have i0 : j = 0 := by omega
  subst i0
  have hs : scalC (hAt Y 0) = z := hs
  exact (show ((scalC (hAt Y 0)).ky.k == 1) = false from hs ▸ hz)
theorem step_kn (q : Mg) (a b : Hd) (ab : List Int) (ae : List En) (al : List La) (bbs : List Int) (bes : List En) (bls : List La) (ap bp : List Pl) (m : Mg) (W V : World) (s : Sl) (Y : List Ch) (A : Aw) (T : Tw) (Wa : Wl a ab ae al ap) (Wb : Wl b bbs bes bls bp) (hqk : q.k = 21) (hqy : q.ky.k = 1 ∨ (q.ky.k = 2 ∧ 1 ≤ q.st.n ∧ q.st.n ≤ 1048577)) (hcv : q.ky.k = 2 → ∀ i, i < q.st.n → knowB b bp i = true → knowB a ap i = true) (hAe : A = haveA q b bbs bes bls bp) (hTe : T = takeA m a A.b A.e A.l A.c ap) (hm : MgRd V m A) (hT : TkRd W s T.z T.b T.e T.l Y) : StepW q a b ap bp s Y T := by
  have mk : (scal m).k = A.m.k := congrArg Mg.k hm.s
  have mky : (scal m).ky = A.m.ky := congrArg Mg.ky hm.s
  have mst : (scal m).st = A.m.st := congrArg Mg.st hm.s
  have mup : (scal m).bk.up = A.m.bk.up := congrArg (fun x => x.bk.up) hm.s
  have mmo : (scal m).mo = A.m.mo := congrArg Mg.mo hm.s
  have mcl : A.c.length = m.cm.l := hm.c.len
  clear hm
  have Hb := Wb.may
  have hb1 := Hb.1
  rcases hqy with hq1 | ⟨hq2, hn1, hn2⟩
  · have hk1 : (q.ky.k == 1) = true := by rw [hq1]; rfl
    have hz : (q.k == 21 && (q.ky.k == 1 || (q.ky.k == 2 && askB q.st.n))) = true := by rw [hqk, hk1]; rfl
    have no2 : ¬ q.ky.k = 2 := by omega
    have hkm : m.ky = q.ky ∧ m.k = 22 ∧ m.st = b.b.s ∧ (b.b.s = spZ ∨ (A.b = bbs ∧ 0 < b.b.s.n ∧ bbs = [b.b.s.n, b.b.s.c])) := by
      cases hq : eqS b.b.s spZ with
      | true => have hA : A = ⟨haveM q, [], [], [], []⟩ := by rw [hAe]; unfold haveA; rw [hz, hk1, hq]; rfl
                subst hA
                have e := eqS_iff.1 hq
                exact ⟨mky, mk, by rw [e]; exact mst, .inl e⟩
      | false => have hA : A = ⟨{ haveM q with st := b.b.s }, bbs, [], [], []⟩ := by rw [hAe]; unfold haveA; rw [hz, hk1, hq]; rfl
                 subst hA
                 refine ⟨mky, mk, mst, .inr ⟨rfl, ?_⟩⟩
                 rcases Wb.bl with e | e
                 · rw [e.1, eqS_iff.2 rfl] at hq; cases hq
                 · exact e
    have c1 : (m.ky.k == 1) = true := by rw [hkm.1]; exact hk1
    have c0 : (m.k == 22) = true := by rw [hkm.2.1]; rfl
    cases hl : lessB a.b.s m.st with
    | true =>
      have hT2 : T = ⟨[⟨m.ky, ⟨m.st, slZ⟩, inZ, bvZ⟩], A.b, [], [], mgZ, false⟩ := by rw [hTe]; unfold takeA; rw [c0, c1, hl]; rfl
      subst hT2
      have hs := one_at hT
      have hne : 0 < b.b.s.n ∧ A.b = [b.b.s.n, b.b.s.c] := by
        rcases hkm.2.2.2 with e | e
        · rw [hkm.2.2.1, e] at hl
          exfalso
          rcases Wa.bl with f | f
          · rw [f.1] at hl; exact absurd hl (by decide)
          · unfold lessB at hl
            have f1 := f.1
            rw [show (a.b.s.n == spZ.n) = false from by simp [spZ]; omega] at hl
            have := of_decide_eq_true (show decide (a.b.s.n < spZ.n) = true from hl)
            simp [spZ] at this
            omega
        · exact ⟨e.2.1, by rw [e.1]; exact e.2.2⟩
      refine ⟨one_w hT (.inl ⟨c1, hl, ?_, ?_⟩), (fun e => by cases e), fun _ e => absurd e no2, fun _ => .inl ⟨0, hs.1, ?_, ?_⟩, fun e => absurd e no2, fun _ j hj => ?_⟩
      · show 0 < m.st.n; rw [hkm.2.2.1]; exact hne.1
      · show A.b = [m.st.n, m.st.c]; rw [hkm.2.2.1]; exact hne.2
      · have := congrArg (fun x => x.ky.k == 1) hs.2
        exact this.trans c1
      · have := congrArg (fun x => x.b.s) hs.2
        exact this.trans hkm.2.2.1
      · have h1 : 1 = s.l := hT.zl
        have j0 : j = 0 := by omega
        subst j0
        have := congrArg (fun x => x.b.s) hs.2
        exact this.trans hkm.2.2.1
    | false =>
      have hT2 : T = ⟨[], [], [], [], mgZ, false⟩ := by rw [hTe]; unfold takeA; rw [c0, c1, hl]; rfl
      subst hT2
      exact ⟨nil_w hT, (fun e => by cases e), fun _ e => absurd e no2, fun _ => .inr (by rw [← hkm.2.2.1]; exact hl), fun e => absurd e no2, fun _ j hj => by have h1 : 0 = s.l := hT.zl; omega⟩
  · have hk1 : (q.ky.k == 1) = false := by rw [hq2]; rfl
    have hk2 : (q.ky.k == 2) = true := by rw [hq2]; rfl
    have no1 : ¬ q.ky.k = 1 := by omega
    have hab : askB q.st.n = true := by unfold askB; rw [decide_eq_true hn1, decide_eq_true hn2]; rfl
    have hz : (q.k == 21 && (q.ky.k == 1 || (q.ky.k == 2 && askB q.st.n))) = true := by rw [hqk, hk1, hk2, hab]; rfl
    have hcv := hcv hq2
    have htop := Hb.top
    have htu : b.k.up ≤ topF b.k.up (decd bp) := (top_ge bp b.k.up b.k.up Hb.rise (Int.le_refl _)).1
    cases hup : decide (q.st.n ≤ b.k.up) with
    | true =>
      have hup2 := of_decide_eq_true hup
      have hA : A = ⟨{ haveM q with bk := ⟨b.k.up, slZ, slZ⟩, mo := decide (b.k.up < topF b.k.up (decd bp)) }, [], bes, bls, []⟩ := by rw [hAe]; unfold haveA; rw [hz, hk1, hup]; rfl
      subst hA
      have mk : m.k = 22 := mk
      have mky : m.ky = q.ky := mky
      have mup : m.bk.up = b.k.up := mup
      have mmo : m.mo = decide (b.k.up < topF b.k.up (decd bp)) := mmo
      have c0 : (m.k == 22) = true := by rw [mk]; rfl
      have c1 : (m.ky.k == 1) = false := by rw [mky]; exact hk1
      have c2 : (m.ky.k == 2) = true := by rw [mky]; exact hk2
      have c3 : (m.bk.up == 0) = false := by simp; omega
      have c4 : decide (1 ≤ m.bk.up) = true := decide_eq_true (by omega)
      have c5 : decide (m.bk.up ≤ 1048576) = true := decide_eq_true (by omega)
      have hmb : moreB m = decide (b.k.up < topF b.k.up (decd bp)) := by unfold moreB; rw [c3, mmo]; rfl
      have hN : moreB m = true → NxQ q b bp (msgT m (m.bk.up + 1)) ∧ (msgT m (m.bk.up + 1)).st.n = b.k.up + 1 := by
        intro hmo
        have e : msgT m (m.bk.up + 1) = askM m.to m.fr m.ky (m.bk.up + 1) := by unfold msgT; rw [if_pos hmo]
        rw [e]
        rw [hmb] at hmo
        have hlt := of_decide_eq_true hmo
        exact ⟨⟨rfl, by show m.ky.k = 2; rw [mky]; exact hq2, ⟨by show 1 ≤ m.bk.up + 1; omega, by show m.bk.up + 1 ≤ 1048577; omega⟩, by show b.k.up < m.bk.up + 1; omega, by show q.st.n < m.bk.up + 1; omega, fun h => by omega, by show m.bk.up + 1 ≤ _; omega⟩, by show m.bk.up + 1 = _; omega⟩
      have hEnd : moreB m = false → ∀ i, knowB b bp i = true → i ≤ b.k.up := fun hmo i hi => by
        rw [hmb] at hmo
        have hlt := of_decide_eq_false hmo
        have := know_top Hb i hi
        omega
      cases hE : decide (edgeF a.k.up (decd ap) < m.bk.up) with
      | true =>
        have hE2 := of_decide_eq_true hE
        have hue := edge_up Wa.may
        have hT2 : T = ⟨[⟨m.ky, blZ, inZ, ⟨m.bk.up, slZ, slZ⟩⟩], [], bes, bls, msgT m (m.bk.up + 1), moreB m⟩ := by rw [hTe]; unfold takeA; rw [c0, c1, c2, c3, c4, c5, hE]; rfl
        subst hT2
        have hs := one_at hT
        have hck : ∀ i, i ≤ b.k.up → Cov a ap Y s.l i := fun i hi => .inr ⟨0, hs.1, by
          have h5 : ChK (scalC (hAt Y 0)) i := by rw [hs.2]; exact .inl ⟨c1, c2, by show i ≤ m.bk.up; omega⟩
          exact h5⟩
        refine ⟨one_w hT (.inr (.inl ⟨c1, c2, ⟨by show 1 ≤ m.bk.up; omega, by show m.bk.up ≤ 10000; have := Wb.hi.1; omega⟩, by show a.k.up ≤ m.bk.up; omega, by show BkOk m.bk.up bes bls; rw [mup]; exact Wb.bk⟩)), fun hmo => ?_, fun hmo _ i hi => hck i (hEnd hmo i hi), fun e => absurd e no1, fun _ => one_nb hT c1, fun e => absurd e no1⟩
        have h5 := hN hmo
        exact ⟨hq2, h5.1, fun i hi _ => hck i (by have hi : i < (msgT m (m.bk.up + 1)).st.n := hi; omega)⟩
      | false =>
        have hE2 := of_decide_eq_false hE
        have hT2 : T = ⟨[], [], [], [], msgT m (m.bk.up + 1), moreB m⟩ := by rw [hTe]; unfold takeA; rw [c0, c1, c2, c3, c4, c5, hE]; rfl
        subst hT2
        have hck : ∀ i, i ≤ b.k.up → Cov a ap Y s.l i := fun i hi => .inl (know_edge Wa.may i (by omega))
        refine ⟨nil_w hT, fun hmo => ?_, fun hmo _ i hi => hck i (hEnd hmo i hi), fun e => absurd e no1, fun _ => nil_nb hT, fun e => absurd e no1⟩
        have h5 := hN hmo
        exact ⟨hq2, h5.1, fun i hi _ => hck i (by have hi : i < (msgT m (m.bk.up + 1)).st.n := hi; omega)⟩
    | false =>
      have hup2 := of_decide_eq_false hup
      have hA : A = ⟨{ haveM q with st := ⟨q.st.n, 0⟩, mo := decide (min (topF b.k.up (decd bp)) (q.st.n + 63) < topF b.k.up (decd bp)) }, [], [], [], tab (hvN q b bp) (fun j => cmdAt bp (q.st.n + ((j : Nat) : Int)))⟩ := by rw [hAe]; unfold haveA; rw [hz, hk1, hup]; rfl
      subst hA
      have mk : m.k = 22 := mk
      have mky : m.ky = q.ky := mky
      have mup : m.bk.up = 0 := mup
      have mst : m.st = ⟨q.st.n, 0⟩ := mst
      have mn : m.st.n = q.st.n := by rw [mst]
      have mmo : m.mo = decide (min (topF b.k.up (decd bp)) (q.st.n + 63) < topF b.k.up (decd bp)) := mmo
      have mcl : (tab (hvN q b bp) (fun j => cmdAt bp (q.st.n + ((j : Nat) : Int)))).length = m.cm.l := mcl
      rw [tab_len] at mcl
      have c0 : (m.k == 22) = true := by rw [mk]; rfl
      have c1 : (m.ky.k == 1) = false := by rw [mky]; exact hk1
      have c2 : (m.ky.k == 2) = true := by rw [mky]; exact hk2
      have c3 : (m.bk.up == 0) = true := by rw [mup]; rfl
      have c4 : askB m.st.n = true := by rw [mn]; exact hab
      obtain ⟨cs, hcs⟩ : ∃ cs, cs = tab (hvN q b bp) (fun j => cmdAt bp (q.st.n + ((j : Nat) : Int))) := ⟨_, rfl⟩
      have hT2 : T = ⟨newF m.ky.a m.st.n a.k.up cs (decF m.st.n m.cm.l (decd ap)) m.cm.l, [], [], [], msgT m (m.st.n + ((m.cm.l : Nat) : Int)), moreB m⟩ := by rw [hTe, hcs]; unfold takeA; rw [c0, c1, c2, c3, c4]; simp
      subst hT2
      have hzl : (newF m.ky.a m.st.n a.k.up cs (decF m.st.n m.cm.l (decd ap)) m.cm.l).length = s.l := hT.zl
      have hel : ∀ i, i < s.l → scalC (hAt Y i) = hAt (newF m.ky.a m.st.n a.k.up cs (decF m.st.n m.cm.l (decd ap)) m.cm.l) i := fun i hi => (hT.el i hi).s
      -- what is told
      have hcsN : ∀ i, eqC (cAt cs i) cZ = false → i < hvN q b bp ∧ cAt cs i = cmdN (q.st.n + i) ∧ q.st.n + i ≤ 10000 := fun i hi => by
        rw [hcs] at hi ⊢
        obtain ⟨h1, h2⟩ := tab_cAt hi
        rw [h2] at hi ⊢
        refine ⟨h1, ?_⟩
        by_cases hd : (atF (q.st.n + ((i : Nat) : Int)) bp).d = true
        · unfold cmdAt
          rw [if_pos hd, Wb.at _ hd]
          obtain ⟨x, hx, e1, _⟩ := at_mem bp _ hd
          exact ⟨rfl, by rw [← e1]; exact Wb.hi.2 x hx⟩
        · unfold cmdAt at hi
          rw [if_neg hd, eqC_refl] at hi; cases hi
      have hls : LsW a.k.up a.b.s Y s.l [] [] [] ∧ ∀ j, j < s.l → ((hAt Y j).ky.k == 1) = false := by
        have h6 : ∀ i, i < s.l → ((hAt Y i).ky.k == 1) = false ∧ ((hAt Y i).ky.k == 2) = false ∧ (a.k.up < (hAt Y i).ky.b ∧ (hAt Y i).ky.b ≤ 10000) ∧ (hAt Y i).i = dnI (hAt Y i).ky.b := fun i hi => by
          have hmem := hAt_mem (X := newF m.ky.a m.st.n a.k.up cs (decF m.st.n m.cm.l (decd ap)) m.cm.l) (i := i) (by rw [hzl]; exact hi)
          rw [← hel i hi] at hmem
          obtain ⟨j, h1, hp, h3⟩ := newF_of _ _ _ _ _ _ _ hmem
          unfold passB at hp
          simp only [Bool.or_eq_false_iff] at hp
          have p2 := of_decide_eq_false hp.2.2.1
          have p3 := of_decide_eq_false hp.2.2.2
          have e1 : (hAt Y i).ky = ⟨3, m.ky.a, m.st.n + j, 0⟩ := congrArg Ch.ky h3
          have e2 : (hAt Y i).i = ⟨spZ, spZ, cAt cs j, true⟩ := congrArg Ch.i h3
          rw [e1, e2]
          refine ⟨rfl, rfl, ⟨by show a.k.up < m.st.n + j; omega, by show m.st.n + j ≤ 10000; have := (hcsN j hp.1).2.2; omega⟩, ?_⟩
          show _ = dnI (m.st.n + j)
          rw [(hcsN j hp.1).2.1, mn]; rfl
        refine ⟨⟨fun i hi => .inr (.inr (h6 i hi)), fun ⟨i, hi, e⟩ => ?_⟩, fun j hj => (h6 j hj).1⟩
        rw [(h6 i hi).1, (h6 i hi).2.1] at e
        cases e
      have hck : ∀ i, i < q.st.n + ((m.cm.l : Nat) : Int) → knowB b bp i = true → Cov a ap Y s.l i := fun i hi hkb => by
        by_cases hlow : i < q.st.n
        · exact .inl (hcv i hlow hkb)
        · obtain ⟨j, hj⟩ : ∃ j : Nat, i = q.st.n + ((j : Nat) : Int) := ⟨(i - q.st.n).toNat, by omega⟩
          have hjl : j < m.cm.l := by omega
          have hd : (atF i bp).d = true := by
            rcases (know_iff _ _ _).1 hkb with e | e
            · omega
            · exact e
          have hci : cAt cs j = cmdN i := by
            rw [hcs]; unfold cAt; rw [tab_get (by rw [mcl]; exact hjl)]
            show cmdAt bp (q.st.n + ((j : Nat) : Int)) = _
            rw [← hj]; unfold cmdAt; rw [if_pos hd, Wb.at _ hd]; rfl
          by_cases hka : knowB a ap i = true
          · exact .inl hka
          · have hka2 : ¬ i ≤ a.k.up ∧ ¬ (atF i ap).d = true := by
              rw [know_iff] at hka
              exact ⟨fun e => hka (.inl e), fun e => hka (.inr e)⟩
            have hpass : passB m.st.n a.k.up cs (decF m.st.n m.cm.l (decd ap)) j = false := by
              unfold passB
              have hks : cAt (decF m.st.n m.cm.l (decd ap)) j = cZ := by
                rw [decF_tab m.st.n m.cm.l ap a.k.up Wa.may.rise]
                unfold cAt; rw [tab_get hjl]
                show cmdAt ap (m.st.n + ((j : Nat) : Int)) = _
                rw [mn, ← hj]; unfold cmdAt; rw [if_neg hka2.2]
              have h8 := know_top Hb i hkb
              rw [hci, cmdN_ne, hks, eqC_refl, decide_eq_false (by omega), decide_eq_false (by omega)]
              rfl
            have hmem := newF_in m.ky.a m.st.n a.k.up cs (decF m.st.n m.cm.l (decd ap)) m.cm.l j hjl hpass
            obtain ⟨t, ht⟩ := List.getElem?_of_mem hmem
            have htl : t < s.l := by
              rcases Nat.lt_or_ge t s.l with h | h
              · exact h
              · rw [List.getElem?_eq_none (by omega)] at ht; cases ht
            have he := hel t htl
            have hat : hAt (newF m.ky.a m.st.n a.k.up cs (decF m.st.n m.cm.l (decd ap)) m.cm.l) t = chM m.ky.a (m.st.n + j) (cAt cs j) := by unfold hAt; rw [ht]; rfl
            rw [hat] at he
            have e1 : (hAt Y t).ky = ⟨3, m.ky.a, m.st.n + j, 0⟩ := congrArg Ch.ky he
            exact .inr ⟨t, htl, .inr (by rw [e1]; exact ⟨rfl, rfl, by show i = m.st.n + j; omega⟩)⟩
      refine ⟨hls.1, fun hmo => ?_, fun hmo _ i hi => ?_, fun e => absurd e no1, fun _ => hls.2, fun e => absurd e no1⟩
      · have hmo : moreB m = true := hmo
        have hmo2 : m.mo = true := by unfold moreB at hmo; simp only [Bool.and_eq_true] at hmo; exact hmo.2
        rw [hmo2] at mmo
        have hlt := of_decide_eq_true mmo.symm
        have e : msgT m (m.st.n + ((m.cm.l : Nat) : Int)) = askM m.to m.fr m.ky (m.st.n + ((m.cm.l : Nat) : Int)) := by unfold msgT; rw [if_pos hmo]
        have hc : ((m.cm.l : Nat) : Int) = 64 := by rw [← mcl]; unfold hvN; omega
        have en : (askM m.to m.fr m.ky (m.st.n + ((m.cm.l : Nat) : Int))).st.n = m.st.n + ((m.cm.l : Nat) : Int) := rfl
        refine ⟨hq2, ?_, fun i hi hkb => hck i ?_ hkb⟩
        · show NxQ q b bp (msgT m (m.st.n + ((m.cm.l : Nat) : Int)))
          rw [e]
          unfold NxQ
          rw [en]
          exact ⟨rfl, by show m.ky.k = 2; rw [mky]; exact hq2, ⟨by omega, by omega⟩, by omega, by omega, fun _ => by omega, by omega⟩
        · have hi : i < (msgT m (m.st.n + ((m.cm.l : Nat) : Int))).st.n := hi
          rw [e, en] at hi
          omega
      · have hmo : moreB m = false := hmo
        have hmf : ¬ m.mo = true := fun hmt => by
          rw [hmt] at mmo
          have hlt := of_decide_eq_true mmo.symm
          have hc : m.cm.l = 64 := by rw [← mcl]; unfold hvN; omega
          unfold moreB at hmo
          rw [hmt, hc, mup] at hmo
          exact absurd hmo (by decide)
        have hge : ¬ (min (topF b.k.up (decd bp)) (q.st.n + 63) < topF b.k.up (decd bp)) := fun h => hmf (by rw [mmo]; exact decide_eq_true h)
        have h8 := know_top Hb i hi
        refine hck i ?_ hi
        rw [← mcl]; unfold hvN; omega

end Go.Proofs.Ytcgnbpaaalmkoaa
