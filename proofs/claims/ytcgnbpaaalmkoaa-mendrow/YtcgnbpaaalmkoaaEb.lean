import Derived.Test.YtcgnbpaaalmkoaaDc
namespace Go.Proofs.Ytcgnbpaaalmkoaa
open Go.RowKit
set_option linter.unusedVariables false
set_option linter.unusedSimpArgs false

def insP (kb : Int) (i : In) : List Pl → List Pl
  | [] => [⟨kb, i⟩]
  | x :: r => if kb ≤ x.n then (if x.n = kb then ⟨kb, i⟩ :: r else ⟨kb, i⟩ :: x :: r) else x :: insP kb i r
/-- A place that may be; what may be is kept by what is laid down. -/
def GoodP (x : Pl) : Prop := x.n ≤ 1048576 ∧ (x.i.d = true → x.i.p = spZ ∧ x.i.a = spZ ∧ 1 ≤ x.i.c.k)
theorem rise_low : ∀ (ps : List Pl) (u v : Int), RiseL u ps → v ≤ u → ∀ x ∈ ps, v < x.n
  | [], u, v, _, _, x, hx => by cases hx
  | p :: r, u, v, h, hv, x, hx => by
    rcases List.mem_cons.1 hx with e | e
    · subst e; have := h.1; omega
    · exact rise_low r p.n v h.2 (by have := h.1; omega) x e
theorem rise_at : ∀ (ps : List Pl) (u : Int), RiseL u ps → ∀ i, i < ps.length → (0 < i → (pAt ps (i - 1)).n < (pAt ps i).n)
  | [], u, _, i, hi => by simp at hi
  | p :: r, u, h, 0, _ => fun e => absurd e (Nat.lt_irrefl _)
  | p :: r, u, h, 1, hi => fun _ => by
    cases r with
    | nil => simp at hi
    | cons q r' => exact h.2.1
  | p :: r, u, h, i + 2, hi => fun _ => rise_at r p.n h.2 (i + 1) (by simp only [List.length_cons] at hi; omega) (by omega)
theorem may_of {u : Int} {ps : List Pl} (h : RiseL u ps) (hg : ∀ x ∈ ps, GoodP x) : MayR u ps ps.length := by
  intro i hi
  have hm : pAt ps i ∈ ps := List.mem_of_getElem? (pAt_some hi)
  have g := hg _ hm
  exact ⟨⟨rise_low ps u u h (Int.le_refl _) _ hm, g.1⟩, rise_at ps u h i hi, g.2⟩
theorem good_of {u : Int} {ps : List Pl} (h : MayR u ps ps.length) : ∀ x ∈ ps, GoodP x := by
  intro x hx
  obtain ⟨i, hi, rfl⟩ := List.mem_iff_getElem.1 hx
  have e : pAt ps i = ps[i] := by unfold pAt; rw [List.getElem?_eq_getElem hi]; rfl
  have := h i hi
  rw [e] at this
  exact ⟨this.1.2, this.2.2⟩
theorem rise_len : ∀ (ps : List Pl) (u N : Int), RiseL u ps → (∀ x ∈ ps, x.n ≤ N) → u ≤ N → ((ps.length : Nat) : Int) ≤ N - u
  | [], u, N, _, _, h => by simp; omega
  | p :: r, u, N, h, hN, hu => by
    have h1 := h.1
    have h2 := hN p (by simp)
    have := rise_len r p.n N h.2 (fun x hx => hN x (by simp [hx])) h2
    simp only [List.length_cons]
    omega
theorem MayP.len {h : Hd} {ps : List Pl} (H : MayP h ps) : ps.length ≤ 1048577 := by
  have h1 := rise_len ps h.k.up 1048576 H.rise (fun x hx => (good_of H.2.2 x hx).1) H.1.2
  have := H.1
  omega
theorem ins_rise : ∀ (ps : List Pl) (u kb : Int) (i : In), RiseL u ps → u < kb → RiseL u (insP kb i ps)
  | [], u, kb, i, _, hu => ⟨hu, trivial⟩
  | p :: r, u, kb, i, h, hu => by
    show RiseL u (if kb ≤ p.n then (if p.n = kb then ⟨kb, i⟩ :: r else ⟨kb, i⟩ :: p :: r) else p :: insP kb i r)
    split
    · split
      · rename_i e
        have h2 := h.2
        rw [e] at h2
        exact ⟨hu, h2⟩
      · rename_i h1 h2
        exact ⟨hu, ⟨by show kb < p.n; omega, h.2⟩⟩
    · rename_i h1
      exact ⟨h.1, ins_rise r p.n kb i h.2 (by omega)⟩
theorem ins_mem : ∀ (ps : List Pl) (kb : Int) (i : In) (x : Pl), x ∈ insP kb i ps → x = ⟨kb, i⟩ ∨ x ∈ ps
  | [], kb, i, x, h => by simp [insP] at h; exact .inl h
  | p :: r, kb, i, x, h => by
    have h : x ∈ (if kb ≤ p.n then (if p.n = kb then ⟨kb, i⟩ :: r else ⟨kb, i⟩ :: p :: r) else p :: insP kb i r) := h
    split at h
    · split at h
      · rcases List.mem_cons.1 h with e | e
        · exact .inl e
        · exact .inr (by simp [e])
      · rcases List.mem_cons.1 h with e | e
        · exact .inl e
        · exact .inr e
    · rcases List.mem_cons.1 h with e | e
      · exact .inr (by simp [e])
      · rcases ins_mem r kb i x e with e2 | e2
        · exact .inl e2
        · exact .inr (by simp [e2])
theorem fil_rise : ∀ (ps : List Pl) (u v : Int), RiseL u ps → RiseL v (ps.filter (fun x => decide (v < x.n)))
  | [], u, v, _ => trivial
  | p :: r, u, v, h => by
    have h2 := h.2
    rw [List.filter_cons]
    by_cases e : v < p.n
    · rw [if_pos (by simpa using e)]
      refine ⟨e, ?_⟩
      have hr := fil_rise r p.n v h2
      have hall : r.filter (fun x => decide (v < x.n)) = r := List.filter_eq_self.2 (fun x hx => by have := rise_low r p.n p.n h2 (Int.le_refl _) x hx; simp; omega)
      rw [hall]
      exact h2
    · rw [if_neg (by simpa using e)]
      exact fil_rise r p.n v h2
theorem MayP.ins {h : Hd} {ps : List Pl} (H : MayP h ps) {s' : Sl} {kb : Int} {i : In} (hk : h.k.up < kb) (hg : GoodP ⟨kb, i⟩) : MayP ⟨h.b, h.k, s'⟩ (insP kb i ps) :=
  ⟨H.1, H.2.1, may_of (ins_rise ps _ kb i H.rise hk) (fun x hx => by
    rcases ins_mem ps kb i x hx with e | e
    · rw [e]; exact hg
    · exact good_of H.2.2 x e)⟩
theorem MayP.fil {h : Hd} {ps : List Pl} (H : MayP h ps) {s' : Sl} {k : Bv} (h1 : 1 ≤ k.up) (h2 : k.up ≤ 1048576) : MayP ⟨h.b, k, s'⟩ (ps.filter (fun x => decide (k.up < x.n))) :=
  ⟨⟨by show 0 ≤ k.up; omega, h2⟩, fun e => by have e : k.up = 0 := e; omega, may_of (fil_rise ps _ k.up H.rise) (fun x hx => good_of H.2.2 x (List.mem_filter.1 hx).1)⟩
theorem cmd_good {h : Hd} {ps : List Pl} (H : MayP h ps) (q : Int) (hne : eqC (cmdAt ps q) cZ = false) : 1 ≤ (cmdAt ps q).k := by
  have h1 := ks_d H q 1 0 (by omega)
  have h0 : cAt (decF q 1 (decd ps)) 0 = cmdAt ps (q + ((0 : Nat) : Int)) := by
    rw [decF_tab q 1 ps h.k.up H.rise]; rfl
  have e0 : q + ((0 : Nat) : Int) = q := by omega
  rw [e0] at h0 h1
  rw [h0, hne] at h1
  have hd : (atF q ps).d = true := by simpa using h1.symm
  have hc : cmdAt ps q = (atF q ps).c := by unfold cmdAt; rw [if_pos hd]
  rw [hc]
  by_cases hex : ∀ j, j < ps.length → (pAt ps j).n ≠ q
  · rw [at_none ps _ hex] at hd; simp [inZ] at hd
  · have hex2 : ∃ j, j < ps.length ∧ (pAt ps j).n = q := by
      apply Classical.byContradiction
      intro hno
      exact hex (fun j hj e => hno ⟨j, hj, e⟩)
    obtain ⟨j, hj, hn, hmin⟩ : ∃ j, j < ps.length ∧ (pAt ps j).n = q ∧ ∀ k, k < j → (pAt ps k).n ≠ q := by
      obtain ⟨j, hj, hn⟩ := hex2
      induction j using Nat.strongRecOn with
      | ind j ih =>
        by_cases hs : ∃ k, k < j ∧ (pAt ps k).n = q
        · obtain ⟨k, hk, hk2⟩ := hs
          exact ih k hk (by omega) hk2
        · exact ⟨j, hj, hn, fun k hk e => hs ⟨k, hk, e⟩⟩
    rw [at_found ps _ j hmin hj hn] at hd ⊢
    exact ((H.2.2 j hj).2.2 hd).2.2
/-- A change that may be laid down. -/
def ChOk (u : Int) (c : Ch) : Prop := (c.ky.k == 1) = true ∨ ((c.ky.k == 1) = false ∧ (c.ky.k == 2) = true ∧ 1 ≤ c.bk.up ∧ c.bk.up ≤ 1048576) ∨ ((c.ky.k == 1) = false ∧ (c.ky.k == 2) = false ∧ u < c.ky.b ∧ GoodP ⟨c.ky.b, c.i⟩)
def LsOk (u : Int) (Y : List Ch) (n : Nat) : Prop := (∀ i, i < n → ChOk u (hAt Y i)) ∧ ((∃ i, i < n ∧ ((hAt Y i).ky.k == 1) = false ∧ ((hAt Y i).ky.k == 2) = true) → n = 1)
theorem chOk_scal {u : Int} {c : Ch} (h : ChOk u (scalC c)) : ChOk u c := h
def QOk (q : Mg) (b : Hd) (t : Nat) : Prop := t = 0 ∨ (q.k = 21 ∧ q.ky.k = 2 ∧ b.k.up < q.st.n ∧ q.st.n ≤ 1048577 ∧ 1 ≤ t ∧ ((64 * (t - 1) + 1 : Nat) : Int) ≤ q.st.n)
theorem QOk.lt {q : Mg} {b : Hd} {t : Nat} (h : QOk q b t) : t < 17000 := by
  rcases h with h | ⟨_, _, _, h1, h2, h3⟩
  · omega
  · omega
theorem newF_ok (a f up : Int) (cs ks : List Cm) (hf : 1 ≤ f) (hc : ∀ i, eqC (cAt cs i) cZ = false → 1 ≤ (cAt cs i).k) : ∀ k x, x ∈ newF a f up cs ks k → ChOk up x ∧ (x.ky.k == 2) = false
  | 0, x, h => by simp [newF] at h
  | k + 1, x, h => by
    unfold newF at h
    split at h
    · exact newF_ok a f up cs ks hf hc k x h
    · rename_i hp
      rcases List.mem_append.1 h with h | h
      · exact newF_ok a f up cs ks hf hc k x h
      · have e : x = chM a (f + k) (cAt cs k) := by simpa using h
        subst e
        have hp : passB f up cs ks k = false := by simpa using hp
        unfold passB at hp
        simp only [Bool.or_eq_false_iff] at hp
        have p1 := hp.1
        have p2 := of_decide_eq_false hp.2.2.1
        have p3 := of_decide_eq_false hp.2.2.2
        refine ⟨.inr (.inr ⟨rfl, rfl, ?_, ?_, ?_⟩), rfl⟩
        · show up < f + k; omega
        · show f + k ≤ 1048576; omega
        · intro _; exact ⟨rfl, rfl, hc k p1⟩
theorem tab_cAt {c : Nat} {f : Nat → Cm} {i : Nat} (h : eqC (cAt (tab c f) i) cZ = false) : i < c ∧ cAt (tab c f) i = f i := by
  by_cases hi : i < c
  · refine ⟨hi, ?_⟩
    unfold cAt
    rw [tab_get hi]; rfl
  · have e : cAt (tab c f) i = cZ := by unfold cAt; rw [List.getElem?_eq_none (by rw [tab_len]; omega)]; rfl
    rw [e, eqC_refl] at h
    cases h
theorem one_ok {W : World} {s : Sl} {z : Ch} {bs : List Int} {es : List En} {ls : List La} {Y : List Ch} {u : Int} (h : TkRd W s [z] bs es ls Y) (hz : ChOk u z) : LsOk u Y s.l := by
  have h1 : 1 = s.l := h.zl
  refine ⟨fun i hi => ?_, fun _ => h1.symm⟩
  have hs := (h.el i hi).s
  have i0 : i = 0 := by omega
  subst i0
  have hs : scalC (hAt Y 0) = z := hs
  exact chOk_scal (hs ▸ hz)
theorem nil_ok {W : World} {s : Sl} {bs : List Int} {es : List En} {ls : List La} {Y : List Ch} {u : Int} (h : TkRd W s [] bs es ls Y) : LsOk u Y s.l := by
  have h1 : 0 = s.l := h.zl
  exact ⟨fun i hi => by omega, fun ⟨i, hi, _⟩ => by omega⟩
theorem step_ok (q : Mg) (a b : Hd) (bbs : List Int) (bes : List En) (bls : List La) (ap bp : List Pl) (t : Nat) (m : Mg) (W V : World) (s : Sl) (Y : List Ch) (A : Aw) (T : Tw) (Hb : MayP b bp) (Hq : QOk q b t) (hAe : A = haveA q b bbs bes bls bp) (hTe : T = takeA m a A.b A.e A.l A.c ap) (hm : MgRd V m A) (hT : TkRd W s T.z T.b T.e T.l Y) : LsOk a.k.up Y s.l ∧ (T.o = true → QOk T.m b (t + 1)) := by
  have mk : (scal m).k = A.m.k := congrArg Mg.k hm.s
  have mky : (scal m).ky = A.m.ky := congrArg Mg.ky hm.s
  have mst : (scal m).st = A.m.st := congrArg Mg.st hm.s
  have mup : (scal m).bk.up = A.m.bk.up := congrArg (fun x => x.bk.up) hm.s
  have mmo : (scal m).mo = A.m.mo := congrArg Mg.mo hm.s
  have mcl : A.c.length = m.cm.l := hm.c.len
  clear hm
  have hb1 := Hb.1
  cases hz : (q.k == 21 && (q.ky.k == 1 || (q.ky.k == 2 && askB q.st.n))) with
  | false =>
    have hA : A = ⟨mgZ, [], [], [], []⟩ := by rw [hAe]; unfold haveA; rw [hz]; rfl
    subst hA
    have e1 : m.k = 0 := mk
    have hT2 : T = ⟨[], [], [], [], mgZ, false⟩ := by rw [hTe]; unfold takeA; rw [e1]; rfl
    subst hT2
    exact ⟨nil_ok hT, fun e => by cases e⟩
  | true =>
    have hz2 := hz
    simp only [Bool.and_eq_true, Bool.or_eq_true] at hz2
    obtain ⟨hk21, hky⟩ := hz2
    cases hk1 : (q.ky.k == 1) with
    | true =>
      have hkm : m.ky = q.ky ∧ m.k = 22 := by
        cases hq : eqS b.b.s spZ with
        | true => have hA : A = ⟨haveM q, [], [], [], []⟩ := by rw [hAe]; unfold haveA; rw [hz, hk1, hq]; rfl
                  subst hA; exact ⟨mky, mk⟩
        | false => have hA : A = ⟨{ haveM q with st := b.b.s }, bbs, [], [], []⟩ := by rw [hAe]; unfold haveA; rw [hz, hk1, hq]; rfl
                   subst hA; exact ⟨mky, mk⟩
      have c1 : (m.ky.k == 1) = true := by rw [hkm.1]; exact hk1
      have c0 : (m.k == 22) = true := by rw [hkm.2]; rfl
      cases hl : lessB a.b.s m.st with
      | true =>
        have hT2 : T = ⟨[⟨m.ky, ⟨m.st, slZ⟩, inZ, bvZ⟩], A.b, [], [], mgZ, false⟩ := by rw [hTe]; unfold takeA; rw [c0, c1, hl]; rfl
        subst hT2
        exact ⟨one_ok hT (.inl c1), fun e => by cases e⟩
      | false =>
        have hT2 : T = ⟨[], [], [], [], mgZ, false⟩ := by rw [hTe]; unfold takeA; rw [c0, c1, hl]; rfl
        subst hT2
        exact ⟨nil_ok hT, fun e => by cases e⟩
    | false =>
      rw [hk1] at hky
      simp only [Bool.false_eq_true, false_or] at hky
      obtain ⟨hk2, hab⟩ := hky
      have hn : 1 ≤ q.st.n ∧ q.st.n ≤ 1048577 := by simp [askB] at hab; omega
      have hq2 : q.ky.k = 2 := by simpa using hk2
      cases hup : decide (q.st.n ≤ b.k.up) with
      | true =>
        have hup2 := of_decide_eq_true hup
        have hA : A = ⟨{ haveM q with bk := ⟨b.k.up, slZ, slZ⟩, mo := decide (b.k.up < topF b.k.up (decd bp)) }, [], bes, bls, []⟩ := by rw [hAe]; unfold haveA; rw [hz, hk1, hup]; rfl
        subst hA
        have mk : m.k = 22 := mk
        have mky : m.ky = q.ky := mky
        have mup : m.bk.up = b.k.up := mup
        have c0 : (m.k == 22) = true := by rw [mk]; rfl
        have c1 : (m.ky.k == 1) = false := by rw [mky]; exact hk1
        have c2 : (m.ky.k == 2) = true := by rw [mky]; exact hk2
        have c3 : (m.bk.up == 0) = false := by simp; omega
        have c4 : decide (1 ≤ m.bk.up) = true := decide_eq_true (by omega)
        have c5 : decide (m.bk.up ≤ 1048576) = true := decide_eq_true (by omega)
        have hQ : moreB m = true → QOk (msgT m (m.bk.up + 1)) b (t + 1) := by
          intro hmo
          have e : msgT m (m.bk.up + 1) = askM m.to m.fr m.ky (m.bk.up + 1) := by unfold msgT; rw [if_pos hmo]
          rw [e]
          have t0 : t = 0 := by
            rcases Hq with h | ⟨_, _, h, _⟩
            · exact h
            · omega
          refine .inr ⟨rfl, by show m.ky.k = 2; rw [mky]; exact hq2, by show b.k.up < m.bk.up + 1; omega, by show m.bk.up + 1 ≤ 1048577; omega, by omega, by show _ ≤ m.bk.up + 1; omega⟩
        cases hE : decide (edgeF a.k.up (decd ap) < m.bk.up) with
        | true =>
          have hT2 : T = ⟨[⟨m.ky, blZ, inZ, ⟨m.bk.up, slZ, slZ⟩⟩], [], bes, bls, msgT m (m.bk.up + 1), moreB m⟩ := by rw [hTe]; unfold takeA; rw [c0, c1, c2, c3, c4, c5, hE]; rfl
          subst hT2
          exact ⟨one_ok hT (.inr (.inl ⟨c1, c2, by show 1 ≤ m.bk.up; omega, by show m.bk.up ≤ 1048576; omega⟩)), hQ⟩
        | false =>
          have hT2 : T = ⟨[], [], [], [], msgT m (m.bk.up + 1), moreB m⟩ := by rw [hTe]; unfold takeA; rw [c0, c1, c2, c3, c4, c5, hE]; rfl
          subst hT2
          exact ⟨nil_ok hT, hQ⟩
      | false =>
        have hup2 := of_decide_eq_false hup
        have hA : A = ⟨{ haveM q with st := ⟨q.st.n, 0⟩, mo := decide (min (topF b.k.up (decd bp)) (q.st.n + 63) < topF b.k.up (decd bp)) }, [], [], [], tab (hvN q b bp) (fun j => cmdAt bp (q.st.n + ((j : Nat) : Int)))⟩ := by rw [hAe]; unfold haveA; rw [hz, hk1, hup]; rfl
        subst hA
        have mk : m.k = 22 := mk
        have mky : m.ky = q.ky := mky
        have mup : m.bk.up = 0 := mup
        have mst : m.st = ⟨q.st.n, 0⟩ := mst
        have mn : m.st.n = q.st.n := by rw [mst]
        have mmo : m.mo = decide (min (topF b.k.up (decd bp)) (q.st.n + 63) < topF b.k.up (decd bp)) := mmo
        have mcl : (tab (hvN q b bp) (fun j => cmdAt bp (q.st.n + ((j : Nat) : Int)))).length = m.cm.l := mcl
        rw [tab_len] at mcl
        have c0 : (m.k == 22) = true := by rw [mk]; rfl
        have c1 : (m.ky.k == 1) = false := by rw [mky]; exact hk1
        have c2 : (m.ky.k == 2) = true := by rw [mky]; exact hk2
        have c3 : (m.bk.up == 0) = true := by rw [mup]; rfl
        have c4 : askB m.st.n = true := by rw [mn]; exact hab
        obtain ⟨cs, hcs⟩ : ∃ cs, cs = tab (hvN q b bp) (fun j => cmdAt bp (q.st.n + ((j : Nat) : Int))) := ⟨_, rfl⟩
        have hT2 : T = ⟨newF m.ky.a m.st.n a.k.up cs (decF m.st.n m.cm.l (decd ap)) m.cm.l, [], [], [], msgT m (m.st.n + ((m.cm.l : Nat) : Int)), moreB m⟩ := by rw [hTe, hcs]; unfold takeA; rw [c0, c1, c2, c3, c4]; simp
        subst hT2
        have hok := newF_ok m.ky.a m.st.n a.k.up cs (decF m.st.n m.cm.l (decd ap)) (by omega) (fun i hi => by
          rw [hcs] at hi ⊢
          obtain ⟨h1, h2⟩ := tab_cAt hi
          rw [h2] at hi ⊢
          exact cmd_good Hb _ hi) m.cm.l
        have hzl : (newF m.ky.a m.st.n a.k.up cs (decF m.st.n m.cm.l (decd ap)) m.cm.l).length = s.l := hT.zl
        have hels : ∀ i, i < s.l → scalC (hAt Y i) ∈ newF m.ky.a m.st.n a.k.up cs (decF m.st.n m.cm.l (decd ap)) m.cm.l := fun i hi => by
          have hs : scalC (hAt Y i) = hAt (newF m.ky.a m.st.n a.k.up cs (decF m.st.n m.cm.l (decd ap)) m.cm.l) i := (hT.el i hi).s
          rw [hs]
          exact hAt_mem (by rw [hzl]; exact hi)
        refine ⟨⟨fun i hi => chOk_scal (hok _ (hels i hi)).1, fun ⟨i, hi, _, h2⟩ => ?_⟩, fun hmo => ?_⟩
        · have h3 : ((scalC (hAt Y i)).ky.k == 2) = false := (hok _ (hels i hi)).2
          have h3 : ((hAt Y i).ky.k == 2) = false := h3
          rw [h3] at h2
          cases h2
        · have hmo : moreB m = true := hmo
          have hmo2 : m.mo = true := by unfold moreB at hmo; simp only [Bool.and_eq_true] at hmo; exact hmo.2
          rw [hmo2] at mmo
          have hlt := of_decide_eq_true mmo.symm
          have htop := Hb.top
          have e : msgT m (m.st.n + ((m.cm.l : Nat) : Int)) = askM m.to m.fr m.ky (m.st.n + ((m.cm.l : Nat) : Int)) := by unfold msgT; rw [if_pos hmo]
          show QOk (msgT m (m.st.n + ((m.cm.l : Nat) : Int))) b (t + 1)
          rw [e]
          have hc : ((m.cm.l : Nat) : Int) = 64 := by rw [← mcl]; unfold hvN; omega
          refine .inr ⟨rfl, by show m.ky.k = 2; rw [mky]; exact hq2, by show b.k.up < m.st.n + _; omega, by show m.st.n + _ ≤ 1048577; omega, by omega, ?_⟩
          show ((64 * (t + 1 - 1) + 1 : Nat) : Int) ≤ m.st.n + _
          rcases Hq with h | ⟨_, _, _, _, h1, h2⟩
          · omega
          · omega

end Go.Proofs.Ytcgnbpaaalmkoaa
