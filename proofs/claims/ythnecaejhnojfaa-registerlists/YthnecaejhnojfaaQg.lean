import Derived.Test.YthnecaejhnojfaaQd
namespace Go.Proofs.Ythnecaejhnojfaa.Md
open Go.RowKit
set_option linter.unusedVariables false
set_option linter.unusedSimpArgs false

theorem gAt_set {vs : List Mg} {i j : Nat} {d : Mg} (h : i < vs.length) : gAt (vs.set i d) j = if i = j then d else gAt vs j := by
  unfold gAt
  rw [List.getElem?_set]
  by_cases e : i = j
  · rw [if_pos e, if_pos e]; subst e; simp [h]
  · rw [if_neg e, if_neg e]
/-- What is so of both behind an answer that counts. -/
theorem ask_vals {B : Sl → List Int → Prop} {s : RM} {x : Rx} {X : TS Bp} {d : Mg} {z : List Int} {i : Nat} (nd : s.zs.Nodup) (hl : x.vs.length = s.zs.length) (h6 : ∀ (i : Nat) n b, s.zs[i]? = some n → X.v n = some b → ∃ zz, B (gAt x.vs i).bl zz ∧ b = keepQ s (gAt x.vs i).st zz) (hi : s.zs[i]? = some d.fr.id) (hB : B d.bl z) :
    ∀ (j : Nat) n b, s.zs[j]? = some n → (putS X d.fr.id (keepP s d z)).v n = some b → ∃ zz, B (gAt (takX x i d).vs j).bl zz ∧ b = keepQ s (gAt (takX x i d).vs j).st zz := by
  intro j n b hj hb
  have hil : i < x.vs.length := by rw [hl]; exact (List.getElem?_eq_some_iff.1 hi).1
  show ∃ zz, B (gAt (x.vs.set i d) j).bl zz ∧ b = keepQ s (gAt (x.vs.set i d) j).st zz
  rw [gAt_set hil]
  by_cases e : i = j
  · subst e
    rw [hi] at hj
    cases hj
    rw [if_pos rfl]
    simp [putS] at hb
    exact ⟨z, hB, by rw [← hb, keep_eq]⟩
  · rw [if_neg e]
    have hn : n ≠ d.fr.id := fun e2 => e (lit_nd s.zs nd i j _ hi (e2 ▸ hj))
    simp [putS, hn] at hb
    exact h6 j n b hj hb
theorem ask_63 {x : Rx} {d : Mg} {i : Nat} {n : Nat} (hl : x.vs.length = n) (hi : i < n) (h7 : ∀ j, -9223372036854775808 ≤ (gAt x.vs j).st.n) (hd : -9223372036854775808 ≤ d.st.n) : ∀ j, -9223372036854775808 ≤ (gAt (takX x i d).vs j).st.n := by
  intro j
  show _ ≤ (gAt (x.vs.set i d) j).st.n
  rw [gAt_set (by omega)]
  split
  · exact hd
  · exact h7 j
section
variable {B B' : Sl → List Int → Prop} {s : RM} {x : Rx} {X : TS Bp} {d : Mg} {z : List Int} {i : Nat}
theorem ask_few (h : Rel B s x) (hp : s.ph = .ask X) (hb : plcB x d = true) (hi : s.zs[i]? = some d.fr.id) (hv : X.v d.fr.id = none) (hB : B d.bl z) (hd : -9223372036854775808 ≤ d.st.n) (hc : cntB (x.qa.set i true) < s.zs.length / 2 + 1) :
    takP s d z = ({ s with ph := .ask (putS X d.fr.id (keepP s d z)) }, toZ) ∧ Rel B { s with ph := .ask (putS X d.fr.id (keepP s d z)) } (takX x i d) := by
  have hph := h.ph
  rw [hp] at hph
  obtain ⟨h1, h2, h3, h4, h5, h6, h7, h8⟩ := hph
  obtain ⟨e1, e2, e3, e4⟩ := h4.put h.nd hi hv (keepP s d z)
  have hil := (List.getElem?_eq_some_iff.1 hi).1
  refine ⟨?_, h.wr, h.cl, h.op, h.ky, h.zs, h.rd, h.nd, h.sz, h.s0, h.s1, ⟨h1, h2, h3, e4 hc, by show (x.vs.set i d).length = _; rw [List.length_set]; exact h5, ask_vals h.nd h5 h6 hi hB, ask_63 h5 hil h7 hd, h8⟩⟩
  unfold takP
  rw [hp]
  dsimp only
  rw [hit1 h h1, hb, if_pos rfl, e2, decide_eq_false (by simpa using hc), if_neg (by simp), e1]
theorem ask_more (h : Rel B s x) (hp : s.ph = .ask X) (hb : plcB x d = true) (hi : s.zs[i]? = some d.fr.id) (hv : X.v d.fr.id = none) (hc : ¬ cntB (x.qa.set i true) < s.zs.length / 2 + 1) :
    takP s d z = setP s (s.zs.filterMap (putS X d.fr.id (keepP s d z)).v) := by
  have hph := h.ph
  rw [hp] at hph
  obtain ⟨h1, h2, h3, h4, h5, h6, h7, h8⟩ := hph
  obtain ⟨e1, e2, e3, e4⟩ := h4.put h.nd hi hv (keepP s d z)
  unfold takP
  rw [hp]
  dsimp only
  rw [hit1 h h1, hb, if_pos rfl, e2, decide_eq_true hc, if_pos rfl, e1, got_fm, show (putS X d.fr.id (keepP s d z)).g = X.g from rfl, h4.g]
theorem ask_no (h : Rel B s x) (hp : s.ph = .ask X) (hb : plcB x d = false ∨ mayB X d.fr.id = false) : takP s d z = (s, toZ) := by
  have hph := h.ph
  rw [hp] at hph
  obtain ⟨h1, h2, h3, h4, h5, h6, h7, h8⟩ := hph
  unfold takP
  rw [hp]
  dsimp only
  rw [hit1 h h1]
  cases hh : plcB x d with
  | false => rw [if_neg (by simp)]
  | true =>
    have hm : mayB X d.fr.id = false := by rcases hb with e | e; rw [e] at hh; cases hh; exact e
    obtain ⟨e1, e2⟩ := may_no (v := keepP s d z) hm
    rw [if_pos rfl, e1, if_neg (by simp), e2, ← hp]
/-- A phase is entered. -/
theorem lay_rel {b : Bp} {x' : Rx} (h : Rel B s x) (r0 : 1 ≤ s.rd) (r1 : s.rd ≤ 1099511627776) (hB : ∀ l z, B l z → B' l z) (e0 : x'.wr = x.wr) (e1 : x'.cl = x.cl) (e2 : x'.op = x.op) (e3 : x'.ky = x.ky) (e4 : x'.zs = x.zs) (e5 : x'.rd = x.rd) (e6 : x'.sz = x.sz) (ht : x'.tag = b.st) (hb : B' x'.bl b.z) :
    Rel B' (layP s b).1 (layR x').1 ∧ LikeT B' (layR x').1 (layP s b) (layR x').2 := by
  unfold layP layR
  have hr : x'.rd = s.rd := e5.trans h.rd
  have hsz : match s.aim with | .wr _ => True | .rd n => x'.sz = (n : Int) := by rw [e6]; exact h.sz
  by_cases hc : s.rd = 1099511627776
  · rw [if_pos hc, if_pos (by omega)]
    exact ⟨⟨e0.trans h.wr, e1.trans h.cl, e2.trans h.op, e3.trans h.ky, e4.trans h.zs, e5.trans h.rd, h.nd, hsz, by rw [show (endR x' 4).sz = x'.sz from rfl, e6]; exact h.s0, by rw [show (endR x' 4).sz = x'.sz from rfl, e6]; exact h.s1, ⟨rfl, rfl, fun e => absurd e (by decide), fun _ => ⟨rfl, rfl⟩⟩⟩, rfl, fun e => absurd rfl e⟩
  · rw [if_neg hc, if_neg (by omega)]
    have hz : x'.zs = s.zs := e4.trans h.zs
    have hmz : ∀ j, gAt (List.replicate x'.zs.length mgZ) j = mgZ := fun j => by
      unfold gAt
      rw [List.getElem?_replicate]
      split <;> rfl
    refine ⟨⟨e0.trans h.wr, e1.trans h.cl, e2.trans h.op, e3.trans h.ky, hz, by show x'.rd + 1 = s.rd + 1; rw [hr], h.nd, hsz, by rw [show (freR { x' with rd := x'.rd + 1, ph := 2 }).sz = x'.sz from rfl, e6]; exact h.s0, by rw [show (freR { x' with rd := x'.rd + 1, ph := 2 }).sz = x'.sz from rfl, e6]; exact h.s1, ⟨rfl, ?_, ?_, ht, hb, fun j => ?_, by show 0 ≤ s.rd + 1; omega⟩⟩, ?_, fun _ => ⟨e1.trans h.cl, e2.trans h.op, e3.trans h.ky, by show x'.rd + 1 = s.rd + 1; rw [hr], .inr ⟨rfl, rfl, ht.symm, hb⟩⟩⟩
    · show QR s.zs (tNew Unit s.zs s.need) (List.replicate x'.zs.length false)
      rw [hz]
      exact QR.new h.nd
    · show (List.replicate x'.zs.length mgZ).length = _
      rw [List.length_replicate, hz]
    · show _ ≤ (gAt (List.replicate x'.zs.length mgZ) j).st.n
      rw [hmz]; exact (by decide)
    · rw [tol_fresh]
      show List.map _ x'.zs = List.map _ s.zs
      rw [hz]
/-- Enough have answered: both settle alike. -/
theorem ask_second (h : Rel B s x) (hp : s.ph = .ask X) (hb : plcB x d = true) (hi : s.zs[i]? = some d.fr.id) (hv : X.v d.fr.id = none) (hBd : B d.bl z) {f : Nat} {al : Bool} {nb : Nat} (hs : secK (takX x i d) s.zs.length = (some f, al)) (hBB : ∀ l z, B l z → B' l z)
    (hnb : x.wr = false → eqS (gAt (takX x i d).vs f).st spZ = true → B' ⟨some ⟨nb, 0, none⟩, x.sz.toNat, x.sz.toNat⟩ (List.replicate x.sz.toNat 0)) :
    Rel B' (setP s (s.zs.filterMap (putS X d.fr.id (keepP s d z)).v)).1 (secR (takX x i d) (gAt (takX x i d).vs f) al nb).1 ∧ LikeT B' (secR (takX x i d) (gAt (takX x i d).vs f) al nb).1 (setP s (s.zs.filterMap (putS X d.fr.id (keepP s d z)).v)) (secR (takX x i d) (gAt (takX x i d).vs f) al nb).2 := by
  have hph := h.ph
  rw [hp] at hph
  obtain ⟨h1, h2, h3, h4, h5, h6, h7, h8⟩ := hph
  obtain ⟨e1, e2, e3, e4⟩ := h4.put h.nd hi hv (keepP s d z)
  have hval := ask_vals h.nd h5 h6 hi hBd
  have hsp := secK_spec (zs := s.zs) (X := putS X d.fr.id (keepP s d z)) (x := takX x i d) e3 (fun j n b hj hb => by obtain ⟨zz, _, e⟩ := hval j n b hj hb; rw [e, keepQ_st]) s.zs.length (Nat.le_refl _)
  rw [List.take_length, hs] at hsp
  rcases hsp with ⟨_, e⟩ | ⟨j, n, b, hj, hjn, hjb, hbest, hne, hsec⟩
  · cases e
  · have hfj : f = j := Option.some.inj (Prod.mk.inj hsec).1
    have hal := (Prod.mk.inj hsec).2
    subst hfj
    rw [hal]
    clear hal hsec
    obtain ⟨zz, hzB, hbz⟩ := hval f n b hjn hjb
    have hst : b.st = (gAt (takX x i d).vs f).st := by rw [hbz, keepQ_st]
    generalize hM : gAt (takX x i d).vs f = M at *
    have hwr : (takX x i d).wr = s.isW := h.wr
    obtain ⟨L, hL⟩ : ∃ L, L = s.zs.filterMap (putS X d.fr.id (keepP s d z)).v := ⟨_, rfl⟩
    rw [← hL] at hbest ⊢
    obtain ⟨T, hT⟩ : ∃ T, T = takX x i d := ⟨_, rfl⟩
    have t0 : T.wr = x.wr := by rw [hT]; rfl
    have t1 : T.cl = x.cl := by rw [hT]; rfl
    have t2 : T.op = x.op := by rw [hT]; rfl
    have t3 : T.ky = x.ky := by rw [hT]; rfl
    have t4 : T.zs = x.zs := by rw [hT]; rfl
    have t5 : T.rd = x.rd := by rw [hT]; rfl
    have t6 : T.sz = x.sz := by rw [hT]; rfl
    have t7 : T.bl = x.bl := by rw [hT]; rfl
    rw [← hT]
    cases ha : s.aim with
    | wr z0 =>
      have hw : T.wr = true := by rw [t0, h.wr]; unfold RM.isW; rw [ha]
      have hB0 : B x.bl z0 := by have := h8; unfold WrB at this; rw [ha] at this; exact this
      have eset : setP s L = if 1099511627776 ≤ (bestB L).st.n then ({ s with ph := .fin 4 spZ [] }, toZ) else layP s ⟨⟨(bestB L).st.n + 1, s.cl⟩, z0⟩ := by unfold setP; rw [ha]
      have esec : secR T M (!L.any (othP b)) nb = if 1099511627776 ≤ M.st.n then (endR { T with tag := M.st } 4, []) else layR { T with tag := ⟨M.st.n + 1, T.cl⟩ } := by unfold secR; rw [if_pos hw]
      rw [esec, eset, hbest, hst]
      by_cases hc : 1099511627776 ≤ M.st.n
      · rw [if_pos hc, if_pos hc]
        exact ⟨⟨t0.trans h.wr, t1.trans h.cl, t2.trans h.op, t3.trans h.ky, t4.trans h.zs, t5.trans h.rd, h.nd, by show (match s.aim with | .wr _ => True | .rd n => T.sz = (n : Int)); rw [ha]; trivial, by show 0 ≤ T.sz; rw [t6]; exact h.s0, by show T.sz ≤ 4096; rw [t6]; exact h.s1, ⟨rfl, rfl, fun e => absurd e (by decide), fun _ => ⟨rfl, rfl⟩⟩⟩, rfl, fun e => absurd rfl e⟩
      · rw [if_neg hc, if_neg hc]
        exact lay_rel (b := ⟨⟨M.st.n + 1, s.cl⟩, z0⟩) (x' := { T with tag := ⟨M.st.n + 1, T.cl⟩ }) h h2 h3 hBB t0 t1 t2 t3 t4 t5 t6 (by show Sp.mk _ T.cl = _; rw [t1, h.cl]) (by show B' T.bl z0; rw [t7]; exact hBB _ _ hB0)
    | rd n0 =>
      have hw : T.wr = false := by rw [t0, h.wr]; unfold RM.isW; rw [ha]
      have hszz : x.sz = (n0 : Int) := by have := h.sz; rw [ha] at this; exact this
      have eset : setP s L = if L.any (othP (bestB L)) then layP s (bestB L) else ({ s with ph := .fin 0 (bestB L).st (bestB L).z }, toZ) := by unfold setP; rw [ha]
      obtain ⟨bb, hbb⟩ : ∃ bb : Sl, bb = if eqS M.st spZ then ⟨some ⟨nb, 0, none⟩, T.sz.toNat, T.sz.toNat⟩ else M.bl := ⟨_, rfl⟩
      have esec : secR T M (!L.any (othP b)) nb = if (!L.any (othP b)) then (endR { T with tag := M.st, bl := bb } 0, []) else layR { T with tag := M.st, bl := bb } := by unfold secR; rw [if_neg (by rw [hw]; simp), hbb]
      have hbl : B' bb b.z := by
        rw [hbb]
        by_cases hz : eqS M.st spZ = true
        · rw [if_pos hz, t6]
          have h0 : M.st.n = 0 ∧ M.st.c = 0 := by have := eqS_iff.1 hz; rw [this]; exact ⟨rfl, rfl⟩
          have : b.z = List.replicate x.sz.toNat 0 := by
            rw [hbz]
            unfold keepQ
            rw [ha]
            dsimp only
            rw [if_pos h0, hszz]
            simp
          rw [this]
          exact hnb (by rw [← t0]; exact hw) hz
        · rw [if_neg hz]
          have h0 : ¬ (M.st.n = 0 ∧ M.st.c = 0) := fun e => hz (eqS_iff.2 (by cases hm : M.st with | mk a c => rw [hm] at e; obtain ⟨rfl, rfl⟩ := e; rfl))
          have : b.z = zz := by
            rw [hbz]
            unfold keepQ
            rw [ha]
            dsimp only
            rw [if_neg h0]
          rw [this]
          exact hBB _ _ hzB
      rw [esec, eset, hbest]
      cases han : L.any (othP b) with
      | true =>
        rw [if_pos rfl, if_neg (by simp)]
        exact lay_rel (b := b) (x' := { T with tag := M.st, bl := bb }) h h2 h3 hBB t0 t1 t2 t3 t4 t5 t6 hst.symm hbl
      | false =>
        rw [if_neg (by simp), if_pos (by simp)]
        exact ⟨⟨t0.trans h.wr, t1.trans h.cl, t2.trans h.op, t3.trans h.ky, t4.trans h.zs, t5.trans h.rd, h.nd, by show (match s.aim with | .wr _ => True | .rd n => T.sz = (n : Int)); rw [ha, t6]; exact hszz, by show 0 ≤ T.sz; rw [t6]; exact h.s0, by show T.sz ≤ 4096; rw [t6]; exact h.s1, ⟨rfl, rfl, fun _ => ⟨hst.symm, fun _ => hbl, fun e => by rw [show T.wr = true from e] at hw; cases hw⟩, fun e => absurd rfl e⟩⟩, rfl, fun e => absurd rfl e⟩
/-- The second phase. -/
theorem lay_no {b : Bp} {U : TS Unit} (h : Rel B s x) (hp : s.ph = .lay b U) (hb : plcB x d = false ∨ mayB U d.fr.id = false) : takP s d z = (s, toZ) := by
  have hph := h.ph
  rw [hp] at hph
  obtain ⟨h1, h4, h5, h6, h7, h8⟩ := hph
  unfold takP
  rw [hp]
  dsimp only
  rw [hit2 h h1]
  cases hh : plcB x d with
  | false => rw [if_neg (by simp)]
  | true =>
    have hm : mayB U d.fr.id = false := by rcases hb with e | e; rw [e] at hh; cases hh; exact e
    obtain ⟨e1, e2⟩ := may_no (v := ()) hm
    rw [if_pos rfl, e1, if_neg (by simp), e2, ← hp]
theorem lay_few {b : Bp} {U : TS Unit} (h : Rel B s x) (hp : s.ph = .lay b U) (hb : plcB x d = true) (hi : s.zs[i]? = some d.fr.id) (hv : U.v d.fr.id = none) (hd : -9223372036854775808 ≤ d.st.n) (hc : cntB (x.qa.set i true) < s.zs.length / 2 + 1) :
    takP s d z = ({ s with ph := .lay b (putS U d.fr.id ()) }, toZ) ∧ Rel B { s with ph := .lay b (putS U d.fr.id ()) } (takX x i d) := by
  have hph := h.ph
  rw [hp] at hph
  obtain ⟨h1, h4, h5, h6, h7, h8⟩ := hph
  obtain ⟨e1, e2, e3, e4⟩ := h4.put h.nd hi hv ()
  have hil := (List.getElem?_eq_some_iff.1 hi).1
  refine ⟨?_, h.wr, h.cl, h.op, h.ky, h.zs, h.rd, h.nd, h.sz, h.s0, h.s1, ⟨h1, e4 hc, by show (x.vs.set i d).length = _; rw [List.length_set]; exact h5, h6, h7, ask_63 h5 hil h8.1 hd, h8.2⟩⟩
  unfold takP
  rw [hp]
  dsimp only
  rw [hit2 h h1, hb, if_pos rfl, e2, decide_eq_false (by simpa using hc), if_neg (by simp), e1]
theorem lay_more {b : Bp} {U : TS Unit} (h : Rel B s x) (hp : s.ph = .lay b U) (hb : plcB x d = true) (hi : s.zs[i]? = some d.fr.id) (hv : U.v d.fr.id = none) (hc : ¬ cntB (x.qa.set i true) < s.zs.length / 2 + 1) :
    takP s d z = ({ s with ph := .fin 0 b.st (resP s b) }, toZ) ∧ Rel B { s with ph := .fin 0 b.st (resP s b) } (endR (takX x i d) 0) := by
  have hph := h.ph
  rw [hp] at hph
  obtain ⟨h1, h4, h5, h6, h7, h8⟩ := hph
  obtain ⟨e1, e2, e3, e4⟩ := h4.put h.nd hi hv ()
  refine ⟨?_, h.wr, h.cl, h.op, h.ky, h.zs, h.rd, h.nd, h.sz, h.s0, h.s1, ⟨rfl, rfl, fun _ => ⟨h6, fun e => ?_, fun e => ?_⟩, fun e => absurd rfl e⟩⟩
  · unfold takP
    rw [hp]
    dsimp only
    rw [hit2 h h1, hb, if_pos rfl, e2, decide_eq_true hc, if_pos rfl]
  · have hw : s.isW = false := h.wr.symm.trans e
    have hr : resP s b = b.z := by unfold RM.isW at hw; unfold resP; cases ha : s.aim with | wr z0 => rw [ha] at hw; cases hw | rd n => rfl
    rw [hr]; exact h7
  · have hw : s.isW = true := h.wr.symm.trans e
    unfold RM.isW at hw; unfold resP; cases ha : s.aim with | wr z0 => rfl | rd n => rw [ha] at hw; cases hw
theorem tak_not (h : Rel B s x) (h1 : x.ph ≠ 1) (h2 : x.ph ≠ 2) : takP s d z = (s, toZ) := by
  have hph := h.ph
  unfold takP
  cases e : s.ph with
  | fresh => rfl
  | ask X => rw [e] at hph; exact absurd hph.1 h1
  | lay b U => rw [e] at hph; exact absurd hph.1 h2
  | fin er st z => rfl
end

end Go.Proofs.Ythnecaejhnojfaa.Md
namespace Go.Proofs.Ythnecaejhnojfaa.Md
open Go.RowKit
set_option linter.unusedVariables false
set_option linter.unusedSimpArgs false

/-- The reference's machine in memory; its blocks. -/
def RfAt (w : World) (r : Nat) (x : Rx) (g : Sl) : Option (Nat × Nat) → Prop
  | none => RfG w r x g slZ slZ
  | some p => RfL w r x g p.1 p.2
def Jx (r : Nat) (g : Sl) (LV : Option (Nat × Nat)) : Nat → Prop := fun k => k = r ∨ At g.a k ∨ ∃ p, LV = some p ∧ (k = p.1 ∨ k = p.2)
theorem RfAt.gg {w : World} {r : Nat} {x : Rx} {g : Sl} {LV : Option (Nat × Nat)} (h : RfAt w r x g LV) : ∃ an vv, RfG w r x g an vv := by
  cases LV with
  | none => exact ⟨_, _, h⟩
  | some p => exact ⟨_, _, RfL.g h⟩
theorem RfAt.lt {w : World} {r : Nat} {x : Rx} {g : Sl} {LV : Option (Nat × Nat)} (h : RfAt w r x g LV) {k : Nat} (hk : Jx r g LV k) : k < w.heap.size := by
  obtain ⟨an, vv, hg⟩ := h.gg
  rcases hk with rfl | hk | ⟨p, rfl, hk⟩
  · exact hg.box.lt
  · exact hg.gr.own.lt hk
  · rcases hk with rfl | rfl
    · exact (show RfL w r x g p.1 p.2 from h).ba.lt
    · exact (show RfL w r x g p.1 p.2 from h).bv.lt
theorem RfAt.kept {S : Nat → Prop} {w w' : World} {r : Nat} {x : Rx} {g : Sl} {LV : Option (Nat × Nat)} (h : RfAt w r x g LV) (hk : Kept S w w') (hS : ∀ k, Jx r g LV k → ¬ S k) : RfAt w' r x g LV := by
  cases LV with
  | none => exact RfG.kept h hk (hS r (.inl rfl)) (fun k e => hS k (.inr (.inl e)))
  | some p => exact RfL.kept h hk (hS r (.inl rfl)) (fun k e => hS k (.inr (.inl e))) (hS _ (.inr (.inr ⟨p, rfl, .inl rfl⟩))) (hS _ (.inr (.inr ⟨p, rfl, .inr rfl⟩)))
/-- Bytes that nobody writes over. -/
def Bw (H : Nat → Prop) (w : World) (I J : Nat → Prop) (l : Sl) (z : List Int) : Prop := RdB w l z ∧ l.l ≤ 140737488351232 ∧ (z ≠ [] → ∀ k, At l.a k → k < w.heap.size ∧ ¬ I k ∧ ¬ J k ∧ H k)
theorem Bw.to {S I J I' J' H : Nat → Prop} {w w' : World} {l : Sl} {z : List Int} (h : Bw H w I J l z) (hk : Kept S w w') (hS : ∀ k, k < w.heap.size → ¬ I k → ¬ J k → ¬ S k ∧ ¬ I' k ∧ ¬ J' k) : Bw H w' I' J' l z := by
  have hs := hk.size
  refine ⟨h.1.kept0 hk (fun hne k e => (hS k (h.2.2 hne k e).1 (h.2.2 hne k e).2.1 (h.2.2 hne k e).2.2.1).1), h.2.1, fun hne k e => ?_⟩
  have q := hS k (h.2.2 hne k e).1 (h.2.2 hne k e).2.1 (h.2.2 hne k e).2.2.1
  exact ⟨by have := (h.2.2 hne k e).1; omega, q.2.1, q.2.2, (h.2.2 hne k e).2.2.2⟩
/-- Both machines in memory, apart. -/
structure Wq (w0 w : World) (I : Nat → Prop) (m r : Nat) (g : Sl) (LV : Option (Nat × Nat)) (s : RM) (x : Rx) : Prop where
  mch : Mch w I m s
  ref : RfAt w r x g LV
  ia : ∀ k, I k → w0.heap.size ≤ k ∧ k < w.heap.size ∧ ¬ Jx r g LV k
  jb : ∀ k, Jx r g LV k → w0.heap.size ≤ k
  kp : Kept (fun k => w0.heap.size ≤ k) w0 w
  lv : x.ph = 1 ∨ x.ph = 2 → LV ≠ none
section
variable {w0 w w' : World} {I I' S H : Nat → Prop} {m r : Nat} {g : Sl} {LV LV' : Option (Nat × Nat)} {s s' : RM} {x x' : Rx} {o : RM × To} {e : Ending}
theorem Wq.no (h : Wq w0 w I m r g LV s x) (hk : Kept No w w') : Wq w0 w' I m r g LV s x :=
  ⟨h.mch.no hk, h.ref.kept hk (fun _ _ e => e), fun k e => ⟨(h.ia k e).1, by have := (h.ia k e).2.1; have := hk.size; omega, (h.ia k e).2.2⟩, h.jb, h.kp.then hk.of_no, h.lv⟩
theorem Wq.off (h : Wq w0 w I m r g LV s x) (hk : Kept S w w') (hS : ∀ k, S k → w0.heap.size ≤ k ∧ ¬ I k ∧ ¬ Jx r g LV k) : Wq w0 w' I m r g LV s x :=
  ⟨h.mch.kept hk (fun k e _ => ⟨fun f => (hS k f).2.1 e, e⟩), h.ref.kept hk (fun k e f => (hS k f).2.2 e), fun k e => ⟨(h.ia k e).1, by have := (h.ia k e).2.1; have := hk.size; omega, (h.ia k e).2.2⟩, h.jb, h.kp.trans hk (fun _ e => e) (fun k _ e => (hS k e).1), h.lv⟩
/-- What a machine has told. -/
def TlM (w : World) (N : Nat) (la : Option Addr) (n lc : Nat) (o : RM × To) : Prop := ∃ qs, qs.length = n ∧ qs.map Qm.sv = o.2.ss ∧ Msgs w N la lc o.1.x ⟨o.2.k, o.2.st.n, o.2.st.c, o.2.z.length⟩ o.2.z qs
theorem TlM.kept {N n lc : Nat} {la : Option Addr} (h : TlM w N la n lc o) (hk : Kept S w w') (hS : ∀ k, N ≤ k → ¬ S k) : TlM w' N la n lc o := by
  obtain ⟨qs, h1, h2, h3⟩ := h
  exact ⟨qs, h1, h2, ⟨Own.kept h3.row hk (fun k e => hS k (Own.base h3.row e)), fun q hq => Own.kept (h3.own q hq) hk (fun k e => hS k (Own.base (h3.own q hq) e)), h3.ord, h3.len⟩⟩
theorem Wq.prog (h : Wq w0 w I m r g LV s x) (ho : MOut w I m o e w') : ∃ la n lc I', e = .returned (.slice la n lc) ∧ TlM w' w.heap.size la n lc o ∧ Wq w0 w' I' m r g LV o.1 x ∧ (∀ l z, Bw H w I (Jx r g LV) l z → Bw H w' I' (Jx r g LV) l z) ∧ Kept I w w' ∧ (∀ k, I' k → I k ∨ w.heap.size ≤ k) := by
  obtain ⟨la, lc, qs, I', he, hq, hM, hm, hI, hk⟩ := ho
  have hs := hk.size
  refine ⟨la, _, lc, I', he, ⟨qs, rfl, hq, hM⟩, ⟨hm, h.ref.kept hk (fun k e f => (h.ia k f).2.2 e), fun k e => ?_, h.jb, h.kp.trans hk (fun _ e => e) (fun k _ e => (h.ia k e).1), h.lv⟩, fun l z hb => hb.to hk (fun k l1 l2 l3 => ⟨l2, fun f => ?_, l3⟩), hk, fun k e => (hI k e).1⟩
  · have h0 := h.kp.size
    rcases (hI k e).1 with f | f
    · exact ⟨(h.ia k f).1, (hI k e).2, (h.ia k f).2.2⟩
    · exact ⟨by omega, (hI k e).2, fun j => by have := h.ref.lt j; omega⟩
  · rcases (hI k f).1 with f | f
    · exact l2 f
    · omega
theorem Wq.refm (h : Wq w0 w I m r g LV s x) (hk : Kept S w w') (hS : ∀ k, S k → Jx r g LV k) (hr : RfAt w' r x' g LV') (hL : ∀ k, Jx r g LV' k → Jx r g LV k ∨ w.heap.size ≤ k) (hlv : x'.ph = 1 ∨ x'.ph = 2 → LV' ≠ none) :
    Wq w0 w' I m r g LV' s x' ∧ ∀ l z, Bw H w I (Jx r g LV) l z → Bw H w' I (Jx r g LV') l z := by
  have hs := hk.size
  have h0 := h.kp.size
  refine ⟨⟨h.mch.kept hk (fun k e _ => ⟨fun f => (h.ia k e).2.2 (hS k f), e⟩), hr, fun k e => ⟨(h.ia k e).1, by have := (h.ia k e).2.1; omega, fun f => ?_⟩, fun k e => ?_, h.kp.trans hk (fun _ e => e) (fun k _ e => h.jb k (hS k e)), hlv⟩, fun l z hb => hb.to hk (fun k l1 l2 l3 => ⟨fun f => l3 (hS k f), l2, fun f => ?_⟩)⟩
  · rcases hL k f with f | f
    · exact (h.ia k e).2.2 f
    · have := (h.ia k e).2.1; omega
  · rcases hL k e with f | f
    · exact h.jb k f
    · omega
  · rcases hL k f with f | f
    · exact l3 f
    · omega
end
/-- A message told, by its parts. -/
def pm (x : MS) (h : Qh) (q : Qm) : Mg := ⟨h.kind, ⟨true, x.cl⟩, ⟨false, q.sv⟩, x.op, x.rd, ⟨x.k0, x.k1, x.k2, x.k3⟩, ⟨h.n, h.c⟩, spZ, ⟨q.ba, h.l, q.bc⟩, cZ, bvZ, slZ, false⟩
theorem pm_L (x : MS) (h : Qh) (qs : List Qm) : mgL (qs.map (pm x h)) = msgsC x h qs := by
  unfold mgL msgsC
  rw [List.map_map, List.flatMap_def]
  rfl
theorem msgs_rd {w : World} {b : Nat} {a : Option Addr} {cap : Nat} {x : MS} {h : Qh} {zs : List Int} {qs : List Qm} (hM : Msgs w b a cap x h zs qs) : RdM w ⟨a, qs.length, cap⟩ (qs.map (pm x h)) :=
  OwM.rd (base := b) ⟨by rw [pm_L]; exact hM.row, by simp⟩
theorem rdE_nil (w : World) : RdE w slZ [] := ⟨RowsAt.nil _ _ _, rfl, fun _ => rfl⟩
theorem rdL_nil (w : World) : RdL w slZ [] := ⟨RowsAt.nil _ _ _, rfl, fun _ => rfl⟩
theorem rdC_nil (w : World) : RdC w slZ [] := ⟨RowsAt.nil _ _ _, rfl, fun _ => rfl⟩
theorem rdB_nil (w : World) : RdB w slZ [] := ⟨fun i hi => by simp at hi, rfl, fun _ => rfl⟩
/-- What both have told is the same. -/
theorem sameT {w : World} {N n lc : Nat} {la : Option Addr} {o : RM × To} {x' : Rx} {t : Sl} {l : List Mg} {I J H : Nat → Prop} (h : TlM w N la n lc o) (ht : RdM w t l) (hl : LikeT (Bw H w I J) x' o l) (hn : l.length ≤ 1000) :
    Calls Try.prog 10 #[.slice la n lc, t.v] w (fun e w' => e = .returned (.bool true) ∧ Kept No w w') := by
  obtain ⟨qs, rfl, h2, hM⟩ := h
  have hlen : l.length = qs.length := by rw [hl.eq, List.length_map, ← h2, List.length_map]
  obtain ⟨ta, tn, tk⟩ := t
  obtain rfl : tn = qs.length := ht.len.symm.trans hlen
  refine sameMs la ta qs.length lc tk (qs.map (pm o.1.x ⟨o.2.k, o.2.st.n, o.2.st.c, o.2.z.length⟩)) l w (msgs_rd hM) ht (fun i hi => ?_) (by omega)
  have hq : qs[i]? = some qs[i] := List.getElem?_eq_getElem hi
  have hss : o.2.ss[i]? = some (qs[i]).sv := by rw [← h2, List.getElem?_map, hq]; rfl
  have e1 : gAt (qs.map (pm o.1.x ⟨o.2.k, o.2.st.n, o.2.st.c, o.2.z.length⟩)) i = pm o.1.x ⟨o.2.k, o.2.st.n, o.2.st.c, o.2.z.length⟩ qs[i] := by unfold gAt; rw [List.getElem?_map, hq]; rfl
  have e2 : gAt l i = msgR x' (qs[i]).sv := by unfold gAt; rw [hl.eq, List.getElem?_map, hss]; rfl
  rw [e1, e2]
  have hne : o.2.ss ≠ [] := fun e => by rw [e] at hss; simp at hss
  obtain ⟨c1, c2, c3, c4, hc⟩ := hl.ok hne
  have hown := hM.own qs[i] (List.getElem_mem hi)
  have hz := hM.len
  have hrd : RdB w ⟨(qs[i]).ba, o.2.z.length, (qs[i]).bc⟩ o.2.z := ⟨OwnB.bytes hown, rfl, fun e => Own.cap0 hown e⟩
  rcases hc with ⟨p1, p2, p3, p4⟩ | ⟨p1, p2, p3, p4⟩
  · refine ⟨?_, ⟨o.2.z, [], [], [], hrd, ?_, rdE_nil w, rdE_nil w, rdL_nil w, rdL_nil w, rdC_nil w, rdC_nil w⟩, by show o.2.z.length ≤ _; rw [p4]; exact Nat.zero_le _, Nat.zero_le _, Nat.zero_le _, Nat.zero_le _⟩
    · simp [msgR, pm, p1, p2, p3, c1, c2, c3, c4, RM.x, spZ, bvZ]
    · simp [msgR, p1, p4]; exact rdB_nil w
  · refine ⟨?_, ⟨o.2.z, [], [], [], hrd, ?_, rdE_nil w, rdE_nil w, rdL_nil w, rdL_nil w, rdC_nil w, rdC_nil w⟩, by show o.2.z.length ≤ _; rw [p4.1.len]; have := p4.2.1; omega, Nat.zero_le _, Nat.zero_le _, Nat.zero_le _⟩
    · simp [msgR, pm, p1, p2, p3, c1, c2, c3, c4, RM.x, spZ, bvZ]
    · simp [msgR, p1]; exact p4.1

end Go.Proofs.Ythnecaejhnojfaa.Md
namespace Go.Proofs.Ythnecaejhnojfaa.Md
open Go.RowKit
set_option linter.unusedVariables false
set_option linter.unusedSimpArgs false

/-- What a call of the reference's machine tells and leaves, beside what the program's told. -/
def RefO (H : Nat → Prop) (w0 w : World) (I : Nat → Prop) (m r : Nat) (g : Sl) (LV : Option (Nat × Nat)) (s : RM) (o : RM × To) (e : Ending) (w' : World) : Prop :=
  ∃ t l LV' x', e = .returned (Sl.v t) ∧ RdM w' t l ∧ l.length ≤ 1000 ∧ Wq w0 w' I m r g LV' s x' ∧ Rel (Bw H w' I (Jx r g LV')) o.1 x' ∧ LikeT (Bw H w' I (Jx r g LV')) x' o l ∧ Kept (Jx r g LV) w w' ∧ ∀ k, Jx r g LV' k → Jx r g LV k ∨ w.heap.size ≤ k
theorem rdM_nil (w : World) : RdM w slZ [] := ⟨RowsAt.nil _ _ _, rfl⟩
theorem likeT_nil (B : Sl → List Int → Prop) (x : Rx) (s : RM) : LikeT B x (s, toZ) [] := ⟨rfl, fun e => absurd rfl e⟩
theorem LikeT.mono {B B' : Sl → List Int → Prop} {x : Rx} {o : RM × To} {l : List Mg} (h : LikeT B x o l) (hB : ∀ l z, B l z → B' l z) : LikeT B' x o l :=
  ⟨h.eq, fun e => by obtain ⟨a, b, c, d, f⟩ := h.ok e; exact ⟨a, b, c, d, f.imp id (fun q => ⟨q.1, q.2.1, q.2.2.1, hB _ _ q.2.2.2⟩)⟩⟩
theorem tol_len (x : Rx) : (tolR x).length ≤ x.zs.length := tolK_len x _
theorem Box.inj2 {w : World} {k : Nat} {t : TypeId} {a b : Array Value} (h : Box w k t a) (h' : Box w k t b) : a = b := by
  unfold Box at h h'
  rw [h] at h'
  cases h'
  rfl
theorem slv_inj {a b : Sl} (h : a.v = b.v) : a = b := by
  obtain ⟨a1, a2, a3⟩ := a
  obtain ⟨b1, b2, b3⟩ := b
  simp only [Sl.v, Value.slice.injEq] at h
  obtain ⟨rfl, rfl, rfl⟩ := h
  rfl
theorem rvG_end {x x' : Rx} {g an vv an' vv' : Sl} (h : (rvG x g an vv).cells = (rvG x g an' vv').cells) : rvG x' g an vv = rvG x' g an' vv' := by
  have e9 : (rvG x g an vv).cells[12]? = (rvG x g an' vv').cells[12]? := by rw [h]
  have e10 : (rvG x g an vv).cells[13]? = (rvG x g an' vv').cells[13]? := by rw [h]
  have a1 : an = an' := slv_inj (Option.some.inj e9)
  have a2 : vv = vv' := slv_inj (Option.some.inj e10)
  rw [a1, a2]
section
variable {w0 w : World} {I H : Nat → Prop} {m r : Nat} {g : Sl} {LV : Option (Nat × Nat)} {s s0 : RM} {x : Rx}
theorem Wq.zl (h : Wq w0 w I m r g LV s x) : x.zs.length ≤ 100 := by
  obtain ⟨an, vv, hg⟩ := h.ref.gg
  rw [hg.gr.len]; exact hg.hn
/-- Nothing is told, nothing changes. -/
theorem RefO.same {e : Ending} {w' : World} (h : Wq w0 w I m r g LV s x) (hr : Rel (Bw H w I (Jx r g LV)) s0 x) (he : e = .returned (.slice none 0 0)) (hk : Kept No w w') : RefO H w0 w I m r g LV s (s0, toZ) e w' :=
  ⟨slZ, [], LV, x, he, rdM_nil _, by simp, h.no hk, hr.mono (fun l z hb => hb.to hk (fun k _ l2 l3 => ⟨fun f => f, l2, l3⟩)), likeT_nil _ _ _, hk.of_no, fun k e => .inl e⟩
theorem refTick (h : Wq w0 w I m r g LV s x) (hr : Rel (Bw H w I (Jx r g LV)) s0 x) : Calls Try.prog 11 #[.pointer (some ⟨r, 0, none⟩)] w (RefO H w0 w I m r g LV s (s0, tikP s0)) := by
  by_cases hp : x.ph = 1 ∨ x.ph = 2
  · obtain ⟨p, rfl⟩ : ∃ p, LV = some p := by
      cases LV with
      | none => exact absurd rfl (h.lv hp)
      | some p => exact ⟨p, rfl⟩
    refine (rTick1 r x g p.1 p.2 w h.ref hp).mono ?_
    rintro e w' ⟨t, rfl, hO, hk⟩
    have hB : ∀ l z, Bw H w I (Jx r g (some p)) l z → Bw H w' I (Jx r g (some p)) l z := fun l z hb => hb.to hk (fun k _ l2 l3 => ⟨fun f => f, l2, l3⟩)
    exact ⟨t, _, some p, x, rfl, hO.rd, by have := tol_len x; have := h.zl; omega, h.no hk, hr.mono hB, (rel_tick hr hp).mono hB, hk.of_no, fun k e => .inl e⟩
  · have h1 : x.ph ≠ 1 := fun e => hp (.inl e)
    have h2 : x.ph ≠ 2 := fun e => hp (.inr e)
    obtain ⟨an, vv, hg⟩ := h.ref.gg
    rw [tik_not hr h1 h2]
    exact (rTick0 r x g an vv w hg (by simpa using h1) (by simpa using h2)).mono fun e w' he => RefO.same h hr he.1 he.2
theorem refBegin (h : Wq w0 w I m r g LV s x) (hr : Rel (Bw H w I (Jx r g LV)) s0 x) : Calls Try.prog 9 #[.pointer (some ⟨r, 0, none⟩)] w (RefO H w0 w I m r g LV s (begP s0)) := by
  obtain ⟨an, vv, hg⟩ := h.ref.gg
  by_cases hp : x.ph = 0
  · refine (rBegin1 r x g an vv w hg (by simpa using hp)).mono ?_
    rintro e w' ⟨hk, hc⟩
    obtain ⟨q1, q2⟩ := rel_begin hr hp
    have hS : ∀ k, Only r k → Jx r g LV k := fun k e => .inl e
    rcases hc with ⟨hb, rfl, hG⟩ | ⟨hb, t, ba, bv, rfl, hO, hL, hba, hbv⟩
    · obtain ⟨r1, r2⟩ := q1 hb
      have hRf : RfAt w' r (endR x 4) g LV := by
        cases LV with
        | none =>
          have e1 := Box.inj2 hg.box (show RfG w r x g slZ slZ from h.ref).box
          exact ⟨by rw [← show rvG (endR x 4) g an vv = rvG (endR x 4) g slZ slZ from rvG_end e1]; exact hG.box, hG.gr, hG.hn⟩
        | some p =>
          have hl : RfL w r x g p.1 p.2 := h.ref
          have e1 := Box.inj2 hg.box hl.box
          exact ⟨by
            have := hG.box
            rw [show rvG (endR x 4) g an vv = rvL (endR x 4) g p.1 p.2 from rvG_end e1] at this
            exact this, hG.gr, hG.hn, hl.ba.kept hk (fun e => box_ne hl.ba hl.box (by decide) e), hl.bv.kept hk (fun e => box_ne hl.bv hl.box (by decide) e), hl.la, hl.lv⟩
      obtain ⟨hW, hB⟩ := h.refm hk hS hRf (fun k e => .inl e) (fun e => by rcases e with e | e <;> cases e)
      refine ⟨slZ, [], LV, endR x 4, rfl, rdM_nil _, by simp, hW, r1.mono hB, ⟨by rw [r2]; rfl, fun e => by rw [r2] at e; exact absurd rfl e⟩, hk.mono (fun k _ e => hS k e), fun k e => .inl e⟩
    · obtain ⟨r1, r2⟩ := q2 hb
      obtain ⟨hW, hB⟩ := h.refm (LV' := some (ba, bv)) hk hS hL (fun k e => by
        rcases e with e | e | ⟨p, hp, e⟩
        · exact .inl (.inl e)
        · exact .inl (.inr (.inl e))
        · cases hp
          rcases e with rfl | rfl
          · exact .inr hba
          · exact .inr hbv) (fun _ => by simp)
      exact ⟨t, _, some (ba, bv), _, rfl, hO.rd, by have h2 : (tolR (freR { x with ph := 1 })).length ≤ x.zs.length := tol_len (freR { x with ph := 1 }); have := h.zl; omega, hW, r1.mono hB, r2.mono hB, hk.mono (fun k _ e => hS k e), fun k e => by
        rcases e with e | e | ⟨p, hp, e⟩
        · exact .inl (.inl e)
        · exact .inl (.inr (.inl e))
        · cases hp
          rcases e with rfl | rfl
          · exact .inr hba
          · exact .inr hbv⟩
  · rw [beg_not hr hp]
    exact (rBegin0 r x g an vv w hg (by simpa using hp)).mono fun e w' he => RefO.same h hr he.1 he.2
theorem refTake (h : Wq w0 w I m r g LV s x) (hr : Rel (Bw H w I (Jx r g LV)) s0 x) (d : Mg) (z : List Int) (hBd : Bw H w I (Jx r g LV) d.bl z) (h63 : -9223372036854775808 ≤ d.st.n) (hH : ∀ k, w.heap.size ≤ k → H k) :
    Calls Try.prog 13 #[.pointer (some ⟨r, 0, none⟩), .agg (Mg.cells d)] w (RefO H w0 w I m r g LV s (takP s0 d z)) := by
  by_cases hp : x.ph = 1 ∨ x.ph = 2
  · obtain ⟨⟨ba, bv⟩, rfl⟩ : ∃ p, LV = some p := by
      cases LV with
      | none => exact absurd rfl (h.lv hp)
      | some p => exact ⟨p, rfl⟩
    have hIm : (∀ j, -9223372036854775808 ≤ (gAt x.vs j).st.n) ∧ 0 ≤ x.rd := by
      have hph := hr.ph
      cases e : s0.ph with
      | fresh => rw [e] at hph; have := hph.1; omega
      | ask X => rw [e] at hph; exact ⟨hph.2.2.2.2.2.2.1, by rw [hr.rd]; have := hph.2.1; omega⟩
      | lay b U =>
        rw [e] at hph
        exact ⟨hph.2.2.2.2.2.1, by rw [hr.rd]; exact hph.2.2.2.2.2.2⟩
      | fin er st z => rw [e] at hph; have := hph.1; omega
    have hJ3 : ∀ k, J3 r ba bv k → Jx r g (some (ba, bv)) k := fun k e => by
      rcases e with e | e | e
      · exact .inl e
      · exact .inr (.inr ⟨_, rfl, .inl e⟩)
      · exact .inr (.inr ⟨_, rfl, .inr e⟩)
    refine (rTake r x g ba bv d w h.ref hIm.1 h63 hIm.2 hr.s0 hr.s1).mono ?_
    rintro e w' ⟨hk, hc⟩
    have hkJ : Kept (Jx r g (some (ba, bv))) w w' := hk.mono (fun k _ e => hJ3 k e)
    -- nothing is told, the rows stay where they are
    have nil : ∀ (x' : Rx) (o : RM × To), e = .returned (.slice none 0 0) → RfL w' r x' g ba bv → Rel (Bw H w I (Jx r g (some (ba, bv)))) o.1 x' → o.2 = toZ → RefO H w0 w I m r g (some (ba, bv)) s o e w' := fun x' o he hL hR ho => by
      obtain ⟨hW, hB⟩ := h.refm (LV' := some (ba, bv)) hk hJ3 hL (fun k e => .inl e) (fun _ => by simp)
      exact ⟨slZ, [], some (ba, bv), x', he, rdM_nil _, by simp, hW, hR.mono hB, ⟨by rw [ho]; rfl, fun e => by rw [ho] at e; exact absurd rfl e⟩, hkJ, fun k e => .inl e⟩
    have hzs := hr.zs
    have hph := hr.ph
    rcases hp with hp1 | hp2
    · cases es : s0.ph with
      | fresh => rw [es] at hph; have := hph.1; omega
      | ask X =>
        rw [es] at hph
        obtain ⟨h1, h2, h3, h4, h5, h6, h7, h8⟩ := hph
        rcases hc with ⟨hpl, he, hL⟩ | ⟨i, hpl, hi, hc⟩
        · have hno : plcB x d = false ∨ mayB X d.fr.id = false := by
            cases hb : plcB x d with
            | false => exact .inl rfl
            | true =>
              rcases plc_cases hzs hr.nd h4 hb hpl with ⟨_, hm⟩ | ⟨i, e, _⟩
              · exact .inr hm
              · omega
          rw [ask_no hr es hno]
          exact nil x (s0, toZ) he hL hr rfl
        · obtain ⟨hb, hi2, hv⟩ : plcB x d = true ∧ s0.zs[i]? = some d.fr.id ∧ X.v d.fr.id = none := by
            have hb : plcB x d = true := by
              rcases hpl with ⟨e, _⟩ | ⟨i', _, _, hb, _⟩
              · omega
              · exact hb
            rcases plc_cases hzs hr.nd h4 hb hpl with ⟨e, _⟩ | ⟨i', e, _, h1', h2'⟩
            · omega
            · obtain rfl : i = i' := by omega
              exact ⟨hb, h1', h2'⟩
          rw [hzs] at hc
          rcases hc with ⟨hcn, he, hL⟩ | ⟨_, hph2, _⟩ | ⟨hcn, _, f, al, nb, hs, hf, ⟨t, ba', bv', he, hO, hL, hba, hbv⟩, hz⟩
          · obtain ⟨e1, e2⟩ := ask_few hr es hb hi2 hv hBd h63 hcn
            rw [e1]
            exact nil _ _ he hL e2 rfl
          · omega
          · have hJ' : ∀ k, Jx r g (some (ba', bv')) k → Jx r g (some (ba, bv)) k ∨ w.heap.size ≤ k := fun k e => by
              rcases e with e | e | ⟨p, hp, e⟩
              · exact .inl (.inl e)
              · exact .inl (.inr (.inl e))
              · cases hp
                rcases e with rfl | rfl
                · rcases hba with q | q
                  · exact .inl (.inr (.inr ⟨_, rfl, .inl q⟩))
                  · exact .inr q
                · rcases hbv with q | q
                  · exact .inl (.inr (.inr ⟨_, rfl, .inr q⟩))
                  · exact .inr q
            obtain ⟨hW, hB⟩ := h.refm (LV' := some (ba', bv')) hk hJ3 hL hJ' (fun _ => by simp)
            rw [ask_more hr es hb hi2 hv hcn]
            obtain ⟨q1, q2⟩ := ask_second (B' := Bw H w' I (Jx r g (some (ba', bv')))) (nb := nb) hr es hb hi2 hv hBd hs hB (fun hw hz0 => by
              obtain ⟨hbx, hnb⟩ := hz hw hz0
              refine ⟨⟨fun q hq => ⟨nb, 0, rfl, ?_⟩, by simp, fun e => by cases e⟩, by show x.sz.toNat ≤ _; have := hr.s1; omega, fun _ k e => ?_⟩
              · rw [hbx.cell, Nat.zero_add, List.getElem?_toArray, u8L, List.getElem?_map]
                have : (List.replicate x.sz.toNat (0 : Int))[q]? = some 0 := by rw [List.getElem?_replicate, if_pos (by simpa using hq)]
                rw [this]; rfl
              · obtain ⟨ad, e1, rfl⟩ := e
                cases e1
                refine ⟨hbx.lt, fun f => ?_, fun f => ?_, hH _ hnb⟩
                · have := (h.ia nb f).2.1; omega
                · rcases f with f | f | ⟨p, hp, f⟩
                  · exact box_ne hbx hL.box (by decide) f
                  · exact Own.notBox hL.gr.own hbx (by decide) f
                  · cases hp
                    rcases f with f | f
                    · exact box_ne hbx hL.ba (by decide) f
                    · exact box_ne hbx hL.bv (by decide) f)
            refine ⟨t, _, some (ba', bv'), _, he, hO.rd, ?_, hW, q1, q2, hkJ, hJ'⟩
            rw [q2.eq, List.length_map]
            have hzl := h.zl
            rw [hzs] at hzl
            have : (setP s0 (s0.zs.filterMap (putS X d.fr.id (keepP s0 d z)).v)).2.ss.length ≤ s0.zs.length := by
              unfold setP layP
              repeat' split
              all_goals simp [toZ]
            omega
      | lay b U => rw [es] at hph; have := hph.1; omega
      | fin er st z => rw [es] at hph; have := hph.1; omega
    · cases es : s0.ph with
      | fresh => rw [es] at hph; have := hph.1; omega
      | ask X => rw [es] at hph; have := hph.1; omega
      | lay b U =>
        rw [es] at hph
        obtain ⟨h1, h4, h5, h6, h7, h8⟩ := hph
        rcases hc with ⟨hpl, he, hL⟩ | ⟨i, hpl, hi, hc⟩
        · have hno : plcB x d = false ∨ mayB U d.fr.id = false := by
            cases hb : plcB x d with
            | false => exact .inl rfl
            | true =>
              rcases plc_cases hzs hr.nd h4 hb hpl with ⟨_, hm⟩ | ⟨i, e, _⟩
              · exact .inr hm
              · omega
          rw [lay_no hr es hno]
          exact nil x (s0, toZ) he hL hr rfl
        · obtain ⟨hb, hi2, hv⟩ : plcB x d = true ∧ s0.zs[i]? = some d.fr.id ∧ U.v d.fr.id = none := by
            have hb : plcB x d = true := by
              rcases hpl with ⟨e, _⟩ | ⟨i', _, _, hb, _⟩
              · omega
              · exact hb
            rcases plc_cases hzs hr.nd h4 hb hpl with ⟨e, _⟩ | ⟨i', e, _, h1', h2'⟩
            · omega
            · obtain rfl : i = i' := by omega
              exact ⟨hb, h1', h2'⟩
          rw [hzs] at hc
          rcases hc with ⟨hcn, he, hL⟩ | ⟨hcn, hph2, he, hL⟩ | ⟨hcn, hph2, _⟩
          · obtain ⟨e1, e2⟩ := lay_few (z := z) hr es hb hi2 hv h63 hcn
            rw [e1]
            exact nil _ _ he hL e2 rfl
          · obtain ⟨e1, e2⟩ := lay_more (z := z) hr es hb hi2 hv hcn
            rw [e1]
            exact nil _ _ he hL e2 rfl
          · exact absurd h1 hph2
      | fin er st z => rw [es] at hph; have := hph.1; omega
  · have h1 : x.ph ≠ 1 := fun e => hp (.inl e)
    have h2 : x.ph ≠ 2 := fun e => hp (.inr e)
    obtain ⟨an, vv, hg⟩ := h.ref.gg
    rw [tak_not hr h1 h2]
    exact (rTake0 r x g an vv d w hg (by simpa using h1) (by simpa using h2)).mono fun e w' he => RefO.same h hr he.1 he.2
end

end Go.Proofs.Ythnecaejhnojfaa.Md
