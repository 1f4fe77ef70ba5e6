import Derived.Test.YtgiokkcdgoloaaaVd
import Derived.Test.YtgiokkcdgoloaaaUb
namespace Go.Proofs.Ytgiokkcdgoloaaa.Md
open Go.RowKit
set_option linter.unusedVariables false
set_option linter.unusedSimpArgs false
def N5 (w : World) (I : Nat → Prop) : Nat → Prop := fun k => I k ∧ ¬ ∃ cs, Box w k 5 cs
theorem N5.no {w w' : World} {I : Nat → Prop} (hk : Kept No w w') {k : Nat} (h : N5 w' I k) : N5 w I k := ⟨h.1, fun ⟨cs, hb⟩ => h.2 ⟨cs, hb.kept hk (fun f => f)⟩⟩
theorem Kept.five {w w' : World} {I : Nat → Prop} (hk : Kept (N5 w I) w w') : Kept I w w' := hk.mono (fun k _ e => e.1)
theorem Kept.box5 {w w' : World} {I : Nat → Prop} (hk : Kept (N5 w I) w w') {k : Nat} (h : ∃ cs, Box w k 5 cs) : ∃ cs, Box w' k 5 cs := boxKept h hk (fun f => f.2 h)
def MOut5 (w : World) (I : Nat → Prop) (m : Nat) (o : RM × To) (e : Ending) (w' : World) : Prop :=
  ∃ la lc qs I', e = .returned (.slice la qs.length lc) ∧ qs.map Qm.sv = o.2.ss ∧ Msgs w' w.heap.size la lc o.1.x ⟨o.2.k, o.2.st.n, o.2.st.c, o.2.z.length⟩ o.2.z qs ∧ Mch w' I' m o.1 ∧ (∀ k, I' k → (I k ∨ w.heap.size ≤ k) ∧ k < w'.heap.size) ∧ Kept (N5 w I) w w'
theorem MOut5.mk {w w' : World} {I : Nat → Prop} {m : Nat} {o : RM × To} {e : Ending} {la : Option Addr} {lc : Nat} {qs : List Qm} (he : e = .returned (.slice la qs.length lc)) (hq : qs.map Qm.sv = o.2.ss) (hM : Msgs w' w.heap.size la lc o.1.x ⟨o.2.k, o.2.st.n, o.2.st.c, o.2.z.length⟩ o.2.z qs) (hm : Mch w' (fun k => I k ∨ w.heap.size ≤ k) m o.1) (hk : Kept (N5 w I) w w') : MOut5 w I m o e w' :=
  ⟨la, lc, qs, _, he, hq, hM, hm.cut, fun k e => e, hk⟩
theorem MOut5.nil {w w' : World} {I : Nat → Prop} {m : Nat} {s : RM} {e : Ending} (he : e = .returned (.slice none 0 0)) (hm : Mch w' (fun k => I k ∨ w.heap.size ≤ k) m s) (hk : Kept (N5 w I) w w') : MOut5 w I m (s, toZ) e w' :=
  MOut5.mk (la := none) (lc := 0) (qs := []) he rfl ⟨Own.nil _ _ _ _, fun q h => (by cases h), List.Pairwise.nil, rfl⟩ hm hk
theorem MOut5.same {w w' : World} {I : Nat → Prop} {m : Nat} {s : RM} {e : Ending} (he : e = .returned (.slice none 0 0)) (hm : Mch w I m s) (hk : Kept No w w') : MOut5 w I m (s, toZ) e w' :=
  MOut5.nil he ((hm.no hk).wide (fun k e => .inl e)) hk.of_no
theorem MOut5.after {w wr w' : World} {I : Nat → Prop} {m : Nat} {o : RM × To} {e : Ending} (hk : Kept No w wr) (h : MOut5 wr I m o e w') : MOut5 w I m o e w' := by
  obtain ⟨la, lc, qs, I', he, hq, hMs, hm, hI, hk2⟩ := h
  have hs := hk.size
  exact ⟨la, lc, qs, I', he, hq, ⟨Own.lower hMs.row hs, fun q h => Own.lower (hMs.own q h) hs, hMs.ord, hMs.len⟩, hm, fun k e => ⟨(hI k e).1.imp id (fun h => by omega), (hI k e).2⟩, hk.of_no.then (hk2.mono (fun k _ e => e.no hk))⟩
theorem MOut5.form {w w' : World} {I : Nat → Prop} {m : Nat} {o : RM × To} {e : Ending} (h : MOut5 w I m o e w') : ∃ a l c, e = .returned (.slice a l c) := by
  obtain ⟨la, lc, qs, I', he, _⟩ := h
  exact ⟨_, _, _, he⟩
theorem begin_M5 {w : World} {I : Nat → Prop} {m : Nat} {s : RM} (h : Mch w I m s) : Calls Try.prog 82 #[.pointer (some ⟨m, 0, none⟩)] w (MOut5 w I m (begP s)) := by
  have h0 := h
  obtain ⟨⟨a, cap, t, v, hM, i1, i2, hP⟩, len⟩ := h
  unfold begP
  have hkI : ∀ k, Only m k → N5 w I k := fun k e => (show k = m from e) ▸ ⟨i1, fun ⟨cs, hb⟩ => box_ne hb hM.box (by decide) rfl⟩
  cases hp : s.ph with
  | fresh =>
    rw [hp] at hP
    obtain ⟨rfl, ai, av, rfl, hA⟩ := hP
    dsimp only
    by_cases hr : 1 ≤ s.rd ∧ s.rd ≤ 1099511627776
    · rw [if_pos hr]
      refine (begin_any m a cap s.x ai av w hM hr.1 hr.2 (by show s.zs.length ≤ _; omega)).mono ?_
      rintro e w' ⟨la, lc, qs, tb, bb, at', ct, rfl, hq, hMs, hM', hT, hB, hk⟩
      have hs := hk.size
      have hkI' : Kept (N5 w I) w w' := hk.mono (fun k _ e => hkI k e)
      refine MOut5.mk rfl hq hMs ⟨⟨a, cap, 182, _, hM', .inl i1, fun k e => .inl (i2 k e), rfl, hr.1, hr.2, ai, av, tb, bb, at', ct, _, rfl, (hA.kept5 (I' := fun k => I k ∨ w.heap.size ≤ k) hk (fun k e b => ⟨fun f => ?_, .inl e⟩)).of rfl rfl, hT, LkR.new _ _ _, fun k e => .inr (hB k e), uq_nd hM.nd⟩, len⟩ hkI'
      obtain ⟨cs, hb⟩ := b
      exact box_ne hb hM.box (by decide) f
    · rw [if_neg hr]
      refine (mBegin_w m a cap s.x ai av w hM hr).mono ?_
      rintro e w' ⟨rfl, hM', hk⟩
      exact MOut5.nil rfl ⟨⟨a, cap, 177, _, hM', .inl i1, fun k e => .inl (i2 k e), rfl, none, 0, rfl, by simp, fun i hi => by simp at hi, fun k e => absurd e At.none⟩, len⟩ (hk.mono (fun k _ e => hkI k e))
  | ask X =>
    rw [hp] at hP
    obtain ⟨rfl, _, _, ai, av, tb, bb, at', ct, Y, rfl, _⟩ := hP
    exact (mBegin_A m a cap s.x _ _ w hM).mono fun e w' he => MOut5.same he.1 h0 he.2
  | lay b U =>
    rw [hp] at hP
    obtain ⟨rfl, pa, pk, da, dc, ub, ubb, ua, ut, rfl, _⟩ := hP
    exact (mBegin_L m a cap s.x _ _ _ _ _ _ _ _ _ _ _ _ w hM).mono fun e w' he => MOut5.same he.1 h0 he.2
  | fin er st z =>
    rw [hp] at hP
    obtain ⟨rfl, da, dc, rfl, _⟩ := hP
    exact (mBegin_E m a cap s.x _ _ _ _ _ _ w hM).mono fun e w' he => MOut5.same he.1 h0 he.2
theorem tick_M5 {w : World} {I : Nat → Prop} {m : Nat} {s : RM} (h : Mch w I m s) : Calls Try.prog 86 #[.pointer (some ⟨m, 0, none⟩)] w (MOut5 w I m (s, tikP s)) := by
  have h0 := h
  obtain ⟨⟨a, cap, t, v, hM, i1, i2, hP⟩, len⟩ := h
  unfold tikP
  cases hp : s.ph with
  | fresh =>
    rw [hp] at hP
    obtain ⟨rfl, ai, av, rfl, hA⟩ := hP
    exact (mTick_0 m a cap s.x _ w hM).mono fun e w' he => MOut5.same he.1 h0 he.2
  | ask X =>
    rw [hp] at hP
    obtain ⟨rfl, r0, r1, ai, av, tb, bb, at', ct, Y, rfl, hA, hT, hL, hI, hg⟩ := hP
    refine (machTickA_any m a cap s.x ai av tb bb ct at' Y w hM hT (by rw [hL.g, hg]; omega)).mono ?_
    rintro e w' ⟨la, lc, qs, rfl, hq, hMs, hk⟩
    exact MOut5.mk rfl (by rw [hq]; exact miss2 hL.g hL.nn) hMs ((h0.no hk).wide (fun k e => .inl e)) hk.of_no
  | lay b U =>
    rw [hp] at hP
    obtain ⟨rfl, pa, pk, da, dc, ub, ubb, ua, ut, rfl, hz, hb, hpI, hd, hdI, hT, hI, hg⟩ := hP
    refine (machTickL_any m a cap s.x b.st.n b.st.c pa b.z.length pk 0 b.st.n b.st.c da (resP s b).length dc ub ubb ut ua U b.z w hM hT (by rw [hg]; omega) rfl (by omega) hb.bytes).mono ?_
    rintro e w' ⟨la, lc, qs, rfl, hq, hMs, hk⟩
    exact MOut5.mk rfl hq hMs ((h0.no hk).wide (fun k e => .inl e)) hk.of_no
  | fin er st z =>
    rw [hp] at hP
    obtain ⟨rfl, da, dc, rfl, _⟩ := hP
    exact (machTickE_any m a cap s.x _ _ _ _ _ _ w hM).mono fun e w' he => MOut5.same he.1 h0 he.2
theorem takeL_M5 {w : World} {I : Nat → Prop} {m : Nat} {s : RM} (h : Mch w I m s) (d : Mg) (b : Bp) (U : TS Unit) (hp : s.ph = .lay b U) (z : List Int) : Calls Try.prog 85 #[.pointer (some ⟨m, 0, none⟩), .agg (Mg.cells d)] w (MOut5 w I m (takP s d z)) := by
  have h0 := h
  obtain ⟨⟨a, cap, t, v, hM, i1, i2, hP⟩, len⟩ := h
  rw [hp] at hP
  obtain ⟨rfl, pa, pk, da, dc, ub, ubb, ua, ut, rfl, hz, hb, hpI, hd, hdI, hT, hI, hg⟩ := hP
  refine machTakeL_any m a cap s.x _ _ (mdOf d) w _ hM (mdOk d) (fun w => meth_takeL _ _ _ _ _ _ _ _ _ _ _ _ w) (fun wr hk => ?_)
  have key : Calls Try.prog 117 #[layV b.st.n b.st.c pa b.z.length pk 0 b.st.n b.st.c da (resP s b).length dc ub, .pointer (some ⟨m, 0, none⟩), .agg (mdOf d).cells] wr (MOut5 wr I m (takP s d z)) := by
    have hM' := hM.no hk
    have hT' := hT.no hk
    have h1 := h0.no hk
    have hoff := off_mb hT' hM' (by decide) (by decide)
    have h5 : ∀ k, (∃ cs, Box wr k 5 cs) → ¬ (fun k => k = m ∨ Tb2 ub ubb k) k := fun k hb e => by
      rcases e with e | e
      · obtain ⟨cs, hb⟩ := hb; exact box_ne hb hM'.box (by decide) e
      · exact off_tal hT' hb (by decide) e
    have hpr : OwnB wr 0 pa pk b.z := Own.kept hb hk (fun _ _ e => e)
    have hdr : Bytes wr da (resP s b) := Nums.kept hd hk (fun _ _ _ e => e)
    have hdb : ∀ k, At da k → I k ∧ ∃ cs, Box wr k 5 cs := fun k e => ⟨(hdI k e).1, boxKept (hdI k e).2 hk (fun e => e)⟩
    have hmI : ∀ k, (k = m ∨ Tb2 ub ubb k) → N5 wr I k := fun k e => by
      refine ⟨?_, fun hb => h5 k hb e⟩
      rcases e with rfl | e | e
      · exact i1
      · exact hI k (.inl e)
      · exact hI k (.inr (.inl e))
    unfold takP
    rw [hp]
    dsimp only
    unfold hitP
    cases hh : hitB s.x 12 (mdOf d) with
    | false =>
      rw [if_neg (by simp)]
      exact (takeL_pass m a cap s.x 195 _ _ _ _ _ _ _ _ _ _ _ _ ub ubb ut ua U (mdOf d) wr hM' hT' (mdOk d) hh).mono fun e w' he => MOut5.same he.1 h1 he.2
    | true =>
      rw [if_pos rfl]
      cases ht : takeB U d.fr.id with
      | false =>
        rw [if_neg (by simp)]
        refine (takeL_no m a cap s.x 195 _ b.st.n b.st.c pa b.z.length pk 0 b.st.n b.st.c da (resP s b).length dc ub ubb ut ua U (mdOf d) wr hM' hT' (mdOk d) hh ht).mono ?_
        rintro e w' ⟨rfl, hT2, hk2⟩
        refine MOut5.nil rfl ⟨⟨a, cap, 195, _, hM'.kept hk2 hoff, .inl i1, fun k e => .inl (i2 k e), rfl, pa, pk, da, dc, ub, ubb, ua, ut, rfl, hz, Own.kept hpr hk2 (fun k e f => h5 k (OwnB.five hpr e) (.inr f)), fun k e => .inl (hpI k e), Nums.kept hdr hk2 (fun k off e f => h5 k (hdb k ⟨_, e, rfl⟩).2 (.inr f)), fun k e => ⟨.inl (hdI k e).1, boxKept (hdb k e).2 hk2 (fun f => h5 k (hdb k e).2 (.inr f))⟩, hT2, fun k e => .inl (hI k e), by rw [takeS_g]; exact hg⟩, len⟩ (hk2.mono (fun k _ e => hmI k (.inr e)))
      | true =>
        rw [if_pos rfl]
        refine (takeL_end m a cap s.x 195 _ b.st.n b.st.c pa b.z.length pk 0 b.st.n b.st.c da (resP s b).length dc ub ubb ut ua U (mdOf d) wr hM' hT' (mdOk d) hh ht hoff).mono ?_
        rintro e w' ⟨rfl, hM2, hT2, hk2⟩
        have hrl : (resP s b).length ≤ 140737488351232 := by
          unfold resP
          split
          · simp
          · exact hz
        exact MOut5.nil rfl ⟨⟨a, cap, 177, _, hM2, .inl i1, fun k e => .inl (i2 k e), rfl, da, dc, rfl, hrl, Nums.kept hdr hk2 (fun k off e f => h5 k (hdb k ⟨_, e, rfl⟩).2 f), fun k e => ⟨.inl (hdI k e).1, boxKept (hdb k e).2 hk2 (fun f => h5 k (hdb k e).2 f)⟩⟩, len⟩ (hk2.mono (fun k _ e => hmI k e))
  exact key.mono fun e w' he => ⟨he.form, he.after hk⟩
theorem takeW_M5 {w : World} {I : Nat → Prop} {m : Nat} {s : RM} (h : Mch w I m s) (d : Mg) (X : TS Bp) (hp : s.ph = .ask X) (z0 : List Int) (ha : s.aim = .wr z0) (z : List Int) (h63 : -9223372036854775808 ≤ d.st.n) : Calls Try.prog 85 #[.pointer (some ⟨m, 0, none⟩), .agg (Mg.cells d)] w (MOut5 w I m (takP s d z)) := by
  have h0 := h
  obtain ⟨⟨a, cap, t, v, hM, i1, i2, hP⟩, len⟩ := h
  rw [hp] at hP
  obtain ⟨rfl, r0, r1, ai, av, tb, bb, at', ct, Y, rfl, hA, hT, hL, hI, hg⟩ := hP
  have hA0 := hA
  unfold AimAt at hA
  rw [ha] at hA
  obtain ⟨rfl, hzl, da, dk, rfl, hO, hdI⟩ := hA
  refine machTakeA_any m a cap s.x _ _ (mdOf d) w _ hM (mdOk d) (fun w => meth_takeA _ _ w) (fun wr hk => ?_)
  obtain ⟨R, hR⟩ : ∃ R : Bq → Sq, R = fun b => if 1099511627776 ≤ (bestP ((gotL (takeS Y d.fr.id b)).map Prod.snd)).n then ⟨0, 0, none, 0, 0, 4, 0, 0, none, 0, 0, true⟩ else ⟨(bestP ((gotL (takeS Y d.fr.id b)).map Prod.snd)).n + 1, s.cl, da, z0.length, dk, 0, (bestP ((gotL (takeS Y d.fr.id b)).map Prod.snd)).n + 1, s.cl, none, 0, 0, false⟩ := ⟨_, rfl⟩
  have hM' := hM.no hk
  have hT' := hT.no hk
  have h1 := h0.no hk
  have hL' : Lk wr I X Y := hL.kept hk (fun k e _ => ⟨fun f => f, e⟩)
  have hO' : OwnB wr 0 da dk z0 := Own.kept hO hk (fun _ _ e => e)
  have hA' : AimAt wr I s 118 _ := hA0.kept hk (fun k e _ => ⟨fun f => f, e⟩)
  have hoff := off_mb hT' hM' (by decide) (by decide)
  have h5 : ∀ k, (∃ cs, Box wr k 5 cs) → ¬ (k = m ∨ Tb2 tb bb k) := fun k hb e => by
    rcases e with e | e
    · obtain ⟨cs, hb⟩ := hb; exact box_ne hb hM'.box (by decide) e
    · exact off_tal hT' hb (by decide) e
  have hmI : ∀ k, (k = m ∨ Tb2 tb bb k) → N5 wr I k := fun k e => by
    refine ⟨?_, fun hb => h5 k hb e⟩
    rcases e with rfl | e | e
    · exact i1
    · exact hI k (.inl e)
    · exact hI k (.inr (.inl e))
  have hyl : Y.g.length ≤ 1000 := by rw [hL.g, hg]; exact len
  have hkp : keepP s d z = ⟨d.st, []⟩ := by unfold keepP; rw [ha]
  have key : Calls Try.prog 105 #[.agg #[.iface 118 (.agg #[.int .i64 s.cl, .slice da z0.length dk]), .pointer (some ⟨tb, 0, none⟩)], .pointer (some ⟨m, 0, none⟩), .agg (Mg.cells d)] wr (MOut5 wr I m (takP s d z)) := by
    refine (takeA_W m a cap s.x s.cl da z0.length dk tb bb ct at' Y d d.st.n d.st.c [] R (fun _ => z0) wr hM' hT' (by show s.zs.length ≤ 1000; exact len) hyl (by show 0 ≤ s.rd; omega) r1 (fun _ wr' _ => keepW_any s.cl da z0.length dk (mdOf d) wr') ?_ ?_ ?_ hoff).mono ?_
    · intro b hbn hbc wr'
      rw [hR]
      dsimp only
      have hbest : -9223372036854775808 ≤ (bestP ((gotL (takeS Y d.fr.id b)).map Prod.snd)).n := by
        have hmem : ∀ p ∈ (gotL (takeS Y d.fr.id b)).map Prod.snd, -9223372036854775808 ≤ p.n := fun p hp' => by
          obtain ⟨n, hn⟩ := got_mem hp'
          rw [takeS_v] at hn
          split at hn
          · cases hn; rw [hbn]; exact h63
          · cases hx : X.v n with
            | none => rw [hL.no n hx] at hn; cases hn
            | some q => obtain ⟨k, hk1, hk2⟩ := hL.so n q hx; rw [hk1] at hn; cases hn; rw [hk2.1]; exact hk2.2.2.2.2.1
        unfold bestP Go.Proofs.Ytgiokkcdgoloaaa.pAt
        cases hx : ((gotL (takeS Y d.fr.id b)).map Prod.snd)[bi (ltP ((gotL (takeS Y d.fr.id b)).map Prod.snd)) (((gotL (takeS Y d.fr.id b)).map Prod.snd).length - 1)]? with
        | none => show _ ≤ (default : Bq).n; exact (by decide)
        | some p => exact hmem p (List.mem_of_getElem? hx)
      generalize bestP ((gotL (takeS Y d.fr.id b)).map Prod.snd) = G at hbest ⊢
      generalize (!((gotL (takeS Y d.fr.id b)).map Prod.snd).any (otherB G)) = al
      split
      · rename_i hc; exact settleX_any s.cl da z0.length dk G.n G.c G.a G.l G.k al wr' hc
      · rename_i hc; exact settleW_any s.cl da z0.length dk G.n G.c G.a G.l G.k al wr' (by omega) hbest
    · intro ka kk _ he
      rw [hR] at he ⊢
      dsimp only at he ⊢
      split at he
      · cases he
      · rename_i hc; rw [if_neg hc]; exact ⟨rfl, by show z0.length ≤ _; omega⟩
    · intro ka kk wr' hk' hO2 _ he
      rw [hR] at he ⊢
      dsimp only at he ⊢
      split at he
      · cases he
      · rename_i hc
        rw [if_neg hc]
        exact ⟨OwnB.bytes (base := 0) (cap := dk) (Own.kept hO' hk' (fun k e f => h5 k (OwnB.five hO' e) (.inr f))), fun e => by
          obtain ⟨cs, hb⟩ := OwnB.five hO' e
          exact box_ne hb hM'.box (by decide) rfl⟩
    · intro e w' ho
      unfold takP
      rw [hp]
      dsimp only
      unfold hitP
      rcases ho with ⟨hh, rfl, hk2⟩ | ⟨hh, ka, kk, b, hb, hO2, hk2, hT2, hcase⟩
      · rw [hh, if_neg (by simp)]
        exact MOut5.same rfl h1 hk2
      · rw [hh, if_pos rfl, hkp]
        have hs := hk2.size
        have hkI : Kept (N5 wr I) wr w' := hk2.mono (fun k _ e => hmI k e)
        have hbk : Bk2 w' (fun k => I k ∨ wr.heap.size ≤ k) ⟨d.st, []⟩ b := by
          rw [hb]
          exact ⟨rfl, rfl, rfl, by simp, h63, Own.lower hO2 (Nat.zero_le _), fun j e => .inr (Own.base hO2 e)⟩
        have hL2 : Lk w' (fun k => I k ∨ wr.heap.size ≤ k) X Y := hL'.kept5 hk2 (fun k e hb => ⟨h5 k hb, .inl e⟩)
        have hL3 := hL2.take hbk d.fr.id
        have hA2 : AimAt w' (fun k => I k ∨ wr.heap.size ≤ k) s 118 _ := hA'.kept5 hk2 (fun k e hb => ⟨h5 k hb, .inl e⟩)
        have hO3 : OwnB w' 0 da dk z0 := Own.kept hO' hk2 (fun k e f => h5 k (OwnB.five hO' e) f)
        rw [← takeB2 hL.g hL.need hL.nn]
        rcases hcase with ⟨ht, rfl, hM2⟩ | ⟨ht, he, rfl, hM2⟩ | ⟨ht, he, hrd, rfl, hM2⟩ | ⟨ht, he, hrd, ub, ubb, ut, ua, la, lc, qs, rfl, hq, hMs, hM2, hU, hUb⟩
        · rw [ht, if_neg (by simp)]
          exact MOut5.nil rfl (ask_state len r0 r1 i1 i2 hI hg hM2 hA2 hT2 hL3) hkI
        all_goals
          rw [ht, if_pos rfl]
          have hcn : 1 ≤ cnt (takeS Y d.fr.id b) := take_cnt hT.nd ht
          have hbe := best2 bk_nc hL3.got (got_pos hL3 hcn)
          unfold setP
          rw [ha]
          dsimp only
          rw [hR] at he
          dsimp only at he
          rw [hbe.1] at he
        · split at he
          · rename_i hc
            rw [hR] at hM2
            dsimp only at hM2
            rw [hbe.1, if_pos hc] at hM2
            rw [if_pos hc]
            exact MOut5.nil rfl ⟨⟨a, cap, 177, _, hM2, .inl i1, fun k e => .inl (i2 k e), rfl, none, 0, rfl, by simp, fun i hi => by simp at hi, fun k e => absurd e At.none⟩, len⟩ hkI
          · cases he
        · split at he
          · cases he
          · rename_i hc
            rw [if_neg hc]
            unfold layP
            rw [if_pos (show s.rd = 1099511627776 from hrd)]
            exact MOut5.nil rfl ⟨⟨a, cap, 177, _, hM2, .inl i1, fun k e => .inl (i2 k e), rfl, none, 0, rfl, by simp, fun i hi => by simp at hi, fun k e => absurd e At.none⟩, len⟩ hkI
        · split at he
          · cases he
          · rename_i hc
            rw [hR] at hM2
            dsimp only at hM2
            rw [hbe.1, if_neg hc] at hM2
            rw [if_neg hc]
            unfold layP
            rw [if_neg (show ¬ s.rd = 1099511627776 from hrd)]
            rw [hR] at hMs
            dsimp only at hMs
            rw [hbe.1, if_neg hc] at hMs
            refine MOut5.mk rfl hq hMs ⟨⟨a, cap, 195, _, hM2, .inl i1, fun k e => .inl (i2 k e), rfl, da, dk, none, 0, ub, ubb, ua, ut, ?_, hzl, hO3, fun k e => .inl (hdI k e), ?_, fun k e => absurd e At.none, hU, fun k e => .inr (hUb k e), uq_nd hM.nd⟩, len⟩ hkI
            · simp [resP, ha]
            · simp [resP, ha]; exact fun i hi => by simp at hi
  exact key.mono fun e w' he => ⟨he.form, he.after hk⟩
theorem takeR_M5 {w : World} {I : Nat → Prop} {m : Nat} {s : RM} (h : Mch w I m s) (d : Mg) (X : TS Bp) (hp : s.ph = .ask X) (n0 : Nat) (ha : s.aim = .rd n0) (z : List Int) (hbz : RdB w d.bl z) (hbl : d.bl.l ≤ 140737488351232) (h63 : -9223372036854775808 ≤ d.st.n) : Calls Try.prog 85 #[.pointer (some ⟨m, 0, none⟩), .agg (Mg.cells d)] w (MOut5 w I m (takP s d z)) := by
  have h0 := h
  obtain ⟨⟨a, cap, t, v, hM, i1, i2, hP⟩, len⟩ := h
  rw [hp] at hP
  obtain ⟨rfl, r0, r1, ai, av, tb, bb, at', ct, Y, rfl, hA, hT, hL, hI, hg⟩ := hP
  have hA0 := hA
  unfold AimAt at hA
  rw [ha] at hA
  obtain ⟨rfl, hn0, rfl⟩ := hA
  refine machTakeA_any m a cap s.x _ _ (mdOf d) w _ hM (mdOk d) (fun w => meth_takeA _ _ w) (fun wr hk => ?_)
  obtain ⟨kp, hkp⟩ : ∃ kp, kp = keepP s d z := ⟨_, rfl⟩
  have hkl : kp.z.length ≤ 140737488351232 ∧ -9223372036854775808 ≤ kp.st.n := by
    rw [hkp]
    unfold keepP
    rw [ha]
    dsimp only
    split
    · exact ⟨by simp; omega, show (-9223372036854775808 : Int) ≤ 0 by decide⟩
    · exact ⟨by rw [hbz.len]; exact hbl, h63⟩
  obtain ⟨R, hR⟩ : ∃ R : Bq → Sq, R = fun b => ⟨(bestP ((gotL (takeS Y d.fr.id b)).map Prod.snd)).n, (bestP ((gotL (takeS Y d.fr.id b)).map Prod.snd)).c, (bestP ((gotL (takeS Y d.fr.id b)).map Prod.snd)).a, (bestP ((gotL (takeS Y d.fr.id b)).map Prod.snd)).l, (bestP ((gotL (takeS Y d.fr.id b)).map Prod.snd)).k, 0, (bestP ((gotL (takeS Y d.fr.id b)).map Prod.snd)).n, (bestP ((gotL (takeS Y d.fr.id b)).map Prod.snd)).c, (bestP ((gotL (takeS Y d.fr.id b)).map Prod.snd)).a, (bestP ((gotL (takeS Y d.fr.id b)).map Prod.snd)).l, (bestP ((gotL (takeS Y d.fr.id b)).map Prod.snd)).k, !((gotL (takeS Y d.fr.id b)).map Prod.snd).any (otherB (bestP ((gotL (takeS Y d.fr.id b)).map Prod.snd)))⟩ := ⟨_, rfl⟩
  have hM' := hM.no hk
  have hT' := hT.no hk
  have h1 := h0.no hk
  have hL' : Lk wr I X Y := hL.kept hk (fun k e _ => ⟨fun f => f, e⟩)
  have hA' : AimAt wr I s 120 _ := hA0.kept hk (fun k e _ => ⟨fun f => f, e⟩)
  have hoff := off_mb hT' hM' (by decide) (by decide)
  have h5 : ∀ k, (∃ cs, Box wr k 5 cs) → ¬ (k = m ∨ Tb2 tb bb k) := fun k hb e => by
    rcases e with e | e
    · obtain ⟨cs, hb⟩ := hb; exact box_ne hb hM'.box (by decide) e
    · exact off_tal hT' hb (by decide) e
  have hmI : ∀ k, (k = m ∨ Tb2 tb bb k) → N5 wr I k := fun k e => by
    refine ⟨?_, fun hb => h5 k hb e⟩
    rcases e with rfl | e | e
    · exact i1
    · exact hI k (.inl e)
    · exact hI k (.inr (.inl e))
  have hyl : Y.g.length ≤ 1000 := by rw [hL.g, hg]; exact len
  have hpure : ∀ ka kk, LkR (fun b k => k.n = b.st.n ∧ k.c = b.st.c ∧ k.l = b.z.length ∧ b.z.length ≤ 140737488351232) (takeS X d.fr.id kp) (takeS Y d.fr.id ⟨kp.st.n, kp.st.c, ka, kp.z.length, kk⟩) := fun ka kk =>
    (hL.mono (fun b k h => ⟨h.1, h.2.1, h.2.2.1, h.2.2.2.1⟩)).take (R := fun b k => k.n = b.st.n ∧ k.c = b.st.c ∧ k.l = b.z.length ∧ b.z.length ≤ 140737488351232) ⟨rfl, rfl, rfl, hkl.1⟩ d.fr.id
  have key : Calls Try.prog 105 #[.agg #[.iface 120 (.agg #[.int .i64 (n0 : Int)]), .pointer (some ⟨tb, 0, none⟩)], .pointer (some ⟨m, 0, none⟩), .agg (Mg.cells d)] wr (MOut5 wr I m (takP s d z)) := by
    refine (takeA_R m a cap s.x (n0 : Int) tb bb ct at' Y d kp.st.n kp.st.c kp.z R (fun _ => (bestB ((gotL (takeS X d.fr.id kp)).map Prod.snd)).z) wr hM' hT' (by show s.zs.length ≤ 1000; exact len) hyl (by show 0 ≤ s.rd; omega) r1 ?_ ?_ ?_ ?_ hoff).mono ?_
    · intro _ wr' hk'
      rw [hkp]
      unfold keepP
      rw [ha]
      dsimp only
      split
      · rename_i hc
        have := keepR0_any (n0 : Int) (mdOf d) wr' (by omega) (by omega) hc.1 hc.2
        rw [show ((n0 : Int)).toNat = n0 by simp] at this
        exact this
      · rename_i hc
        exact keepR1_any (n0 : Int) (mdOf d) z wr' hc hbz.len (by show d.bl.l ≤ _; omega) (Nums.kept (hbz.no hk).row hk' (fun _ _ _ e => e))
    · intro b hbn hbc wr'
      rw [hR]
      dsimp only
      generalize bestP ((gotL (takeS Y d.fr.id b)).map Prod.snd) = G
      exact settleR_any (n0 : Int) G.n G.c G.a G.l G.k _ wr'
    · intro ka kk ht he
      rw [hR]
      dsimp only
      have hL3 := hpure ka kk
      have hbe := best2 (fun b k h => ⟨h.1, h.2.1⟩) hL3.got (got_pos hL3 (take_cnt hT.nd ht))
      exact ⟨hbe.2.2.1.symm, by rw [hbe.2.2.1]; have := hbe.2.2.2; omega⟩
    · intro ka kk wr' hk' hO2 ht he
      rw [hR]
      dsimp only
      have hL2 : Lk wr' (fun k => I k ∨ wr.heap.size ≤ k) X Y := hL'.kept5 hk' (fun k e hb => ⟨fun f => h5 k hb (.inr f), .inl e⟩)
      have hL3 := hL2.take (b := kp) (k := ⟨kp.st.n, kp.st.c, ka, kp.z.length, kk⟩) ⟨rfl, rfl, rfl, hkl.1, hkl.2, Own.lower hO2 (Nat.zero_le _), fun j e => .inr (Own.base hO2 e)⟩ d.fr.id
      have hbe := best2 bk_nc hL3.got (got_pos hL3 (take_cnt hT.nd ht))
      refine ⟨OwnB.bytes hbe.2.2.2.2.2.1, fun e => ?_⟩
      obtain ⟨cs, hb⟩ := OwnB.five hbe.2.2.2.2.2.1 e
      exact box_ne hb (hM'.kept hk' hoff).box (by decide) rfl
    · intro e w' ho
      unfold takP
      rw [hp]
      dsimp only
      unfold hitP
      rcases ho with ⟨hh, rfl, hk2⟩ | ⟨hh, ka, kk, b, hb, hO2, hk2, hT2, hcase⟩
      · rw [hh, if_neg (by simp)]
        exact MOut5.same rfl h1 hk2
      · rw [hh, if_pos rfl, ← hkp]
        have hs := hk2.size
        have hkI : Kept (N5 wr I) wr w' := hk2.mono (fun k _ e => hmI k e)
        have hbk : Bk2 w' (fun k => I k ∨ wr.heap.size ≤ k) kp b := by
          rw [hb]
          exact ⟨rfl, rfl, rfl, hkl.1, hkl.2, Own.lower hO2 (Nat.zero_le _), fun j e => .inr (Own.base hO2 e)⟩
        have hL2 : Lk w' (fun k => I k ∨ wr.heap.size ≤ k) X Y := hL'.kept5 hk2 (fun k e hb => ⟨h5 k hb, .inl e⟩)
        have hL3 := hL2.take hbk d.fr.id
        have hA2 : AimAt w' (fun k => I k ∨ wr.heap.size ≤ k) s 120 _ := hA'.kept5 hk2 (fun k e hb => ⟨h5 k hb, .inl e⟩)
        rw [← takeB2 hL.g hL.need hL.nn]
        rcases hcase with ⟨ht, rfl, hM2⟩ | ⟨ht, he, rfl, hM2⟩ | ⟨ht, he, hrd, rfl, hM2⟩ | ⟨ht, he, hrd, ub, ubb, ut, ua, la, lc, qs, rfl, hq, hMs, hM2, hU, hUb⟩
        · rw [ht, if_neg (by simp)]
          exact MOut5.nil rfl (ask_state len r0 r1 i1 i2 hI hg hM2 hA2 hT2 hL3) hkI
        all_goals
          rw [ht, if_pos rfl]
          have hcn : 1 ≤ cnt (takeS Y d.fr.id b) := take_cnt hT.nd ht
          have hbe := best2 bk_nc hL3.got (got_pos hL3 hcn)
          have han := any2 bk_nc hL3.got (got_pos hL3 hcn)
          unfold setP
          rw [ha]
          dsimp only
          rw [hR] at he
          dsimp only at he
          rw [han] at he
        · rw [if_neg (by simpa using he)]
          rw [hR] at hM2
          dsimp only at hM2
          rw [hbe.1, hbe.2.1, hbe.2.2.1] at hM2
          exact MOut5.nil rfl ⟨⟨a, cap, 177, _, hM2, .inl i1, fun k e => .inl (i2 k e), rfl, _, _, rfl, hbe.2.2.2.1, OwnB.bytes hbe.2.2.2.2.2.1, fun k e => ⟨hbe.2.2.2.2.2.2 k e, OwnB.five hbe.2.2.2.2.2.1 e⟩⟩, len⟩ hkI
        · rw [if_pos (by simpa using he)]
          unfold layP
          rw [if_pos (show s.rd = 1099511627776 from hrd)]
          exact MOut5.nil rfl ⟨⟨a, cap, 177, _, hM2, .inl i1, fun k e => .inl (i2 k e), rfl, none, 0, rfl, by simp, fun i hi => by simp at hi, fun k e => absurd e At.none⟩, len⟩ hkI
        · rw [if_pos (by simpa using he)]
          unfold layP
          rw [if_neg (show ¬ s.rd = 1099511627776 from hrd)]
          rw [hR] at hMs hM2
          dsimp only at hMs hM2
          rw [hbe.1, hbe.2.1, hbe.2.2.1] at hMs hM2
          have hre : resP { s with rd := s.rd + 1, ph := .lay (bestB ((gotL (takeS X d.fr.id kp)).map Prod.snd)) (tNew Unit s.zs s.need) } (bestB ((gotL (takeS X d.fr.id kp)).map Prod.snd)) = (bestB ((gotL (takeS X d.fr.id kp)).map Prod.snd)).z := by simp [resP, ha]
          refine MOut5.mk rfl hq hMs ⟨⟨a, cap, 195, _, hM2, .inl i1, fun k e => .inl (i2 k e), rfl, _, _, _, _, ub, ubb, ua, ut, (by rw [hre]), hbe.2.2.2.1, hbe.2.2.2.2.2.1, hbe.2.2.2.2.2.2, (by rw [hre]; exact OwnB.bytes hbe.2.2.2.2.2.1), fun k e => ⟨hbe.2.2.2.2.2.2 k e, OwnB.five hbe.2.2.2.2.2.1 e⟩, hU, fun k e => .inr (hUb k e), uq_nd hM.nd⟩, len⟩ hkI
  exact key.mono fun e w' he => ⟨he.form, he.after hk⟩
theorem take_M5 {w : World} {I : Nat → Prop} {m : Nat} {s : RM} (h : Mch w I m s) (d : Mg) (z : List Int) (hbz : RdB w d.bl z) (hbl : d.bl.l ≤ 140737488351232) (h63 : -9223372036854775808 ≤ d.st.n) : Calls Try.prog 85 #[.pointer (some ⟨m, 0, none⟩), .agg (Mg.cells d)] w (MOut5 w I m (takP s d z)) := by
  cases hp : s.ph with
  | fresh =>
    have h0 := h
    obtain ⟨⟨a, cap, t, v, hM, i1, i2, hP⟩, len⟩ := h
    rw [hp] at hP
    obtain ⟨rfl, ai, av, rfl, hA⟩ := hP
    have e : takP s d z = (s, toZ) := by unfold takP; rw [hp]
    rw [e]
    exact (mTake_0 m a cap s.x _ d w hM).mono fun e w' he => MOut5.same he.1 h0 he.2
  | ask X =>
    cases ha : s.aim with
    | wr z0 => exact takeW_M5 h d X hp z0 ha z h63
    | rd n0 => exact takeR_M5 h d X hp n0 ha z hbz hbl h63
  | lay b U => exact takeL_M5 h d b U hp z
  | fin er st z' =>
    have h0 := h
    obtain ⟨⟨a, cap, t, v, hM, i1, i2, hP⟩, len⟩ := h
    rw [hp] at hP
    obtain ⟨rfl, da, dc, rfl, _⟩ := hP
    have e : takP s d z = (s, toZ) := by unfold takP; rw [hp]
    rw [e]
    exact (mTake_E m a cap s.x _ _ _ _ _ _ d w hM).mono fun e w' he => MOut5.same he.1 h0 he.2
theorem MOut5.old {w w' : World} {I : Nat → Prop} {m : Nat} {o : RM × To} {e : Ending} (h : MOut5 w I m o e w') : MOut w I m o e w' := by
  obtain ⟨la, lc, qs, I', he, hq, hM, hm, hI, hk⟩ := h
  exact ⟨la, lc, qs, I', he, hq, hM, hm, hI, Kept.five hk⟩
end Go.Proofs.Ytgiokkcdgoloaaa.Md
namespace Go.Proofs.Ytgiokkcdgoloaaa.Md
open Go.RowKit
set_option linter.unusedVariables false
set_option linter.unusedSimpArgs false
structure MgOk (w0 w : World) (d : Mg) (zs : List Int) (es : List En) (ls : List La) (cs : List Cm) : Prop where
  inn : MgIn w d zs es ls cs
  off : zs ≠ [] → ∀ k, At d.bl.a k → k < w0.heap.size
  offE : es ≠ [] → ∀ k, At d.bk.e.a k → k < w0.heap.size
  offL : ls ≠ [] → ∀ k, At d.bk.l.a k → k < w0.heap.size
  offC : cs ≠ [] → ∀ k, At d.cm.a k → k < w0.heap.size
  h63 : -9223372036854775808 ≤ d.st.n
section
variable {w0 w w' : World} {d d' : Mg} {zs : List Int} {es : List En} {ls : List La} {cs : List Cm} {S : Nat → Prop} {base gb : Nat} {E L C : Sl}
theorem MgOk.kept (h : MgOk w0 w d zs es ls cs) (hk : Kept S w w') (hS : ∀ k, k < w0.heap.size → ¬ S k) : MgOk w0 w' d zs es ls cs :=
  ⟨⟨h.inn.b.kept0 hk (fun hne k e => hS k (h.off hne k e)), ⟨RowsAt.kept0 h.inn.e.row hk (fun hne k e => hS k (h.offE (by rintro rfl; simp at hne) k e)), h.inn.e.len, h.inn.e.cap⟩, ⟨RowsAt.kept0 h.inn.l.row hk (fun hne k e => hS k (h.offL (by rintro rfl; simp at hne) k e)), h.inn.l.len, h.inn.l.cap⟩, ⟨RowsAt.kept0 h.inn.c.row hk (fun hne k e => hS k (h.offC (by rintro rfl; simp at hne) k e)), h.inn.c.len, h.inn.c.cap⟩, h.inn.nb, h.inn.ne, h.inn.nl, h.inn.nc⟩, h.off, h.offE, h.offL, h.offC, h.h63⟩
theorem MgOk.no (h : MgOk w0 w d zs es ls cs) (hk : Kept No w w') : MgOk w0 w' d zs es ls cs := h.kept hk (fun _ _ e => e)
theorem Len.off (h : Len w base d zs es ls cs gb E L C) (hk : Kept S w w') (hS : ∀ k, LB gb E L C k → ¬ S k) : Len w' base d zs es ls cs gb E L C :=
  ⟨(hk.block gb (Array.getElem?_eq_some_iff.1 h.b).1 (hS gb (.inl rfl))).trans h.b, h.bb, h.e.kept hk (fun k e => hS k (.inr (.inl e))), h.l.kept hk (fun k e => hS k (.inr (.inr (.inl e)))), ⟨h.c.own.kept hk (fun k e => hS k (.inr (.inr (.inr e)))), h.c.len⟩⟩
theorem Len.lb (h : Len w base d zs es ls cs gb E L C) : ∀ k, LB gb E L C k → base ≤ k ∧ k < w.heap.size := by
  intro k e
  rcases e with rfl | e | e | e
  · exact ⟨h.bb, (Array.getElem?_eq_some_iff.1 h.b).1⟩
  · exact ⟨h.e.own.base e, h.e.own.lt e⟩
  · exact ⟨h.l.own.base e, h.l.own.lt e⟩
  · exact ⟨h.c.own.base e, h.c.own.lt e⟩
end
def RelW (H : Nat → Prop) (w : World) (I J : Nat → Prop) (s : RM) (x : Rx) : Prop := Rel (Bw H w I J) s x
theorem RelW.no {w w' : World} {I J H : Nat → Prop} {s : RM} {x : Rx} (h : RelW H w I J s x) (hk : Kept No w w') : RelW H w' I J s x :=
  Rel.mono h (fun l z hb => hb.to hk (fun k _ l2 l3 => ⟨fun f => f, l2, l3⟩))
theorem RelW.wide {w : World} {I J H H' : Nat → Prop} {s : RM} {x : Rx} (h : RelW H w I J s x) (hH : ∀ k, k < w.heap.size → H k → H' k) : RelW H' w I J s x :=
  Rel.mono h (fun l z hb => ⟨hb.1, hb.2.1, fun hne k e => by have q := hb.2.2 hne k e; exact ⟨q.1, q.2.1, q.2.2.1, hH k q.1 q.2.2.2⟩⟩)
theorem RelW.off {w w' : World} {I J H S : Nat → Prop} {s : RM} {x : Rx} (h : RelW H w I J s x) (hk : Kept S w w') (hS : ∀ k, H k → ¬ S k) : RelW H w' I J s x :=
  Rel.mono h (fun l z hb => ⟨hb.1.kept0 hk (fun hne k e => hS k (hb.2.2 hne k e).2.2.2), hb.2.1, fun hne k e => by have q := hb.2.2 hne k e; have := hk.size; exact ⟨by omega, q.2.1, q.2.2.1, q.2.2.2⟩⟩)
theorem Fq.lt {S : Nat → Prop} {w W : World} {l : List (Nat × TypeId × Array Value)} (h : Fq S w W l) : ∀ x ∈ l, x.1 < W.heap.size := fun x hx => by
  obtain ⟨i, hi⟩ := List.mem_iff_getElem?.1 hx
  exact (h.box i x.1 x.2.1 x.2.2 hi).lt
end Go.Proofs.Ytgiokkcdgoloaaa.Md
namespace Go.Proofs.Ytgiokkcdgoloaaa.Md
open Go.RowKit
set_option linter.unusedVariables false
set_option linter.unusedSimpArgs false
def NewM (w : World) (s : RM) (e : Ending) (w' : World) : Prop := ∃ m I, e = .returned (.iface 115 (.pointer (some ⟨m, 0, none⟩))) ∧ Mch w' I m s ∧ (∀ k, I k → w.heap.size ≤ k ∧ k < w'.heap.size) ∧ Kept No w w'
theorem write_M (cl op : Int) (ky : Ky) (a0 : Option Addr) (n0 c0 : Nat) (rd : Int) (da : Option Addr) (dn dc : Nat) (gs zs : List Int) (w : World) (hg : Nums .i64 w a0 gs) (hz : gs.length = n0) (hn : n0 ≤ 100) (hd : Bytes w da zs) (hdl : zs.length = dn) (hdn : dn ≤ 140737488351232) :
    Calls Try.prog 23 #[.int .i64 cl, .int .i64 op, .agg (Ky.cells ky), .slice a0 n0 c0, .int .i64 rd, .slice da dn dc] w (NewM w ⟨cl, op, ky, uq gs, rd, .wr zs, .fresh⟩) := by
  refine (write_any cl op ky.k ky.a ky.b ky.c rd a0 n0 c0 gs da dn dc zs w hz (by omega) hg hdl (by omega) hd).mono ?_
  rintro e w' ⟨m, a, cap, da', dc', rfl, hM, hO, hB, _, hk⟩
  have hlen : (uq gs).length ≤ 1000 := by have := uq_len gs; omega
  have hs := hk.size
  refine ⟨m, fun k => w.heap.size ≤ k ∧ k < w'.heap.size, rfl, ⟨⟨a, cap, 138, _, hM, ⟨hB m (.inl rfl), hM.box.lt⟩, fun k e => ⟨hB k (.inr e), Own.lt hM.row e⟩, rfl, 118, _, rfl, rfl, by show zs.length ≤ _; omega, da', dc', rfl, Own.lower hO (Nat.zero_le _), fun k e => ⟨Own.base hO e, Own.lt hO e⟩⟩, hlen⟩, fun k e => e, hk⟩
theorem read_M (cl op : Int) (ky : Ky) (a0 : Option Addr) (n0 c0 : Nat) (rd sz : Int) (gs : List Int) (w : World) (hg : Nums .i64 w a0 gs) (hz : gs.length = n0) (hn : n0 ≤ 100) :
    Calls Try.prog 24 #[.int .i64 cl, .int .i64 op, .agg (Ky.cells ky), .slice a0 n0 c0, .int .i64 rd, .int .i64 sz] w (NewM w ⟨cl, op, ky, uq gs, rd, .rd (szR sz).toNat, .fresh⟩) := by
  refine (readX cl op ky.k ky.a ky.b ky.c rd sz a0 n0 c0 gs w hz (by omega) hg).mono ?_
  rintro e w' ⟨m, a, cap, rfl, hM, hB, hk⟩
  have hlen : (uq gs).length ≤ 1000 := by have := uq_len gs; omega
  have h0 := szR_lo sz
  have h1 := szR_hi sz
  refine ⟨m, fun k => w.heap.size ≤ k ∧ k < w'.heap.size, rfl, ⟨⟨a, cap, 138, _, hM, ⟨hB m (.inl rfl), hM.box.lt⟩, fun k e => ⟨hB k (.inr e), Own.lt hM.row e⟩, rfl, 120, _, rfl, rfl, by show (szR sz).toNat ≤ 4096; omega, ?_⟩, hlen⟩, fun k e => e, hk⟩
  rw [szB_R, Int.toNat_of_nonneg h0]
theorem OwI.set {W : World} {base g n gk : Nat} {L : List Int} (h : OwI W base ⟨some ⟨g, 0, none⟩, n, gk⟩ L) {i : Nat} (hi : i < n) (v : Int) :
    ∃ cs', (storeVar 3 ⟨g, 0 + i * 1, none⟩ (.int .i64 v)).run Try.prog W = .ok () (W.setRow g cs') ∧ OwI (W.setRow g cs') base ⟨some ⟨g, 0, none⟩, n, gk⟩ (L.set i v) := by
  have e : ∀ l : List Int, (l.map (fun z => [Value.int .i64 z])).flatten = l.map (Value.int .i64) := fun l => by induction l with
    | nil => rfl
    | cons a l ih => simp only [List.map_cons, List.flatten_cons, ih]; rfl
  obtain ⟨cs', h1, h2⟩ := Own.setN (T := 3) (ty := 3) (c := 1) (xs := L.map (fun z => [Value.int .i64 z])) (by rw [e]; exact h.own) (by simp) (by rw [List.length_map]; exact h.len) hi rfl (v := .int .i64 v) (y := [.int .i64 v]) rfl S3 (by simp [Value.oneCell']) rfl
  refine ⟨cs', h1, ?_, by rw [List.length_set]; exact h.len⟩
  rw [← e, List.map_set]
  exact h2
theorem Fq.new {S : Nat → Prop} {w W W' : World} {l : List (Nat × TypeId × Array Value)} (h : Fq No w W l) (hk : Kept S W W') (hS : ∀ k, S k → w.heap.size ≤ k) (hl : ∀ x ∈ l, ¬ S x.1) : Fq No w W' l :=
  ⟨h.kept.trans hk (fun _ e => e) (fun k l e => by have := hS k e; omega), fun i g T cs hi => (h.box i g T cs hi).kept hk (hl _ (List.mem_of_getElem? hi)), h.low, h.inj⟩
end Go.Proofs.Ytgiokkcdgoloaaa.Md
