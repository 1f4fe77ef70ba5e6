import Derived.Test.YthnecaejhnojfaaTh
namespace Go.Proofs.Ythnecaejhnojfaa.Md
open Go.RowKit
set_option linter.unusedVariables false
set_option linter.unusedSimpArgs false

/-- Take of a read in its first phase. -/
theorem takeR_M {w : World} {I : Nat → Prop} {m : Nat} {s : RM} (h : Mch w I m s) (d : Mg) (X : TS Bp) (hp : s.ph = .ask X) (n0 : Nat) (ha : s.aim = .rd n0) (z : List Int) (hbz : RdB w d.bl z) (hbl : d.bl.l ≤ 140737488351232) (h63 : -9223372036854775808 ≤ d.st.n) : Calls Try.prog 61 #[.pointer (some ⟨m, 0, none⟩), .agg (Mg.cells d)] w (MOut w I m (takP s d z)) := by
  have h0 := h
  obtain ⟨⟨a, cap, t, v, hM, i1, i2, hP⟩, len⟩ := h
  rw [hp] at hP
  obtain ⟨rfl, r0, r1, ai, av, tb, bb, at', ct, Y, rfl, hA, hT, hL, hI, hg⟩ := hP
  have hA0 := hA
  unfold AimAt at hA
  rw [ha] at hA
  obtain ⟨rfl, hn0, rfl⟩ := hA
  refine machTakeA_any m a cap s.x _ _ (mdOf d) w _ hM (mdOk d) (fun w => meth_takeA _ _ w) (fun wr hk => ?_)
  obtain ⟨kp, hkp⟩ : ∃ kp, kp = keepP s d z := ⟨_, rfl⟩
  have hkl : kp.z.length ≤ 140737488351232 ∧ -9223372036854775808 ≤ kp.st.n := by
    rw [hkp]
    unfold keepP
    rw [ha]
    dsimp only
    split
    · exact ⟨by simp; omega, show (-9223372036854775808 : Int) ≤ 0 by decide⟩
    · exact ⟨by rw [hbz.len]; exact hbl, h63⟩
  obtain ⟨R, hR⟩ : ∃ R : Bq → Sq, R = fun b => ⟨(bestP ((gotL (takeS Y d.fr.id b)).map Prod.snd)).n, (bestP ((gotL (takeS Y d.fr.id b)).map Prod.snd)).c, (bestP ((gotL (takeS Y d.fr.id b)).map Prod.snd)).a, (bestP ((gotL (takeS Y d.fr.id b)).map Prod.snd)).l, (bestP ((gotL (takeS Y d.fr.id b)).map Prod.snd)).k, 0, (bestP ((gotL (takeS Y d.fr.id b)).map Prod.snd)).n, (bestP ((gotL (takeS Y d.fr.id b)).map Prod.snd)).c, (bestP ((gotL (takeS Y d.fr.id b)).map Prod.snd)).a, (bestP ((gotL (takeS Y d.fr.id b)).map Prod.snd)).l, (bestP ((gotL (takeS Y d.fr.id b)).map Prod.snd)).k, !((gotL (takeS Y d.fr.id b)).map Prod.snd).any (otherB (bestP ((gotL (takeS Y d.fr.id b)).map Prod.snd)))⟩ := ⟨_, rfl⟩
  have hM' := hM.no hk
  have hT' := hT.no hk
  have h1 := h0.no hk
  have hL' : Lk wr I X Y := hL.kept hk (fun k e _ => ⟨fun f => f, e⟩)
  have hA' : AimAt wr I s 89 _ := hA0.kept hk (fun k e _ => ⟨fun f => f, e⟩)
  have hoff := off_mb hT' hM' (by decide) (by decide)
  have h5 : ∀ k, (∃ cs, Box wr k 5 cs) → ¬ (k = m ∨ Tb2 tb bb k) := fun k hb e => by
    rcases e with e | e
    · obtain ⟨cs, hb⟩ := hb; exact box_ne hb hM'.box (by decide) e
    · exact off_tal hT' hb (by decide) e
  have hmI : ∀ k, (k = m ∨ Tb2 tb bb k) → I k := fun k e => by
    rcases e with rfl | e | e
    · exact i1
    · exact hI k (.inl e)
    · exact hI k (.inr (.inl e))
  have hyl : Y.g.length ≤ 1000 := by rw [hL.g, hg]; exact len
  have hpure : ∀ ka kk, LkR (fun b k => k.n = b.st.n ∧ k.c = b.st.c ∧ k.l = b.z.length ∧ b.z.length ≤ 140737488351232) (takeS X d.fr.id kp) (takeS Y d.fr.id ⟨kp.st.n, kp.st.c, ka, kp.z.length, kk⟩) := fun ka kk =>
    (hL.mono (fun b k h => ⟨h.1, h.2.1, h.2.2.1, h.2.2.2.1⟩)).take (R := fun b k => k.n = b.st.n ∧ k.c = b.st.c ∧ k.l = b.z.length ∧ b.z.length ≤ 140737488351232) ⟨rfl, rfl, rfl, hkl.1⟩ d.fr.id
  have key : Calls Try.prog 81 #[.agg #[.iface 89 (.agg #[.int .i64 (n0 : Int)]), .pointer (some ⟨tb, 0, none⟩)], .pointer (some ⟨m, 0, none⟩), .agg (Mg.cells d)] wr (MOut wr I m (takP s d z)) := by
    refine (takeA_R m a cap s.x (n0 : Int) tb bb ct at' Y d kp.st.n kp.st.c kp.z R (fun _ => (bestB ((gotL (takeS X d.fr.id kp)).map Prod.snd)).z) wr hM' hT' (by show s.zs.length ≤ 1000; exact len) hyl (by show 0 ≤ s.rd; omega) r1 ?_ ?_ ?_ ?_ hoff).mono ?_
    · intro _ wr' hk'
      rw [hkp]
      unfold keepP
      rw [ha]
      dsimp only
      split
      · rename_i hc
        have := keepR0_any (n0 : Int) (mdOf d) wr' (by omega) (by omega) hc.1 hc.2
        rw [show ((n0 : Int)).toNat = n0 by simp] at this
        exact this
      · rename_i hc
        exact keepR1_any (n0 : Int) (mdOf d) z wr' hc hbz.len (by show d.bl.l ≤ _; omega) (Nums.kept (hbz.no hk).row hk' (fun _ _ _ e => e))
    · intro b hbn hbc wr'
      rw [hR]
      dsimp only
      generalize bestP ((gotL (takeS Y d.fr.id b)).map Prod.snd) = G
      exact settleR_any (n0 : Int) G.n G.c G.a G.l G.k _ wr'
    · intro ka kk ht he
      rw [hR]
      dsimp only
      have hL3 := hpure ka kk
      have hbe := best2 (fun b k h => ⟨h.1, h.2.1⟩) hL3.got (got_pos hL3 (take_cnt hT.nd ht))
      exact ⟨hbe.2.2.1.symm, by rw [hbe.2.2.1]; have := hbe.2.2.2; omega⟩
    · intro ka kk wr' hk' hO2 ht he
      rw [hR]
      dsimp only
      have hL2 : Lk wr' (fun k => I k ∨ wr.heap.size ≤ k) X Y := hL'.kept5 hk' (fun k e hb => ⟨fun f => h5 k hb (.inr f), .inl e⟩)
      have hL3 := hL2.take (b := kp) (k := ⟨kp.st.n, kp.st.c, ka, kp.z.length, kk⟩) ⟨rfl, rfl, rfl, hkl.1, hkl.2, Own.lower hO2 (Nat.zero_le _), fun j e => .inr (Own.base hO2 e)⟩ d.fr.id
      have hbe := best2 bk_nc hL3.got (got_pos hL3 (take_cnt hT.nd ht))
      refine ⟨OwnB.bytes hbe.2.2.2.2.2.1, fun e => ?_⟩
      obtain ⟨cs, hb⟩ := OwnB.five hbe.2.2.2.2.2.1 e
      exact box_ne hb (hM'.kept hk' hoff).box (by decide) rfl
    · intro e w' ho
      unfold takP
      rw [hp]
      dsimp only
      unfold hitP
      rcases ho with ⟨hh, rfl, hk2⟩ | ⟨hh, ka, kk, b, hb, hO2, hk2, hT2, hcase⟩
      · rw [hh, if_neg (by simp)]
        exact MOut.same rfl h1 hk2
      · rw [hh, if_pos rfl, ← hkp]
        have hs := hk2.size
        have hkI : Kept I wr w' := hk2.mono (fun k _ e => hmI k e)
        have hbk : Bk2 w' (fun k => I k ∨ wr.heap.size ≤ k) kp b := by
          rw [hb]
          exact ⟨rfl, rfl, rfl, hkl.1, hkl.2, Own.lower hO2 (Nat.zero_le _), fun j e => .inr (Own.base hO2 e)⟩
        have hL2 : Lk w' (fun k => I k ∨ wr.heap.size ≤ k) X Y := hL'.kept5 hk2 (fun k e hb => ⟨h5 k hb, .inl e⟩)
        have hL3 := hL2.take hbk d.fr.id
        have hA2 : AimAt w' (fun k => I k ∨ wr.heap.size ≤ k) s 89 _ := hA'.kept5 hk2 (fun k e hb => ⟨h5 k hb, .inl e⟩)
        rw [← takeB2 hL.g hL.need hL.nn]
        rcases hcase with ⟨ht, rfl, hM2⟩ | ⟨ht, he, rfl, hM2⟩ | ⟨ht, he, hrd, rfl, hM2⟩ | ⟨ht, he, hrd, ub, ubb, ut, ua, la, lc, qs, rfl, hq, hMs, hM2, hU, hUb⟩
        · rw [ht, if_neg (by simp)]
          exact MOut.nil rfl (ask_state len r0 r1 i1 i2 hI hg hM2 hA2 hT2 hL3) hkI
        all_goals
          rw [ht, if_pos rfl]
          have hcn : 1 ≤ cnt (takeS Y d.fr.id b) := take_cnt hT.nd ht
          have hbe := best2 bk_nc hL3.got (got_pos hL3 hcn)
          have han := any2 bk_nc hL3.got (got_pos hL3 hcn)
          unfold setP
          rw [ha]
          dsimp only
          rw [hR] at he
          dsimp only at he
          rw [han] at he
        · rw [if_neg (by simpa using he)]
          rw [hR] at hM2
          dsimp only at hM2
          rw [hbe.1, hbe.2.1, hbe.2.2.1] at hM2
          exact MOut.nil rfl ⟨⟨a, cap, 139, _, hM2, .inl i1, fun k e => .inl (i2 k e), rfl, _, _, rfl, hbe.2.2.2.1, OwnB.bytes hbe.2.2.2.2.2.1, fun k e => ⟨hbe.2.2.2.2.2.2 k e, OwnB.five hbe.2.2.2.2.2.1 e⟩⟩, len⟩ hkI
        · rw [if_pos (by simpa using he)]
          unfold layP
          rw [if_pos (show s.rd = 1099511627776 from hrd)]
          exact MOut.nil rfl ⟨⟨a, cap, 139, _, hM2, .inl i1, fun k e => .inl (i2 k e), rfl, none, 0, rfl, by simp, fun i hi => by simp at hi, fun k e => absurd e At.none⟩, len⟩ hkI
        · rw [if_pos (by simpa using he)]
          unfold layP
          rw [if_neg (show ¬ s.rd = 1099511627776 from hrd)]
          rw [hR] at hMs hM2
          dsimp only at hMs hM2
          rw [hbe.1, hbe.2.1, hbe.2.2.1] at hMs hM2
          have hre : resP { s with rd := s.rd + 1, ph := .lay (bestB ((gotL (takeS X d.fr.id kp)).map Prod.snd)) (tNew Unit s.zs s.need) } (bestB ((gotL (takeS X d.fr.id kp)).map Prod.snd)) = (bestB ((gotL (takeS X d.fr.id kp)).map Prod.snd)).z := by simp [resP, ha]
          refine MOut.mk rfl hq hMs ⟨⟨a, cap, 160, _, hM2, .inl i1, fun k e => .inl (i2 k e), rfl, _, _, _, _, ub, ubb, ua, ut, (by rw [hre]), hbe.2.2.2.1, hbe.2.2.2.2.2.1, hbe.2.2.2.2.2.2, (by rw [hre]; exact OwnB.bytes hbe.2.2.2.2.2.1), fun k e => ⟨hbe.2.2.2.2.2.2 k e, OwnB.five hbe.2.2.2.2.2.1 e⟩, hU, fun k e => .inr (hUb k e), uq_nd hM.nd⟩, len⟩ hkI
  exact key.mono fun e w' he => ⟨he.form, he.after hk⟩

/-- Take. -/
theorem take_M {w : World} {I : Nat → Prop} {m : Nat} {s : RM} (h : Mch w I m s) (d : Mg) (z : List Int) (hbz : RdB w d.bl z) (hbl : d.bl.l ≤ 140737488351232) (h63 : -9223372036854775808 ≤ d.st.n) : Calls Try.prog 61 #[.pointer (some ⟨m, 0, none⟩), .agg (Mg.cells d)] w (MOut w I m (takP s d z)) := by
  cases hp : s.ph with
  | fresh =>
    have h0 := h
    obtain ⟨⟨a, cap, t, v, hM, i1, i2, hP⟩, len⟩ := h
    rw [hp] at hP
    obtain ⟨rfl, ai, av, rfl, hA⟩ := hP
    have e : takP s d z = (s, toZ) := by unfold takP; rw [hp]
    rw [e]
    exact (mTake_0 m a cap s.x _ d w hM).mono fun e w' he => MOut.same he.1 h0 he.2
  | ask X =>
    cases ha : s.aim with
    | wr z0 => exact takeW_M h d X hp z0 ha z h63
    | rd n0 => exact takeR_M h d X hp n0 ha z hbz hbl h63
  | lay b U => exact takeL_M h d b U hp z
  | fin er st z' =>
    have h0 := h
    obtain ⟨⟨a, cap, t, v, hM, i1, i2, hP⟩, len⟩ := h
    rw [hp] at hP
    obtain ⟨rfl, da, dc, rfl, _⟩ := hP
    have e : takP s d z = (s, toZ) := by unfold takP; rw [hp]
    rw [e]
    exact (mTake_E m a cap s.x _ _ _ _ _ _ d w hM).mono fun e w' he => MOut.same he.1 h0 he.2

end Go.Proofs.Ythnecaejhnojfaa.Md
namespace Go.Proofs.Ythnecaejhnojfaa.Md
open Go.RowKit
set_option linter.unusedVariables false
set_option linter.unusedSimpArgs false

/-- Who has answered, by servers and by places. -/
structure QR {α : Type} (zs : List Int) (X : TS α) (qa : List Bool) : Prop where
  g : X.g = zs
  need : X.need = (zs.length : Int) / 2 + 1
  qa : qa = zs.map (fun n => (X.v n).isSome)
  few : cnt X < zs.length / 2 + 1
def keepQ (s : RM) (st : Sp) (z : List Int) : Bp := match s.aim with
  | .wr _ => ⟨st, []⟩
  | .rd n => if st.n = 0 ∧ st.c = 0 then ⟨spZ, List.replicate n 0⟩ else ⟨st, z⟩
theorem keep_eq (s : RM) (d : Mg) (z : List Int) : keepP s d z = keepQ s d.st z := rfl
theorem keepQ_st (s : RM) (st : Sp) (z : List Int) : (keepQ s st z).st = st := by
  unfold keepQ
  split
  · rfl
  · split
    · rename_i h; obtain ⟨n, c⟩ := st; simp at h; obtain ⟨rfl, rfl⟩ := h; rfl
    · rfl
def WrB (B : Sl → List Int → Prop) (s : RM) (x : Rx) : Prop := match s.aim with
  | .wr z => B x.bl z
  | .rd _ => True
def PhR (B : Sl → List Int → Prop) (s : RM) (x : Rx) : Rp → Prop
  | .fresh => x.ph = 0 ∧ WrB B s x
  | .ask X => x.ph = 1 ∧ 1 ≤ s.rd ∧ s.rd ≤ 1099511627776 ∧ QR s.zs X x.qa ∧ x.vs.length = s.zs.length ∧ (∀ (i : Nat) n b, s.zs[i]? = some n → X.v n = some b → ∃ zz, B (gAt x.vs i).bl zz ∧ b = keepQ s (gAt x.vs i).st zz) ∧ (∀ j, -9223372036854775808 ≤ (gAt x.vs j).st.n) ∧ WrB B s x
  | .lay b U => x.ph = 2 ∧ QR s.zs U x.qa ∧ x.vs.length = s.zs.length ∧ x.tag = b.st ∧ B x.bl b.z ∧ ((∀ j, -9223372036854775808 ≤ (gAt x.vs j).st.n) ∧ 0 ≤ s.rd)
  | .fin er st z => x.ph = 3 ∧ x.er = er ∧ (er = 0 → x.tag = st ∧ (x.wr = false → B x.bl z) ∧ (x.wr = true → z = [])) ∧ (er ≠ 0 → st = spZ ∧ z = [])
structure Rel (B : Sl → List Int → Prop) (s : RM) (x : Rx) : Prop where
  wr : x.wr = s.isW
  cl : x.cl = s.cl
  op : x.op = s.op
  ky : x.ky = s.ky
  zs : x.zs = s.zs
  rd : x.rd = s.rd
  nd : s.zs.Nodup
  sz : match s.aim with | .wr _ => True | .rd n => x.sz = (n : Int)
  s0 : 0 ≤ x.sz
  s1 : x.sz ≤ 4096
  ph : PhR B s x s.ph
theorem WrB.mono {B B' : Sl → List Int → Prop} {s : RM} {x : Rx} (h : WrB B s x) (hB : ∀ l z, B l z → B' l z) : WrB B' s x := by
  unfold WrB at h ⊢
  split
  · rename_i z hz; rw [hz] at h; exact hB _ _ h
  · trivial
theorem Rel.mono {B B' : Sl → List Int → Prop} {s : RM} {x : Rx} (h : Rel B s x) (hB : ∀ l z, B l z → B' l z) : Rel B' s x := by
  refine ⟨h.wr, h.cl, h.op, h.ky, h.zs, h.rd, h.nd, h.sz, h.s0, h.s1, ?_⟩
  have hp := h.ph
  cases e : s.ph with
  | fresh => rw [e] at hp; exact ⟨hp.1, hp.2.mono hB⟩
  | ask X =>
    rw [e] at hp
    obtain ⟨h1, h2, h3, h4, h5, h6, h7, h8⟩ := hp
    exact ⟨h1, h2, h3, h4, h5, fun i n b e1 e2 => by obtain ⟨zz, a, b⟩ := h6 i n b e1 e2; exact ⟨zz, hB _ _ a, b⟩, h7, h8.mono hB⟩
  | lay b U =>
    rw [e] at hp
    obtain ⟨h1, h2, h3, h4, h5, h6⟩ := hp
    exact ⟨h1, h2, h3, h4, hB _ _ h5, h6⟩
  | fin er st z =>
    rw [e] at hp
    obtain ⟨h1, h2, h3, h4⟩ := hp
    exact ⟨h1, h2, fun e => ⟨(h3 e).1, fun w => hB _ _ ((h3 e).2.1 w), (h3 e).2.2⟩, h4⟩
/-- What is told is alike: k, st, the block and the servers. -/
structure LikeT (B : Sl → List Int → Prop) (x' : Rx) (o : RM × To) (l : List Mg) : Prop where
  eq : l = o.2.ss.map (msgR x')
  ok : o.2.ss ≠ [] → x'.cl = o.1.cl ∧ x'.op = o.1.op ∧ x'.ky = o.1.ky ∧ x'.rd = o.1.rd ∧ ((x'.ph = 1 ∧ o.2.k = 1 ∧ o.2.st = spZ ∧ o.2.z = []) ∨ (x'.ph = 2 ∧ o.2.k = 2 ∧ o.2.st = x'.tag ∧ B x'.bl o.2.z))
theorem tol_map (x : Rx) (f : Int → Bool) (h : x.qa = x.zs.map f) : tolR x = (x.zs.filter (fun z => !f z)).map (msgR x) := by
  have key : ∀ i, i ≤ x.zs.length → tolK x i = ((x.zs.take i).filter (fun z => !f z)).map (msgR x) := by
    intro i
    induction i with
    | zero => intro _; rfl
    | succ i ih =>
      intro hi
      have hlt : i < x.zs.length := hi
      rw [take_snoc hlt, List.filter_append, List.map_append, ← ih (by omega)]
      show tolK x i ++ _ = _
      congr 1
      rw [h, List.getElem?_map, List.getElem?_eq_getElem hlt]
      simp only [Option.map_some, Option.getD_some]
      cases hf : f x.zs[i] <;> simp [hf]
  unfold tolR
  rw [key _ (Nat.le_refl _), List.take_length]
theorem miss_map {α : Type} {zs : List Int} {X : TS α} (gx : X.g = zs) : missL X = zs.filter (fun z => !(X.v z).isSome) := by
  unfold missL
  rw [gx]
  congr 1
  funext z
  cases X.v z <;> rfl
theorem QR.new {α : Type} {zs : List Int} (hn : zs.Nodup) : QR zs (tNew α zs ((zs.length : Int) / 2 + 1)) (List.replicate zs.length false) :=
  ⟨uq_nd hn, rfl, by show _ = zs.map (fun _ => false); rw [List.map_const'], by rw [cnt_new]; omega⟩
theorem tol_fresh (x : Rx) : tolR (freR x) = x.zs.map (msgR (freR x)) := by
  rw [tol_map (freR x) (fun _ => false) (by show List.replicate x.zs.length false = x.zs.map (fun _ => false); rw [List.map_const'])]
  show List.map _ (List.filter (fun z => true) x.zs) = _
  rw [List.filter_eq_self.2 (fun _ _ => rfl)]
theorem rel_tick {B : Sl → List Int → Prop} {s : RM} {x : Rx} (h : Rel B s x) (hp : x.ph = 1 ∨ x.ph = 2) : LikeT B x (s, tikP s) (tolR x) := by
  have hph := h.ph
  unfold tikP
  cases e : s.ph with
  | fresh => rw [e] at hph; have := hph.1; omega
  | ask X =>
    rw [e] at hph
    obtain ⟨h1, h2, h3, h4, h5, h6, h7, h8⟩ := hph
    refine ⟨?_, fun _ => ⟨h.cl, h.op, h.ky, h.rd, .inl ⟨h1, rfl, rfl, rfl⟩⟩⟩
    dsimp only
    rw [tol_map x _ (by rw [h.zs]; exact h4.qa), h.zs, miss_map h4.g]
  | lay b U =>
    rw [e] at hph
    obtain ⟨h1, h4, h5, h6, h7, h8⟩ := hph
    refine ⟨?_, fun _ => ⟨h.cl, h.op, h.ky, h.rd, .inr ⟨h1, rfl, h6.symm, h7⟩⟩⟩
    dsimp only
    rw [tol_map x _ (by rw [h.zs]; exact h4.qa), h.zs, miss_map h4.g]
  | fin er st z => rw [e] at hph; have := hph.1; omega
theorem rel_begin {B : Sl → List Int → Prop} {s : RM} {x : Rx} (h : Rel B s x) (h0 : x.ph = 0) :
    (¬ (1 ≤ x.rd ∧ x.rd ≤ 1099511627776) → Rel B (begP s).1 (endR x 4) ∧ (begP s).2 = toZ) ∧ ((1 ≤ x.rd ∧ x.rd ≤ 1099511627776) → Rel B (begP s).1 (freR { x with ph := 1 }) ∧ LikeT B (freR { x with ph := 1 }) (begP s) (tolR (freR { x with ph := 1 }))) := by
  have hph := h.ph
  have hrd := h.rd
  unfold begP
  cases e : s.ph with
  | fresh =>
    rw [e] at hph
    dsimp only
    refine ⟨fun hr => ?_, fun hr => ?_⟩
    · rw [if_neg (by rw [← hrd]; exact hr)]
      exact ⟨⟨h.wr, h.cl, h.op, h.ky, h.zs, h.rd, h.nd, h.sz, h.s0, h.s1, ⟨rfl, rfl, fun e => absurd e (by decide), fun _ => ⟨rfl, rfl⟩⟩⟩, rfl⟩
    · rw [if_pos (by rw [← hrd]; exact hr)]
      have hmz : ∀ j, gAt (List.replicate x.zs.length mgZ) j = mgZ := fun j => by
        unfold gAt
        rw [List.getElem?_replicate]
        split <;> rfl
      refine ⟨⟨h.wr, h.cl, h.op, h.ky, h.zs, h.rd, h.nd, h.sz, h.s0, h.s1, ⟨rfl, by rw [← hrd]; exact hr.1, by rw [← hrd]; exact hr.2, ?_, ?_, fun i n b _ e2 => (by cases e2), fun j => ?_, hph.2⟩⟩, ?_, fun _ => ⟨h.cl, h.op, h.ky, h.rd, .inl ⟨rfl, rfl, rfl, rfl⟩⟩⟩
      · show QR s.zs (tNew Bp s.zs s.need) (List.replicate x.zs.length false)
        rw [h.zs]
        exact QR.new h.nd
      · show (List.replicate x.zs.length mgZ).length = s.zs.length
        rw [List.length_replicate, h.zs]
      · show _ ≤ (gAt (List.replicate x.zs.length mgZ) j).st.n
        rw [hmz]; exact (by decide)
      · rw [tol_fresh]
        show List.map _ x.zs = List.map _ s.zs
        rw [h.zs]
  | ask X => rw [e] at hph; have := hph.1; omega
  | lay b U => rw [e] at hph; have := hph.1; omega
  | fin er st z => rw [e] at hph; have := hph.1; omega
theorem beg_not {B : Sl → List Int → Prop} {s : RM} {x : Rx} (h : Rel B s x) (h0 : x.ph ≠ 0) : begP s = (s, toZ) := by
  have hph := h.ph
  unfold begP
  cases e : s.ph with
  | fresh => rw [e] at hph; exact absurd hph.1 h0
  | ask X => rfl
  | lay b U => rfl
  | fin er st z => rfl
theorem tik_not {B : Sl → List Int → Prop} {s : RM} {x : Rx} (h : Rel B s x) (h1 : x.ph ≠ 1) (h2 : x.ph ≠ 2) : tikP s = toZ := by
  have hph := h.ph
  unfold tikP
  cases e : s.ph with
  | fresh => rfl
  | ask X => rw [e] at hph; exact absurd hph.1 h1
  | lay b U => rw [e] at hph; exact absurd hph.1 h2
  | fin er st z => rfl

end Go.Proofs.Ythnecaejhnojfaa.Md
namespace Go.Proofs.Ythnecaejhnojfaa.Md
open Go.RowKit
set_option linter.unusedVariables false
set_option linter.unusedSimpArgs false

theorem hit1 {B : Sl → List Int → Prop} {s : RM} {x : Rx} (h : Rel B s x) (hp : x.ph = 1) (d : Mg) : hitP s 11 d = plcB x d := by
  unfold hitP hitB plcB eqA eqK
  rw [hp, h.cl, h.op, h.ky, h.rd]
  obtain ⟨k, ⟨fc, fi⟩, ⟨tc, ti⟩, op, rd, ⟨a, b, c, e⟩, st, hd, bl, cm, bk, cms, mo⟩ := d
  simp [mdOf, RM.x]
theorem hit2 {B : Sl → List Int → Prop} {s : RM} {x : Rx} (h : Rel B s x) (hp : x.ph = 2) (d : Mg) : hitP s 12 d = plcB x d := by
  unfold hitP hitB plcB eqA eqK
  rw [hp, h.cl, h.op, h.ky, h.rd]
  obtain ⟨k, ⟨fc, fi⟩, ⟨tc, ti⟩, op, rd, ⟨a, b, c, e⟩, st, hd, bl, cm, bk, cms, mo⟩ := d
  simp [mdOf, RM.x]
section
variable {α : Type} {zs : List Int} {X : TS α} {qa : List Bool}
theorem lit_nd : ∀ (l : List Int), l.Nodup → ∀ (i j : Nat) z, l[i]? = some z → l[j]? = some z → i = j
  | [], _, i, j, z, h, _ => by simp at h
  | a :: l, hn, i, j, z, hi, hj => by
    have ⟨h1, h2⟩ := List.nodup_cons.1 hn
    cases i with
    | zero =>
      cases j with
      | zero => rfl
      | succ j => simp at hi hj; subst hi; exact absurd (List.mem_of_getElem? hj) h1
    | succ i =>
      cases j with
      | zero => simp at hi hj; subst hj; exact absurd (List.mem_of_getElem? hi) h1
      | succ j => simp at hi hj; rw [lit_nd l h2 i j z hi hj]
theorem QR.at (h : QR zs X qa) {i : Nat} {n : Int} (hi : zs[i]? = some n) : qa[i]?.getD false = (X.v n).isSome := by
  rw [h.qa, List.getElem?_map, hi]; rfl
theorem QR.may (h : QR zs X qa) (n : Int) : mayB X n = (decide (n ∈ zs) && (X.v n).isNone) := by
  unfold mayB enB
  have hf := h.few
  have hnn : ¬ ((zs.length : Int) / 2 + 1 ≤ ((cnt X : Nat) : Int)) := by omega
  rw [h.g, h.need, decide_eq_false hnn]
  simp
theorem cnt_put' {n : Int} {v : α} {i : Nat} (e2 : qa.set i true = zs.map (fun y => ((putS X n v).v y).isSome)) (hg : X.g = zs) : cntB (qa.set i true) = cnt (putS X n v) := by
  rw [e2]
  unfold cntB cnt
  rw [List.countP_map, show (putS X n v).g = X.g from rfl, hg]
  rfl
theorem QR.put (hn : zs.Nodup) (h : QR zs X qa) {i : Nat} {n : Int} (hi : zs[i]? = some n) (hv : X.v n = none) (v : α) :
    takeS X n v = putS X n v ∧ takeB X n = decide (¬ cntB (qa.set i true) < zs.length / 2 + 1) ∧ qa.set i true = zs.map (fun y => ((putS X n v).v y).isSome) ∧ (cntB (qa.set i true) < zs.length / 2 + 1 → QR zs (putS X n v) (qa.set i true)) := by
  have hm : n ∈ zs := List.mem_of_getElem? hi
  have hmay : mayB X n = true := by rw [h.may, hv]; simp [hm]
  have e1 : takeS X n v = putS X n v := by unfold takeS; rw [if_pos hmay]
  have e2 : qa.set i true = zs.map (fun y => ((putS X n v).v y).isSome) := by
    rw [h.qa]
    apply List.ext_getElem?
    intro j
    rw [List.getElem?_set]
    by_cases e : i = j
    · subst e
      have hl := (List.getElem?_eq_some_iff.1 hi).1
      simp [hl, hi, putS]
      have := (List.getElem?_eq_some_iff.1 hi).2
      rw [if_pos this]; rfl
    · rw [if_neg e, List.getElem?_map, List.getElem?_map]
      cases hj : zs[j]? with
      | none => rfl
      | some y =>
        have : y ≠ n := fun e2 => e (lit_nd zs hn i j n hi (e2 ▸ hj))
        simp [putS, this]
  have e3 : cntB (qa.set i true) = cnt X + 1 := by
    rw [e2]
    have := cnt_put (v := v) (by rw [h.g]; exact hn) (by rw [h.g]; exact hm) hv
    rw [← this]
    unfold cntB cnt
    rw [List.countP_map, show (putS X n v).g = X.g from rfl, h.g]
    rfl
  refine ⟨e1, ?_, e2, fun hf => ⟨h.g, h.need, e2, by rw [← cnt_put' e2 h.g]; exact hf⟩⟩
  · unfold takeB
    rw [hmay, h.need, e3, Bool.true_and]
    congr 1
    apply propext
    constructor <;> intro hh <;> omega
end
/-- The place of the sender. -/
theorem plc_cases {α : Type} {zs : List Int} {X : TS α} {x : Rx} {d : Mg} (hz : x.zs = zs) (hn : zs.Nodup) (h : QR zs X x.qa) (hb : plcB x d = true) {e : Int} (hp : PlcIs x d e) :
    (e = -1 ∧ mayB X d.fr.id = false) ∨ ∃ i : Nat, e = (i : Int) ∧ i < zs.length ∧ zs[i]? = some d.fr.id ∧ X.v d.fr.id = none := by
  rcases hp with ⟨rfl, hq | hq⟩ | ⟨i, rfl, hi, _, hj, _⟩
  · rw [hb] at hq; cases hq
  · refine .inl ⟨rfl, ?_⟩
    rw [h.may]
    by_cases hm : d.fr.id ∈ zs
    · obtain ⟨i, hi⟩ := List.getElem?_of_mem hm
      have hl := (List.getElem?_eq_some_iff.1 hi).1
      have h1 := hq i (by rw [hz]; exact hl)
      unfold hitJ at h1
      rw [hz, hi, h.at hi] at h1
      simp at h1
      cases hv : X.v d.fr.id with
      | none => rw [hv] at h1; simp at h1
      | some v => simp
    · simp [hm]
  · rw [hz] at hi
    unfold hitJ at hj
    rw [hz] at hj
    obtain ⟨h1, h2⟩ := (Bool.and_eq_true _ _ ▸ hj : (_ == _) = true ∧ _ = true)
    have hi2 : zs[i]? = some d.fr.id := by
      rw [List.getElem?_eq_getElem hi] at h1 ⊢
      simp at h1
      rw [h1]
    rw [h.at hi2] at h2
    refine .inr ⟨i, rfl, hi, hi2, ?_⟩
    cases hv : X.v d.fr.id with
    | none => rfl
    | some v => rw [hv] at h2; simp at h2
theorem may_no {α : Type} {X : TS α} {n : Int} {v : α} (h : mayB X n = false) : takeB X n = false ∧ takeS X n v = X := takeNo h

end Go.Proofs.Ythnecaejhnojfaa.Md
namespace Go.Proofs.Ythnecaejhnojfaa.Md
open Go.RowKit
set_option linter.unusedVariables false
set_option linter.unusedSimpArgs false

theorem got_fm {α : Type} (X : TS α) : (gotL X).map Prod.snd = X.g.filterMap X.v := by
  unfold gotL
  induction X.g with
  | nil => rfl
  | cons n l ih =>
    cases h : X.v n with
    | none => simpa [List.filterMap_cons, h] using ih
    | some v => simpa [List.filterMap_cons, h] using ih
theorem bpAt_app {l : List Bp} {b : Bp} {i : Nat} (h : i < l.length) : bpAt (l ++ [b]) i = bpAt l i := by
  unfold bpAt
  rw [List.getElem?_append_left h]
theorem bpAt_last (l : List Bp) (b : Bp) : bpAt (l ++ [b]) l.length = b := by simp [bpAt]
theorem best_snoc {l : List Bp} (b : Bp) (h : l ≠ []) : bestB (l ++ [b]) = if lsP (bestB l) b then b else bestB l := by
  have h0 : 0 < l.length := List.length_pos_iff.2 h
  obtain ⟨k, hk⟩ : ∃ k, l.length = k + 1 := ⟨l.length - 1, by omega⟩
  have e1 : bi (fun i j => lsP (bpAt (l ++ [b]) i) (bpAt (l ++ [b]) j)) k = bi (fun i j => lsP (bpAt l i) (bpAt l j)) k := bi_congr k (fun i j hi hj => by rw [bpAt_app (by omega), bpAt_app (by omega)])
  have hle := bi_le (fun i j => lsP (bpAt l i) (bpAt l j)) k
  unfold bestB
  rw [List.length_append, List.length_singleton, hk, Nat.add_sub_cancel, Nat.add_sub_cancel]
  show bpAt (l ++ [b]) (if lsP (bpAt (l ++ [b]) (bi _ k)) (bpAt (l ++ [b]) (k + 1)) then k + 1 else bi _ k) = _
  rw [e1, bpAt_app (i := bi _ k) (by omega), show bpAt (l ++ [b]) (k + 1) = b by rw [← hk]; exact bpAt_last l b]
  split
  · rw [← hk]; exact bpAt_last l b
  · exact bpAt_app (by omega)
theorem best_mem {l : List Bp} (h : l ≠ []) : bestB l ∈ l := by
  have h0 : 0 < l.length := List.length_pos_iff.2 h
  have hle := bi_le (fun i j => lsP (bpAt l i) (bpAt l j)) (l.length - 1)
  unfold bestB
  have hl : bi (fun i j => lsP (bpAt l i) (bpAt l j)) (l.length - 1) < l.length := by omega
  generalize bi (fun i j => lsP (bpAt l i) (bpAt l j)) (l.length - 1) = q at hl
  unfold bpAt
  rw [List.getElem?_eq_getElem hl]
  exact List.getElem_mem hl
theorem ls_ne {a b : Bp} (h : lsP a b = true) : eqS b.st a.st = false := by
  unfold lsP lessB at h
  unfold eqS
  cases e : (b.st.n == a.st.n && b.st.c == a.st.c) with
  | false => rfl
  | true =>
    simp at e h
    omega
theorem oth_eq (g p : Bp) : othP g p = !eqS p.st g.st := rfl
theorem secK_spec {zs : List Int} {X : TS Bp} {x : Rx} (hq : x.qa = zs.map (fun n => (X.v n).isSome)) (hst : ∀ (i : Nat) n b, zs[i]? = some n → X.v n = some b → b.st = (gAt x.vs i).st) : ∀ i, i ≤ zs.length →
    ((zs.take i).filterMap X.v = [] ∧ secK x i = (none, true)) ∨ (∃ j n b, j < i ∧ zs[j]? = some n ∧ X.v n = some b ∧ bestB ((zs.take i).filterMap X.v) = b ∧ (zs.take i).filterMap X.v ≠ [] ∧ secK x i = (some j, !((zs.take i).filterMap X.v).any (othP b)))
  | 0, _ => .inl ⟨rfl, rfl⟩
  | i + 1, hi => by
    have hl : i < zs.length := hi
    have hzi : zs[i]? = some zs[i] := List.getElem?_eq_getElem hl
    have hqa : x.qa[i]?.getD false = (X.v zs[i]).isSome := by rw [hq, List.getElem?_map, hzi]; rfl
    have htk : zs.take (i + 1) = zs.take i ++ [zs[i]] := by rw [List.take_add_one, hzi]; rfl
    have hs : secK x (i + 1) = (if x.qa[i]?.getD false then match (secK x i).1 with | none => (some i, (secK x i).2) | some j => (if lessB (gAt x.vs j).st.n (gAt x.vs j).st.c (gAt x.vs i).st.n (gAt x.vs i).st.c then some i else some j, (secK x i).2 && eqS (gAt x.vs i).st (gAt x.vs j).st) else secK x i) := rfl
    rw [hs, hqa, htk, List.filterMap_append]
    have ih := secK_spec hq hst i (by omega)
    cases hv : X.v zs[i] with
    | none =>
      have e : [zs[i]].filterMap X.v = [] := by simp [hv]
      rw [e, List.append_nil, if_neg (by simp)]
      rcases ih with h | ⟨j, n, b, h1, h2⟩
      · exact .inl h
      · exact .inr ⟨j, n, b, by omega, h2⟩
    | some b =>
      have e : [zs[i]].filterMap X.v = [b] := by simp [hv]
      rw [e, if_pos (by simp)]
      have hb := hst i _ b hzi hv
      rcases ih with ⟨h1, h2⟩ | ⟨j, n, b0, h1, h2, h3, h4, h5, h6⟩
      · rw [h1, h2]
        refine .inr ⟨i, zs[i], b, by omega, hzi, hv, rfl, by simp, ?_⟩
        simp [oth_eq, eqS_refl]
      · rw [h6]
        dsimp only
        have hb0 := hst j n b0 h2 h3
        have hne : (zs.take i).filterMap X.v ++ [b] ≠ [] := by simp
        have hbs := best_snoc b h5
        rw [h4] at hbs
        have hls : lessB (gAt x.vs j).st.n (gAt x.vs j).st.c (gAt x.vs i).st.n (gAt x.vs i).st.c = lsP b0 b := by unfold lsP; rw [hb, hb0]
        rw [hls, ← hb, ← hb0]
        cases hc : lsP b0 b with
        | true =>
          rw [hc, if_pos rfl] at hbs
          refine .inr ⟨i, zs[i], b, by omega, hzi, hv, hbs, hne, ?_⟩
          have hany : ((zs.take i).filterMap X.v ++ [b]).any (othP b) = true := by
            rw [List.any_append]
            have hm : b0 ∈ (zs.take i).filterMap X.v := h4 ▸ best_mem h5
            have : ((zs.take i).filterMap X.v).any (othP b) = true := List.any_eq_true.2 ⟨b0, hm, by
              rw [oth_eq]
              have := ls_ne hc
              unfold eqS at this ⊢
              rw [Bool.not_eq_true', ← this]
              rw [show (b0.st.n == b.st.n) = (b.st.n == b0.st.n) from Bool.beq_comm, show (b0.st.c == b.st.c) = (b.st.c == b0.st.c) from Bool.beq_comm]⟩
            rw [this]; rfl
          rw [hany, ls_ne hc]
          simp
        | false =>
          rw [hc, if_neg (by simp)] at hbs
          refine .inr ⟨j, n, b0, by omega, h2, h3, hbs, hne, ?_⟩
          rw [List.any_append]
          simp [oth_eq]

end Go.Proofs.Ythnecaejhnojfaa.Md
