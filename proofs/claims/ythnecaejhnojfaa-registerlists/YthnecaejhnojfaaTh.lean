import Derived.Test.YthnecaejhnojfaaQa
namespace Go.Proofs.Ythnecaejhnojfaa.Md
open Go.RowKit
set_option linter.unusedVariables false
set_option linter.unusedSimpArgs false

/-- A block: its stamp and its bytes; what a machine is for; where it stands; a machine; what it tells. -/
structure Bp where
  st : Sp
  z : List Int
inductive Aim
  | wr (z : List Int)
  | rd (n : Nat)
inductive Rp
  | fresh
  | ask (X : TS Bp)
  | lay (b : Bp) (U : TS Unit)
  | fin (er : Int) (st : Sp) (z : List Int)
structure RM where
  cl : Int
  op : Int
  ky : Ky
  zs : List Int
  rd : Int
  aim : Aim
  ph : Rp
structure To where
  k : Int
  st : Sp
  z : List Int
  ss : List Int
def toZ : To := ⟨0, spZ, [], []⟩
def RM.x (s : RM) : MS := ⟨s.cl, s.op, s.ky.k, s.ky.a, s.ky.b, s.ky.c, s.zs, s.rd⟩
def RM.need (s : RM) : Int := (s.zs.length : Int) / 2 + 1
def RM.isW (s : RM) : Bool := match s.aim with | .wr _ => true | .rd _ => false
def begP (s : RM) : RM × To := match s.ph with
  | .fresh => if 1 ≤ s.rd ∧ s.rd ≤ 1099511627776 then ({ s with ph := .ask (tNew Bp s.zs s.need) }, ⟨1, spZ, [], s.zs⟩) else ({ s with ph := .fin 4 spZ [] }, toZ)
  | _ => (s, toZ)
def tikP (s : RM) : To := match s.ph with
  | .ask X => ⟨1, spZ, [], missL X⟩
  | .lay b U => ⟨2, b.st, b.z, missL U⟩
  | _ => toZ
def hitP (s : RM) (k : Int) (d : Mg) : Bool := hitB s.x k (mdOf d)
def keepP (s : RM) (d : Mg) (z : List Int) : Bp := match s.aim with
  | .wr _ => ⟨d.st, []⟩
  | .rd n => if d.st.n = 0 ∧ d.st.c = 0 then ⟨spZ, List.replicate n 0⟩ else ⟨d.st, z⟩
def lsP (a b : Bp) : Bool := lessB a.st.n a.st.c b.st.n b.st.c
def bpZ : Bp := ⟨spZ, []⟩
def bpAt (l : List Bp) (i : Nat) : Bp := l[i]?.getD bpZ
def bestB (l : List Bp) : Bp := bpAt l (bi (fun i j => lsP (bpAt l i) (bpAt l j)) (l.length - 1))
def othP (g p : Bp) : Bool := !(p.st.n == g.st.n && p.st.c == g.st.c)
def layP (s : RM) (b : Bp) : RM × To := if s.rd = 1099511627776 then ({ s with ph := .fin 4 spZ [] }, toZ) else ({ s with rd := s.rd + 1, ph := .lay b (tNew Unit s.zs s.need) }, ⟨2, b.st, b.z, s.zs⟩)
def setP (s : RM) (l : List Bp) : RM × To := match s.aim with
  | .wr z => if 1099511627776 ≤ (bestB l).st.n then ({ s with ph := .fin 4 spZ [] }, toZ) else layP s ⟨⟨(bestB l).st.n + 1, s.cl⟩, z⟩
  | .rd _ => if l.any (othP (bestB l)) then layP s (bestB l) else ({ s with ph := .fin 0 (bestB l).st (bestB l).z }, toZ)
def resP (s : RM) (b : Bp) : List Int := match s.aim with | .wr _ => [] | .rd _ => b.z
def takP (s : RM) (d : Mg) (z : List Int) : RM × To := match s.ph with
  | .ask X => if hitP s 11 d then (if takeB X d.fr.id then setP s ((gotL (takeS X d.fr.id (keepP s d z))).map Prod.snd) else ({ s with ph := .ask (takeS X d.fr.id (keepP s d z)) }, toZ)) else (s, toZ)
  | .lay b U => if hitP s 12 d then (if takeB U d.fr.id then ({ s with ph := .fin 0 b.st (resP s b) }, toZ) else ({ s with ph := .lay b (takeS U d.fr.id ()) }, toZ)) else (s, toZ)
  | _ => (s, toZ)
/-- A block that is kept, in memory; the tally's answers in memory. -/
def Bk2 (w : World) (I : Nat → Prop) (b : Bp) (k : Bq) : Prop := k.n = b.st.n ∧ k.c = b.st.c ∧ k.l = b.z.length ∧ b.z.length ≤ 140737488351232 ∧ -9223372036854775808 ≤ b.st.n ∧ OwnB w 0 k.a k.k b.z ∧ ∀ j, At k.a j → I j
structure LkR (R : Bp → Bq → Prop) (X : TS Bp) (Y : TS Bq) : Prop where
  g : Y.g = X.g
  need : Y.need = X.need
  no : ∀ n, X.v n = none → Y.v n = none
  so : ∀ n b, X.v n = some b → ∃ k : Bq, Y.v n = some k ∧ R b k
abbrev Lk (w : World) (I : Nat → Prop) (X : TS Bp) (Y : TS Bq) : Prop := LkR (Bk2 w I) X Y
theorem LkR.mono {R R' : Bp → Bq → Prop} {X : TS Bp} {Y : TS Bq} (h : LkR R X Y) (hR : ∀ b k, R b k → R' b k) : LkR R' X Y :=
  ⟨h.g, h.need, h.no, fun n b e => by obtain ⟨k, h1, h2⟩ := h.so n b e; exact ⟨k, h1, hR b k h2⟩⟩
def AimAt (w : World) (I : Nat → Prop) (s : RM) (ai : TypeId) (av : Value) : Prop := match s.aim with
  | .wr z => ai = 87 ∧ z.length ≤ 140737488351232 ∧ ∃ da dk, av = .agg #[.int .i64 s.cl, .slice da z.length dk] ∧ OwnB w 0 da dk z ∧ ∀ k, At da k → I k
  | .rd n => ai = 89 ∧ n ≤ 4096 ∧ av = .agg #[.int .i64 (n : Int)]
def PhM (w : World) (I : Nat → Prop) (s : RM) (t : TypeId) (v : Value) : Rp → Prop
  | .fresh => t = 105 ∧ ∃ ai av, v = .agg #[.iface ai av] ∧ AimAt w I s ai av
  | .ask X => t = 146 ∧ 1 ≤ s.rd ∧ s.rd ≤ 1099511627776 ∧ ∃ ai av tb bb at' ct Y, v = .agg #[.iface ai av, .pointer (some ⟨tb, 0, none⟩)] ∧ AimAt w I s ai av ∧ Tal 149 ansB w tb bb at' ct Y ∧ Lk w I X Y ∧ (∀ k, TB tb bb at' k → I k) ∧ X.g = s.zs
  | .lay b U => t = 160 ∧ ∃ pa pk da dc ub ubb ua ut, v = layV b.st.n b.st.c pa b.z.length pk 0 b.st.n b.st.c da (resP s b).length dc ub ∧ b.z.length ≤ 140737488351232 ∧ OwnB w 0 pa pk b.z ∧ (∀ k, At pa k → I k) ∧ Bytes w da (resP s b) ∧ (∀ k, At da k → I k ∧ ∃ cs, Box w k 5 cs) ∧ Tal 113 ansU w ub ubb ua ut U ∧ (∀ k, TB ub ubb ua k → I k) ∧ U.g = s.zs
  | .fin er st z => t = 139 ∧ ∃ da dc, v = endV er st.n st.c da z.length dc ∧ z.length ≤ 140737488351232 ∧ Bytes w da z ∧ ∀ k, At da k → I k ∧ ∃ cs, Box w k 5 cs
structure Mch (w : World) (I : Nat → Prop) (m : Nat) (s : RM) : Prop where
  ex : ∃ a cap t v, Mach w m a cap s.x t v ∧ I m ∧ (∀ k, At a k → I k) ∧ PhM w I s t v s.ph
  len : s.zs.length ≤ 1000
theorem boxKept {S : Nat → Prop} {w w' : World} {k : Nat} {t : TypeId} (h : ∃ cs, Box w k t cs) (hk : Kept S w w') (hS : ¬ S k) : ∃ cs, Box w' k t cs := by
  obtain ⟨cs, h⟩ := h
  exact ⟨cs, h.kept hk hS⟩
theorem boxLt {w : World} {k : Nat} {t : TypeId} (h : ∃ cs, Box w k t cs) : k < w.heap.size := by
  obtain ⟨cs, h⟩ := h
  exact h.lt
section
variable {S I I' : Nat → Prop} {w w' : World} {m : Nat} {s : RM}
theorem OwnB.five {w : World} {b : Nat} {a : Option Addr} {c : Nat} {zs : List Int} (h : OwnB w b a c zs) {k : Nat} (e : At a k) : ∃ cs, Box w k 5 cs := Own.ty h e
theorem Bk2.kept5 {b : Bp} {k : Bq} (h : Bk2 w I b k) (hk : Kept S w w') (hS : ∀ k, I k → (∃ cs, Box w k 5 cs) → ¬ S k ∧ I' k) : Bk2 w' I' b k := by
  obtain ⟨h2, h3, h4, h4', h4'', h5, h6⟩ := h
  exact ⟨h2, h3, h4, h4', h4'', Own.kept h5 hk (fun j e => (hS j (h6 j e) (OwnB.five h5 e)).1), fun j e => (hS j (h6 j e) (OwnB.five h5 e)).2⟩
theorem LkR.kept5 {X : TS Bp} {Y : TS Bq} (h : Lk w I X Y) (hk : Kept S w w') (hS : ∀ k, I k → (∃ cs, Box w k 5 cs) → ¬ S k ∧ I' k) : Lk w' I' X Y := by
  refine ⟨h.g, h.need, h.no, fun n b e => ?_⟩
  obtain ⟨k, h1, h2⟩ := h.so n b e
  exact ⟨k, h1, h2.kept5 hk hS⟩
theorem LkR.kept {X : TS Bp} {Y : TS Bq} (h : Lk w I X Y) (hk : Kept S w w') (hS : ∀ k, I k → k < w.heap.size → ¬ S k ∧ I' k) : Lk w' I' X Y := h.kept5 hk (fun k e b => hS k e (boxLt b))
theorem AimAt.kept5 {ai : TypeId} {av : Value} (h : AimAt w I s ai av) (hk : Kept S w w') (hS : ∀ k, I k → (∃ cs, Box w k 5 cs) → ¬ S k ∧ I' k) : AimAt w' I' s ai av := by
  unfold AimAt at h ⊢
  split
  · rename_i z hz
    rw [hz] at h
    obtain ⟨h1, h2, da, dk, h3, h4, h5⟩ := h
    exact ⟨h1, h2, da, dk, h3, Own.kept h4 hk (fun j e => (hS j (h5 j e) (OwnB.five h4 e)).1), fun j e => (hS j (h5 j e) (OwnB.five h4 e)).2⟩
  · rename_i n hn
    rw [hn] at h
    exact h
theorem AimAt.kept {ai : TypeId} {av : Value} (h : AimAt w I s ai av) (hk : Kept S w w') (hS : ∀ k, I k → k < w.heap.size → ¬ S k ∧ I' k) : AimAt w' I' s ai av := h.kept5 hk (fun k e b => hS k e (boxLt b))
theorem AimAt.of {s s' : RM} {ai : TypeId} {av : Value} (h : AimAt w I s ai av) (ha : s'.aim = s.aim) (hc : s'.cl = s.cl) : AimAt w I s' ai av := by
  unfold AimAt at h ⊢
  rw [ha, hc]
  exact h
theorem PhM.kept {t : TypeId} {v : Value} {p : Rp} (h : PhM w I s t v p) (hk : Kept S w w') (hS : ∀ k, I k → k < w.heap.size → ¬ S k ∧ I' k) : PhM w' I' s t v p := by
  cases p with
  | fresh => obtain ⟨h1, ai, av, h2, h3⟩ := h; exact ⟨h1, ai, av, h2, h3.kept hk hS⟩
  | ask X =>
    obtain ⟨h1, r0, r1, ai, av, tb, bb, at', ct, Y, h2, h3, h4, h5, h6, h7⟩ := h
    have q : ∀ k, TB tb bb at' k → ¬ S k ∧ I' k := fun k e => hS k (h6 k e) (h4.lt e)
    exact ⟨h1, r0, r1, ai, av, tb, bb, at', ct, Y, h2, h3.kept hk hS, h4.kept hk (fun k e => (q k e).1), h5.kept hk hS, fun k e => (q k e).2, h7⟩
  | lay b U =>
    obtain ⟨h1, pa, pk, da, dc, ub, ubb, ua, ut, h2, h3, h4, h5, h6, h7, h8, h9, h10⟩ := h
    have q : ∀ k, TB ub ubb ua k → ¬ S k ∧ I' k := fun k e => hS k (h9 k e) (h8.lt e)
    have p : ∀ k, At pa k → ¬ S k ∧ I' k := fun k e => hS k (h5 k e) (Own.lt h4 e)
    have d : ∀ k, At da k → ¬ S k ∧ I' k := fun k e => hS k (h7 k e).1 (boxLt (h7 k e).2)
    exact ⟨h1, pa, pk, da, dc, ub, ubb, ua, ut, h2, h3, Own.kept h4 hk (fun k e => (p k e).1), fun k e => (p k e).2, Nums.kept h6 hk (fun b off e => (d b ⟨_, e, rfl⟩).1), fun k e => ⟨(d k e).2, boxKept (h7 k e).2 hk (d k e).1⟩, h8.kept hk (fun k e => (q k e).1), fun k e => (q k e).2, h10⟩
  | fin er st z =>
    obtain ⟨h1, da, dc, h2, h3, h4, h5⟩ := h
    have d : ∀ k, At da k → ¬ S k ∧ I' k := fun k e => hS k (h5 k e).1 (boxLt (h5 k e).2)
    exact ⟨h1, da, dc, h2, h3, Nums.kept h4 hk (fun b off e => (d b ⟨_, e, rfl⟩).1), fun k e => ⟨(d k e).2, boxKept (h5 k e).2 hk (d k e).1⟩⟩
theorem Mch.kept (h : Mch w I m s) (hk : Kept S w w') (hS : ∀ k, I k → k < w.heap.size → ¬ S k ∧ I' k) : Mch w' I' m s := by
  obtain ⟨⟨a, cap, t, v, h1, h2, h3, h4⟩, len⟩ := h
  have q1 := hS m h2 h1.box.lt
  have q2 : ∀ k, At a k → ¬ S k ∧ I' k := fun k e => hS k (h3 k e) (Own.lt h1.row e)
  exact ⟨⟨a, cap, t, v, h1.kept hk (fun k e => by rcases e with rfl | e; exact q1.1; exact (q2 k e).1), q1.2, fun k e => (q2 k e).2, h4.kept hk hS⟩, len⟩
theorem Mch.no (h : Mch w I m s) (hk : Kept No w w') : Mch w' I m s := h.kept hk (fun k e _ => ⟨fun f => f, e⟩)
theorem Mch.cut (h : Mch w I m s) : Mch w (fun k => I k ∧ k < w.heap.size) m s := h.kept (Kept.refl No w) (fun k e l => ⟨fun f => f, e, l⟩)
theorem Mch.wide (h : Mch w I m s) (hS : ∀ k, I k → I' k) : Mch w I' m s := h.kept (Kept.refl No w) (fun k e _ => ⟨fun f => f, hS k e⟩)
end
/-- What a call of a machine tells and leaves. -/
def MOut (w : World) (I : Nat → Prop) (m : Nat) (o : RM × To) (e : Ending) (w' : World) : Prop :=
  ∃ la lc qs I', e = .returned (.slice la qs.length lc) ∧ qs.map Qm.sv = o.2.ss ∧ Msgs w' w.heap.size la lc o.1.x ⟨o.2.k, o.2.st.n, o.2.st.c, o.2.z.length⟩ o.2.z qs ∧ Mch w' I' m o.1 ∧ (∀ k, I' k → (I k ∨ w.heap.size ≤ k) ∧ k < w'.heap.size) ∧ Kept I w w'
theorem MOut.mk {w w' : World} {I : Nat → Prop} {m : Nat} {o : RM × To} {e : Ending} {la : Option Addr} {lc : Nat} {qs : List Qm} (he : e = .returned (.slice la qs.length lc)) (hq : qs.map Qm.sv = o.2.ss) (hM : Msgs w' w.heap.size la lc o.1.x ⟨o.2.k, o.2.st.n, o.2.st.c, o.2.z.length⟩ o.2.z qs) (hm : Mch w' (fun k => I k ∨ w.heap.size ≤ k) m o.1) (hk : Kept I w w') : MOut w I m o e w' :=
  ⟨la, lc, qs, _, he, hq, hM, hm.cut, fun k e => e, hk⟩
theorem MOut.nil {w w' : World} {I : Nat → Prop} {m : Nat} {s : RM} {e : Ending} (he : e = .returned (.slice none 0 0)) (hm : Mch w' (fun k => I k ∨ w.heap.size ≤ k) m s) (hk : Kept I w w') : MOut w I m (s, toZ) e w' :=
  MOut.mk (la := none) (lc := 0) (qs := []) he rfl ⟨Own.nil _ _ _ _, fun q h => (by cases h), List.Pairwise.nil, rfl⟩ hm hk
theorem MOut.same {w w' : World} {I : Nat → Prop} {m : Nat} {s : RM} {e : Ending} (he : e = .returned (.slice none 0 0)) (hm : Mch w I m s) (hk : Kept No w w') : MOut w I m (s, toZ) e w' :=
  MOut.nil he ((hm.no hk).wide (fun k e => .inl e)) hk.of_no
theorem LkR.new (R : Bp → Bq → Prop) (l : List Int) (n : Int) : LkR R (tNew Bp l n) (tNew Bq l n) := ⟨rfl, rfl, fun _ _ => rfl, fun n b e => by cases e⟩
/-- Begin. -/
theorem begin_M {w : World} {I : Nat → Prop} {m : Nat} {s : RM} (h : Mch w I m s) : Calls Try.prog 58 #[.pointer (some ⟨m, 0, none⟩)] w (MOut w I m (begP s)) := by
  have h0 := h
  obtain ⟨⟨a, cap, t, v, hM, i1, i2, hP⟩, len⟩ := h
  unfold begP
  have hkI : ∀ k, Only m k → I k := fun k e => (show k = m from e) ▸ i1
  cases hp : s.ph with
  | fresh =>
    rw [hp] at hP
    obtain ⟨rfl, ai, av, rfl, hA⟩ := hP
    dsimp only
    by_cases hr : 1 ≤ s.rd ∧ s.rd ≤ 1099511627776
    · rw [if_pos hr]
      refine (begin_any m a cap s.x ai av w hM hr.1 hr.2 (by show s.zs.length ≤ _; omega)).mono ?_
      rintro e w' ⟨la, lc, qs, tb, bb, at', ct, rfl, hq, hMs, hM', hT, hB, hk⟩
      have hs := hk.size
      have hkI' : Kept I w w' := hk.mono (fun k _ e => hkI k e)
      refine MOut.mk rfl hq hMs ⟨⟨a, cap, 146, _, hM', .inl i1, fun k e => .inl (i2 k e), rfl, hr.1, hr.2, ai, av, tb, bb, at', ct, _, rfl, (hA.kept5 (I' := fun k => I k ∨ w.heap.size ≤ k) hk (fun k e b => ⟨fun f => ?_, .inl e⟩)).of rfl rfl, hT, LkR.new _ _ _, fun k e => .inr (hB k e), uq_nd hM.nd⟩, len⟩ hkI'
      obtain ⟨cs, hb⟩ := b
      exact box_ne hb hM.box (by decide) f
    · rw [if_neg hr]
      refine (mBegin_w m a cap s.x ai av w hM hr).mono ?_
      rintro e w' ⟨rfl, hM', hk⟩
      exact MOut.nil rfl ⟨⟨a, cap, 139, _, hM', .inl i1, fun k e => .inl (i2 k e), rfl, none, 0, rfl, by simp, fun i hi => by simp at hi, fun k e => absurd e At.none⟩, len⟩ (hk.mono (fun k _ e => hkI k e))
  | ask X =>
    rw [hp] at hP
    obtain ⟨rfl, _, _, ai, av, tb, bb, at', ct, Y, rfl, _⟩ := hP
    exact (mBegin_A m a cap s.x _ _ w hM).mono fun e w' he => MOut.same he.1 h0 he.2
  | lay b U =>
    rw [hp] at hP
    obtain ⟨rfl, pa, pk, da, dc, ub, ubb, ua, ut, rfl, _⟩ := hP
    exact (mBegin_L m a cap s.x _ _ _ _ _ _ _ _ _ _ _ _ w hM).mono fun e w' he => MOut.same he.1 h0 he.2
  | fin er st z =>
    rw [hp] at hP
    obtain ⟨rfl, da, dc, rfl, _⟩ := hP
    exact (mBegin_E m a cap s.x _ _ _ _ _ _ w hM).mono fun e w' he => MOut.same he.1 h0 he.2

section
variable {R : Bp → Bq → Prop} {X : TS Bp} {Y : TS Bq}
theorem LkR.nn (h : LkR R X Y) (n : Int) : (X.v n).isNone = (Y.v n).isNone := by
  cases e : X.v n with
  | none => rw [h.no n e]; rfl
  | some b => obtain ⟨k, h1, _⟩ := h.so n b e; rw [h1]; rfl
theorem LkR.take (h : LkR R X Y) {b : Bp} {k : Bq} (hb : R b k) (s : Int) : LkR R (takeS X s b) (takeS Y s k) := by
  have hm := may2 h.g h.need h.nn s
  refine ⟨by rw [takeS_g, takeS_g, h.g], ?_, fun n e => ?_, fun n p e => ?_⟩
  · unfold takeS; split <;> split <;> exact h.need
  · rw [takeS_v] at e ⊢
    rw [hm]
    split at e
    · cases e
    · rename_i hc; rw [if_neg hc]; exact h.no n e
  · rw [takeS_v] at e ⊢
    rw [hm]
    split at e
    · rename_i hc; cases e; rw [if_pos hc]; exact ⟨k, rfl, hb⟩
    · rename_i hc; rw [if_neg hc]; exact h.so n p e
theorem LkR.got (h : LkR R X Y) : Two2 R ((gotL X).map Prod.snd) ((gotL Y).map Prod.snd) := by
  unfold gotL
  rw [h.g]
  exact got2 X.v Y.v X.g (fun n _ e => h.no n e) (fun n _ b e => h.so n b e)
abbrev pAt' := @Go.Proofs.Ythnecaejhnojfaa.pAt
theorem best2 (hR : ∀ b k, R b k → k.n = b.st.n ∧ k.c = b.st.c) {l : List Bp} {k : List Bq} (h : Two2 R l k) (h0 : 0 < l.length) : R (bestB l) (bestP k) := by
  have hl := h.1
  have hat : ∀ i, i < l.length → R (bpAt l i) (pAt' k i) := fun i hi => by
    have hk : i < k.length := by omega
    have e1 : l[i]? = some (bpAt l i) := by simp [bpAt, List.getElem?_eq_getElem hi]
    have e2 : k[i]? = some (pAt' k i) := by simp [pAt', Go.Proofs.Ythnecaejhnojfaa.pAt, List.getElem?_eq_getElem hk]
    exact h.2 i _ _ e1 e2
  have hb : bi (fun i j => lsP (bpAt l i) (bpAt l j)) (l.length - 1) = bi (ltP k) (k.length - 1) := by
    rw [hl]
    refine bi_congr _ (fun i j hi hj => ?_)
    have a1 := hR _ _ (hat i (by omega))
    have a2 := hR _ _ (hat j (by omega))
    unfold ltP lessK lsP
    show _ = lessB (pAt' k i).n (pAt' k i).c (pAt' k j).n (pAt' k j).c
    rw [a1.1, a1.2, a2.1, a2.2]
  have hlt := bi_le (ltP k) (k.length - 1)
  unfold bestB bestP
  rw [hb]
  exact hat _ (by omega)
theorem any2 (hR : ∀ b k, R b k → k.n = b.st.n ∧ k.c = b.st.c) {l : List Bp} {k : List Bq} (h : Two2 R l k) (h0 : 0 < l.length) : k.any (otherB (bestP k)) = l.any (othP (bestB l)) := by
  have hb := hR _ _ (best2 hR h h0)
  refine (Two2.any (R := R) (fun a b hr => ?_) h).symm
  unfold othP otherB
  rw [(hR _ _ hr).1, (hR _ _ hr).2, hb.1, hb.2]
end
/-- Tick. -/
theorem tick_M {w : World} {I : Nat → Prop} {m : Nat} {s : RM} (h : Mch w I m s) : Calls Try.prog 62 #[.pointer (some ⟨m, 0, none⟩)] w (MOut w I m (s, tikP s)) := by
  have h0 := h
  obtain ⟨⟨a, cap, t, v, hM, i1, i2, hP⟩, len⟩ := h
  unfold tikP
  cases hp : s.ph with
  | fresh =>
    rw [hp] at hP
    obtain ⟨rfl, ai, av, rfl, hA⟩ := hP
    exact (mTick_0 m a cap s.x _ w hM).mono fun e w' he => MOut.same he.1 h0 he.2
  | ask X =>
    rw [hp] at hP
    obtain ⟨rfl, r0, r1, ai, av, tb, bb, at', ct, Y, rfl, hA, hT, hL, hI, hg⟩ := hP
    refine (machTickA_any m a cap s.x ai av tb bb ct at' Y w hM hT (by rw [hL.g, hg]; omega)).mono ?_
    rintro e w' ⟨la, lc, qs, rfl, hq, hMs, hk⟩
    exact MOut.mk rfl (by rw [hq]; exact miss2 hL.g hL.nn) hMs ((h0.no hk).wide (fun k e => .inl e)) hk.of_no
  | lay b U =>
    rw [hp] at hP
    obtain ⟨rfl, pa, pk, da, dc, ub, ubb, ua, ut, rfl, hz, hb, hpI, hd, hdI, hT, hI, hg⟩ := hP
    refine (machTickL_any m a cap s.x b.st.n b.st.c pa b.z.length pk 0 b.st.n b.st.c da (resP s b).length dc ub ubb ut ua U b.z w hM hT (by rw [hg]; omega) rfl (by omega) hb.bytes).mono ?_
    rintro e w' ⟨la, lc, qs, rfl, hq, hMs, hk⟩
    exact MOut.mk rfl hq hMs ((h0.no hk).wide (fun k e => .inl e)) hk.of_no
  | fin er st z =>
    rw [hp] at hP
    obtain ⟨rfl, da, dc, rfl, _⟩ := hP
    exact (machTickE_any m a cap s.x _ _ _ _ _ _ w hM).mono fun e w' he => MOut.same he.1 h0 he.2
/-- Done, Round. -/
def donP (s : RM) : Int × Sp × List Int × Bool := match s.ph with
  | .fin er st z => (er, st, z, true)
  | _ => (0, spZ, [], false)
theorem done_M {w : World} {I : Nat → Prop} {m : Nat} {s : RM} (h : Mch w I m s) : Calls Try.prog 59 #[.pointer (some ⟨m, 0, none⟩)] w (DoneOut w (donP s).1 (donP s).2.1.n (donP s).2.1.c (donP s).2.2.1 (donP s).2.2.2) := by
  obtain ⟨⟨a, cap, t, v, hM, i1, i2, hP⟩, len⟩ := h
  unfold donP
  cases hp : s.ph with
  | fresh =>
    rw [hp] at hP
    obtain ⟨rfl, ai, av, rfl, hA⟩ := hP
    exact done_0 m a cap s.x _ w hM
  | ask X =>
    rw [hp] at hP
    obtain ⟨rfl, r0, r1, ai, av, tb, bb, at', ct, Y, rfl, _⟩ := hP
    exact doneA_any m a cap s.x _ _ w hM
  | lay b U =>
    rw [hp] at hP
    obtain ⟨rfl, pa, pk, da, dc, ub, ubb, ua, ut, rfl, _⟩ := hP
    exact machDoneL_any m a cap s.x _ _ _ _ _ _ _ _ _ _ _ _ w hM
  | fin er st z =>
    rw [hp] at hP
    obtain ⟨rfl, da, dc, rfl, hz, hd, hI⟩ := hP
    exact machDoneE_any m a cap s.x _ _ _ _ _ _ z w hM rfl (by omega) hd
theorem round_M {w : World} {I : Nat → Prop} {m : Nat} {s : RM} (h : Mch w I m s) : Calls Try.prog 60 #[.pointer (some ⟨m, 0, none⟩)] w (fun e w' => e = .returned (.int .i64 s.rd) ∧ w' = w) := by
  obtain ⟨⟨a, cap, t, v, hM, i1, i2, hP⟩, len⟩ := h
  exact round_any m a cap s.x t v w hM

end Go.Proofs.Ythnecaejhnojfaa.Md
namespace Go.Proofs.Ythnecaejhnojfaa.Md
open Go.RowKit
set_option linter.unusedVariables false
set_option linter.unusedSimpArgs false

theorem box_map {w : World} {k b : Nat} {t : TypeId} {cs : Array Value} {g : Int → Option Value} (h : Box w k t cs) (hm : MapIs w b g) : k ≠ b := by
  rintro rfl
  obtain ⟨es, clock, hh, _⟩ := hm
  unfold Box at h
  rw [hh] at h
  cases h
theorem off_tal {α : Type} {T t : TypeId} {f : Option α → Value} {w : World} {tb bb ct : Nat} {at' : Option Addr} {X : TS α} (h : Tal T f w tb bb at' ct X) {k : Nat} (hb : ∃ cs, Box w k t cs) (ht : t ≠ T) : ¬ Tb2 tb bb k := by
  obtain ⟨cs, hb⟩ := hb
  rintro (e | e)
  · exact box_ne hb h.box ht e
  · exact box_map hb h.map e
theorem off_mb {α : Type} {T : TypeId} {f : Option α → Value} {w : World} {tb bb ct : Nat} {at' : Option Addr} {X : TS α} (h : Tal T f w tb bb at' ct X) {m : Nat} {a : Option Addr} {cap : Nat} {x : MS} {t : TypeId} {v : Value} (hM : Mach w m a cap x t v) (h1 : (109 : TypeId) ≠ T) (h2 : (3 : TypeId) ≠ T) : ∀ k, MB m a k → ¬ Tb2 tb bb k := by
  rintro k (e | e)
  · subst e; exact off_tal h ⟨_, hM.box⟩ h1
  · exact off_tal h (Own.ty hM.row e) h2
theorem MOut.after {w wr w' : World} {I : Nat → Prop} {m : Nat} {o : RM × To} {e : Ending} (hk : Kept No w wr) (h : MOut wr I m o e w') : MOut w I m o e w' := by
  obtain ⟨la, lc, qs, I', he, hq, hMs, hm, hI, hk2⟩ := h
  have hs := hk.size
  exact ⟨la, lc, qs, I', he, hq, ⟨Own.lower hMs.row hs, fun q h => Own.lower (hMs.own q h) hs, hMs.ord, hMs.len⟩, hm, fun k e => ⟨(hI k e).1.imp id (fun h => by omega), (hI k e).2⟩, hk.of_no.then hk2⟩
theorem MOut.form {w w' : World} {I : Nat → Prop} {m : Nat} {o : RM × To} {e : Ending} (h : MOut w I m o e w') : ∃ a l c, e = .returned (.slice a l c) := by
  obtain ⟨la, lc, qs, I', he, _⟩ := h
  exact ⟨_, _, _, he⟩
/-- Take in the second phase. -/
theorem takeL_M {w : World} {I : Nat → Prop} {m : Nat} {s : RM} (h : Mch w I m s) (d : Mg) (b : Bp) (U : TS Unit) (hp : s.ph = .lay b U) (z : List Int) : Calls Try.prog 61 #[.pointer (some ⟨m, 0, none⟩), .agg (Mg.cells d)] w (MOut w I m (takP s d z)) := by
  have h0 := h
  obtain ⟨⟨a, cap, t, v, hM, i1, i2, hP⟩, len⟩ := h
  rw [hp] at hP
  obtain ⟨rfl, pa, pk, da, dc, ub, ubb, ua, ut, rfl, hz, hb, hpI, hd, hdI, hT, hI, hg⟩ := hP
  refine machTakeL_any m a cap s.x _ _ (mdOf d) w _ hM (mdOk d) (fun w => meth_takeL _ _ _ _ _ _ _ _ _ _ _ _ w) (fun wr hk => ?_)
  have key : Calls Try.prog 94 #[layV b.st.n b.st.c pa b.z.length pk 0 b.st.n b.st.c da (resP s b).length dc ub, .pointer (some ⟨m, 0, none⟩), .agg (mdOf d).cells] wr (MOut wr I m (takP s d z)) := by
    have hM' := hM.no hk
    have hT' := hT.no hk
    have h1 := h0.no hk
    have hoff := off_mb hT' hM' (by decide) (by decide)
    have h5 : ∀ k, (∃ cs, Box wr k 5 cs) → ¬ (fun k => k = m ∨ Tb2 ub ubb k) k := fun k hb e => by
      rcases e with e | e
      · obtain ⟨cs, hb⟩ := hb; exact box_ne hb hM'.box (by decide) e
      · exact off_tal hT' hb (by decide) e
    have hpr : OwnB wr 0 pa pk b.z := Own.kept hb hk (fun _ _ e => e)
    have hdr : Bytes wr da (resP s b) := Nums.kept hd hk (fun _ _ _ e => e)
    have hdb : ∀ k, At da k → I k ∧ ∃ cs, Box wr k 5 cs := fun k e => ⟨(hdI k e).1, boxKept (hdI k e).2 hk (fun e => e)⟩
    have hmI : ∀ k, (k = m ∨ Tb2 ub ubb k) → I k := fun k e => by
      rcases e with rfl | e | e
      · exact i1
      · exact hI k (.inl e)
      · exact hI k (.inr (.inl e))
    unfold takP
    rw [hp]
    dsimp only
    unfold hitP
    cases hh : hitB s.x 12 (mdOf d) with
    | false =>
      rw [if_neg (by simp)]
      exact (takeL_pass m a cap s.x 160 _ _ _ _ _ _ _ _ _ _ _ _ ub ubb ut ua U (mdOf d) wr hM' hT' (mdOk d) hh).mono fun e w' he => MOut.same he.1 h1 he.2
    | true =>
      rw [if_pos rfl]
      cases ht : takeB U d.fr.id with
      | false =>
        rw [if_neg (by simp)]
        refine (takeL_no m a cap s.x 160 _ b.st.n b.st.c pa b.z.length pk 0 b.st.n b.st.c da (resP s b).length dc ub ubb ut ua U (mdOf d) wr hM' hT' (mdOk d) hh ht).mono ?_
        rintro e w' ⟨rfl, hT2, hk2⟩
        refine MOut.nil rfl ⟨⟨a, cap, 160, _, hM'.kept hk2 hoff, .inl i1, fun k e => .inl (i2 k e), rfl, pa, pk, da, dc, ub, ubb, ua, ut, rfl, hz, Own.kept hpr hk2 (fun k e f => h5 k (OwnB.five hpr e) (.inr f)), fun k e => .inl (hpI k e), Nums.kept hdr hk2 (fun k off e f => h5 k (hdb k ⟨_, e, rfl⟩).2 (.inr f)), fun k e => ⟨.inl (hdI k e).1, boxKept (hdb k e).2 hk2 (fun f => h5 k (hdb k e).2 (.inr f))⟩, hT2, fun k e => .inl (hI k e), by rw [takeS_g]; exact hg⟩, len⟩ (hk2.mono (fun k _ e => hmI k (.inr e)))
      | true =>
        rw [if_pos rfl]
        refine (takeL_end m a cap s.x 160 _ b.st.n b.st.c pa b.z.length pk 0 b.st.n b.st.c da (resP s b).length dc ub ubb ut ua U (mdOf d) wr hM' hT' (mdOk d) hh ht hoff).mono ?_
        rintro e w' ⟨rfl, hM2, hT2, hk2⟩
        have hrl : (resP s b).length ≤ 140737488351232 := by
          unfold resP
          split
          · simp
          · exact hz
        exact MOut.nil rfl ⟨⟨a, cap, 139, _, hM2, .inl i1, fun k e => .inl (i2 k e), rfl, da, dc, rfl, hrl, Nums.kept hdr hk2 (fun k off e f => h5 k (hdb k ⟨_, e, rfl⟩).2 f), fun k e => ⟨.inl (hdI k e).1, boxKept (hdb k e).2 hk2 (fun f => h5 k (hdb k e).2 f)⟩⟩, len⟩ (hk2.mono (fun k _ e => hmI k e))
  exact key.mono fun e w' he => ⟨he.form, he.after hk⟩

end Go.Proofs.Ythnecaejhnojfaa.Md
namespace Go.Proofs.Ythnecaejhnojfaa.Md
open Go.RowKit
set_option linter.unusedVariables false
set_option linter.unusedSimpArgs false

theorem got_pos {X : TS Bp} {Y : TS Bq} {R : Bp → Bq → Prop} (h : LkR R X Y) (hc : 1 ≤ cnt Y) : 0 < ((gotL X).map Prod.snd).length := by
  rw [List.length_map, gotL_len, ← cnt2 h.g h.nn]
  omega
theorem bk_nc {w : World} {I : Nat → Prop} (b : Bp) (k : Bq) (h : Bk2 w I b k) : k.n = b.st.n ∧ k.c = b.st.c := ⟨h.1, h.2.1⟩
/-- A machine that asks, behind a Take: what must be known. -/
theorem ask_state {w w' : World} {I : Nat → Prop} {m : Nat} {s : RM} {d : Mg} {X : TS Bp} {Y : TS Bq} {kp : Bp} {b : Bq} {a : Option Addr} {cap : Nat} {tb bb ct : Nat} {at' : Option Addr} {ai : TypeId} {av : Value}
    (len : s.zs.length ≤ 1000) (r0 : 1 ≤ s.rd) (r1 : s.rd ≤ 1099511627776) (i1 : I m) (i2 : ∀ k, At a k → I k) (hI : ∀ k, TB tb bb at' k → I k) (hg : X.g = s.zs)
    (hM : Mach w' m a cap s.x 146 (.agg #[.iface ai av, .pointer (some ⟨tb, 0, none⟩)])) (hA : AimAt w' (fun k => I k ∨ w.heap.size ≤ k) s ai av) (hT : Tal 149 ansB w' tb bb at' ct (takeS Y d.fr.id b)) (hL : Lk w' (fun k => I k ∨ w.heap.size ≤ k) (takeS X d.fr.id kp) (takeS Y d.fr.id b)) :
    Mch w' (fun k => I k ∨ w.heap.size ≤ k) m { s with ph := .ask (takeS X d.fr.id kp) } :=
  ⟨⟨a, cap, 146, _, hM, .inl i1, fun k e => .inl (i2 k e), rfl, r0, r1, ai, av, tb, bb, at', ct, _, rfl, hA.of rfl rfl, hT, hL, fun k e => .inl (hI k e), by rw [takeS_g]; exact hg⟩, len⟩
/-- Take of a write in its first phase. -/
theorem takeW_M {w : World} {I : Nat → Prop} {m : Nat} {s : RM} (h : Mch w I m s) (d : Mg) (X : TS Bp) (hp : s.ph = .ask X) (z0 : List Int) (ha : s.aim = .wr z0) (z : List Int) (h63 : -9223372036854775808 ≤ d.st.n) : Calls Try.prog 61 #[.pointer (some ⟨m, 0, none⟩), .agg (Mg.cells d)] w (MOut w I m (takP s d z)) := by
  have h0 := h
  obtain ⟨⟨a, cap, t, v, hM, i1, i2, hP⟩, len⟩ := h
  rw [hp] at hP
  obtain ⟨rfl, r0, r1, ai, av, tb, bb, at', ct, Y, rfl, hA, hT, hL, hI, hg⟩ := hP
  have hA0 := hA
  unfold AimAt at hA
  rw [ha] at hA
  obtain ⟨rfl, hzl, da, dk, rfl, hO, hdI⟩ := hA
  refine machTakeA_any m a cap s.x _ _ (mdOf d) w _ hM (mdOk d) (fun w => meth_takeA _ _ w) (fun wr hk => ?_)
  obtain ⟨R, hR⟩ : ∃ R : Bq → Sq, R = fun b => if 1099511627776 ≤ (bestP ((gotL (takeS Y d.fr.id b)).map Prod.snd)).n then ⟨0, 0, none, 0, 0, 4, 0, 0, none, 0, 0, true⟩ else ⟨(bestP ((gotL (takeS Y d.fr.id b)).map Prod.snd)).n + 1, s.cl, da, z0.length, dk, 0, (bestP ((gotL (takeS Y d.fr.id b)).map Prod.snd)).n + 1, s.cl, none, 0, 0, false⟩ := ⟨_, rfl⟩
  have hM' := hM.no hk
  have hT' := hT.no hk
  have h1 := h0.no hk
  have hL' : Lk wr I X Y := hL.kept hk (fun k e _ => ⟨fun f => f, e⟩)
  have hO' : OwnB wr 0 da dk z0 := Own.kept hO hk (fun _ _ e => e)
  have hA' : AimAt wr I s 87 _ := hA0.kept hk (fun k e _ => ⟨fun f => f, e⟩)
  have hoff := off_mb hT' hM' (by decide) (by decide)
  have h5 : ∀ k, (∃ cs, Box wr k 5 cs) → ¬ (k = m ∨ Tb2 tb bb k) := fun k hb e => by
    rcases e with e | e
    · obtain ⟨cs, hb⟩ := hb; exact box_ne hb hM'.box (by decide) e
    · exact off_tal hT' hb (by decide) e
  have hmI : ∀ k, (k = m ∨ Tb2 tb bb k) → I k := fun k e => by
    rcases e with rfl | e | e
    · exact i1
    · exact hI k (.inl e)
    · exact hI k (.inr (.inl e))
  have hyl : Y.g.length ≤ 1000 := by rw [hL.g, hg]; exact len
  have hkp : keepP s d z = ⟨d.st, []⟩ := by unfold keepP; rw [ha]
  have key : Calls Try.prog 81 #[.agg #[.iface 87 (.agg #[.int .i64 s.cl, .slice da z0.length dk]), .pointer (some ⟨tb, 0, none⟩)], .pointer (some ⟨m, 0, none⟩), .agg (Mg.cells d)] wr (MOut wr I m (takP s d z)) := by
    refine (takeA_W m a cap s.x s.cl da z0.length dk tb bb ct at' Y d d.st.n d.st.c [] R (fun _ => z0) wr hM' hT' (by show s.zs.length ≤ 1000; exact len) hyl (by show 0 ≤ s.rd; omega) r1 (fun _ wr' _ => keepW_any s.cl da z0.length dk (mdOf d) wr') ?_ ?_ ?_ hoff).mono ?_
    · intro b hbn hbc wr'
      rw [hR]
      dsimp only
      have hbest : -9223372036854775808 ≤ (bestP ((gotL (takeS Y d.fr.id b)).map Prod.snd)).n := by
        have hmem : ∀ p ∈ (gotL (takeS Y d.fr.id b)).map Prod.snd, -9223372036854775808 ≤ p.n := fun p hp' => by
          obtain ⟨n, hn⟩ := got_mem hp'
          rw [takeS_v] at hn
          split at hn
          · cases hn; rw [hbn]; exact h63
          · cases hx : X.v n with
            | none => rw [hL.no n hx] at hn; cases hn
            | some q => obtain ⟨k, hk1, hk2⟩ := hL.so n q hx; rw [hk1] at hn; cases hn; rw [hk2.1]; exact hk2.2.2.2.2.1
        unfold bestP Go.Proofs.Ythnecaejhnojfaa.pAt
        cases hx : ((gotL (takeS Y d.fr.id b)).map Prod.snd)[bi (ltP ((gotL (takeS Y d.fr.id b)).map Prod.snd)) (((gotL (takeS Y d.fr.id b)).map Prod.snd).length - 1)]? with
        | none => show _ ≤ (default : Bq).n; exact (by decide)
        | some p => exact hmem p (List.mem_of_getElem? hx)
      generalize bestP ((gotL (takeS Y d.fr.id b)).map Prod.snd) = G at hbest ⊢
      generalize (!((gotL (takeS Y d.fr.id b)).map Prod.snd).any (otherB G)) = al
      split
      · rename_i hc; exact settleX_any s.cl da z0.length dk G.n G.c G.a G.l G.k al wr' hc
      · rename_i hc; exact settleW_any s.cl da z0.length dk G.n G.c G.a G.l G.k al wr' (by omega) hbest
    · intro ka kk _ he
      rw [hR] at he ⊢
      dsimp only at he ⊢
      split at he
      · cases he
      · rename_i hc; rw [if_neg hc]; exact ⟨rfl, by show z0.length ≤ _; omega⟩
    · intro ka kk wr' hk' hO2 _ he
      rw [hR] at he ⊢
      dsimp only at he ⊢
      split at he
      · cases he
      · rename_i hc
        rw [if_neg hc]
        exact ⟨OwnB.bytes (base := 0) (cap := dk) (Own.kept hO' hk' (fun k e f => h5 k (OwnB.five hO' e) (.inr f))), fun e => by
          obtain ⟨cs, hb⟩ := OwnB.five hO' e
          exact box_ne hb hM'.box (by decide) rfl⟩
    · intro e w' ho
      unfold takP
      rw [hp]
      dsimp only
      unfold hitP
      rcases ho with ⟨hh, rfl, hk2⟩ | ⟨hh, ka, kk, b, hb, hO2, hk2, hT2, hcase⟩
      · rw [hh, if_neg (by simp)]
        exact MOut.same rfl h1 hk2
      · rw [hh, if_pos rfl, hkp]
        have hs := hk2.size
        have hkI : Kept I wr w' := hk2.mono (fun k _ e => hmI k e)
        have hbk : Bk2 w' (fun k => I k ∨ wr.heap.size ≤ k) ⟨d.st, []⟩ b := by
          rw [hb]
          exact ⟨rfl, rfl, rfl, by simp, h63, Own.lower hO2 (Nat.zero_le _), fun j e => .inr (Own.base hO2 e)⟩
        have hL2 : Lk w' (fun k => I k ∨ wr.heap.size ≤ k) X Y := hL'.kept5 hk2 (fun k e hb => ⟨h5 k hb, .inl e⟩)
        have hL3 := hL2.take hbk d.fr.id
        have hA2 : AimAt w' (fun k => I k ∨ wr.heap.size ≤ k) s 87 _ := hA'.kept5 hk2 (fun k e hb => ⟨h5 k hb, .inl e⟩)
        have hO3 : OwnB w' 0 da dk z0 := Own.kept hO' hk2 (fun k e f => h5 k (OwnB.five hO' e) f)
        rw [← takeB2 hL.g hL.need hL.nn]
        rcases hcase with ⟨ht, rfl, hM2⟩ | ⟨ht, he, rfl, hM2⟩ | ⟨ht, he, hrd, rfl, hM2⟩ | ⟨ht, he, hrd, ub, ubb, ut, ua, la, lc, qs, rfl, hq, hMs, hM2, hU, hUb⟩
        · rw [ht, if_neg (by simp)]
          exact MOut.nil rfl (ask_state len r0 r1 i1 i2 hI hg hM2 hA2 hT2 hL3) hkI
        all_goals
          rw [ht, if_pos rfl]
          have hcn : 1 ≤ cnt (takeS Y d.fr.id b) := take_cnt hT.nd ht
          have hbe := best2 bk_nc hL3.got (got_pos hL3 hcn)
          unfold setP
          rw [ha]
          dsimp only
          rw [hR] at he
          dsimp only at he
          rw [hbe.1] at he
        · split at he
          · rename_i hc
            rw [hR] at hM2
            dsimp only at hM2
            rw [hbe.1, if_pos hc] at hM2
            rw [if_pos hc]
            exact MOut.nil rfl ⟨⟨a, cap, 139, _, hM2, .inl i1, fun k e => .inl (i2 k e), rfl, none, 0, rfl, by simp, fun i hi => by simp at hi, fun k e => absurd e At.none⟩, len⟩ hkI
          · cases he
        · split at he
          · cases he
          · rename_i hc
            rw [if_neg hc]
            unfold layP
            rw [if_pos (show s.rd = 1099511627776 from hrd)]
            exact MOut.nil rfl ⟨⟨a, cap, 139, _, hM2, .inl i1, fun k e => .inl (i2 k e), rfl, none, 0, rfl, by simp, fun i hi => by simp at hi, fun k e => absurd e At.none⟩, len⟩ hkI
        · split at he
          · cases he
          · rename_i hc
            rw [hR] at hM2
            dsimp only at hM2
            rw [hbe.1, if_neg hc] at hM2
            rw [if_neg hc]
            unfold layP
            rw [if_neg (show ¬ s.rd = 1099511627776 from hrd)]
            rw [hR] at hMs
            dsimp only at hMs
            rw [hbe.1, if_neg hc] at hMs
            refine MOut.mk rfl hq hMs ⟨⟨a, cap, 160, _, hM2, .inl i1, fun k e => .inl (i2 k e), rfl, da, dk, none, 0, ub, ubb, ua, ut, ?_, hzl, hO3, fun k e => .inl (hdI k e), ?_, fun k e => absurd e At.none, hU, fun k e => .inr (hUb k e), uq_nd hM.nd⟩, len⟩ hkI
            · simp [resP, ha]
            · simp [resP, ha]; exact fun i hi => by simp at hi
  exact key.mono fun e w' he => ⟨he.form, he.after hk⟩

end Go.Proofs.Ythnecaejhnojfaa.Md
