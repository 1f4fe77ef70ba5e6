import Derived.Test.YtgiokkcdgoloaaaQa
namespace Go.Proofs.Ytgiokkcdgoloaaa.Md
open Go.RowKit
set_option linter.unusedVariables false
set_option linter.unusedSimpArgs false

/-- A block: its stamp and its bytes; what a machine is for; where it stands; a machine; what it tells. -/
structure Bp where
  st : Sp
  z : List Int
inductive Aim
  | wr (z : List Int)
  | rd (n : Nat)
inductive Rp
  | fresh
  | ask (X : TS Bp)
  | lay (b : Bp) (U : TS Unit)
  | fin (er : Int) (st : Sp) (z : List Int)
structure RM where
  cl : Int
  op : Int
  ky : Ky
  zs : List Int
  rd : Int
  aim : Aim
  ph : Rp
structure To where
  k : Int
  st : Sp
  z : List Int
  ss : List Int
def toZ : To := ⟨0, spZ, [], []⟩
def RM.x (s : RM) : MS := ⟨s.cl, s.op, s.ky.k, s.ky.a, s.ky.b, s.ky.c, s.zs, s.rd⟩
def RM.need (s : RM) : Int := (s.zs.length : Int) / 2 + 1
def RM.isW (s : RM) : Bool := match s.aim with | .wr _ => true | .rd _ => false
def begP (s : RM) : RM × To := match s.ph with
  | .fresh => if 1 ≤ s.rd ∧ s.rd ≤ 1099511627776 then ({ s with ph := .ask (tNew Bp s.zs s.need) }, ⟨1, spZ, [], s.zs⟩) else ({ s with ph := .fin 4 spZ [] }, toZ)
  | _ => (s, toZ)
def tikP (s : RM) : To := match s.ph with
  | .ask X => ⟨1, spZ, [], missL X⟩
  | .lay b U => ⟨2, b.st, b.z, missL U⟩
  | _ => toZ
def hitP (s : RM) (k : Int) (d : Mg) : Bool := hitB s.x k (mdOf d)
def keepP (s : RM) (d : Mg) (z : List Int) : Bp := match s.aim with
  | .wr _ => ⟨d.st, []⟩
  | .rd n => if d.st.n = 0 ∧ d.st.c = 0 then ⟨spZ, List.replicate n 0⟩ else ⟨d.st, z⟩
def lsP (a b : Bp) : Bool := lessB a.st.n a.st.c b.st.n b.st.c
def bpZ : Bp := ⟨spZ, []⟩
def bpAt (l : List Bp) (i : Nat) : Bp := l[i]?.getD bpZ
def bestB (l : List Bp) : Bp := bpAt l (bi (fun i j => lsP (bpAt l i) (bpAt l j)) (l.length - 1))
def othP (g p : Bp) : Bool := !(p.st.n == g.st.n && p.st.c == g.st.c)
def layP (s : RM) (b : Bp) : RM × To := if s.rd = 1099511627776 then ({ s with ph := .fin 4 spZ [] }, toZ) else ({ s with rd := s.rd + 1, ph := .lay b (tNew Unit s.zs s.need) }, ⟨2, b.st, b.z, s.zs⟩)
def setP (s : RM) (l : List Bp) : RM × To := match s.aim with
  | .wr z => if 1099511627776 ≤ (bestB l).st.n then ({ s with ph := .fin 4 spZ [] }, toZ) else layP s ⟨⟨(bestB l).st.n + 1, s.cl⟩, z⟩
  | .rd _ => if l.any (othP (bestB l)) then layP s (bestB l) else ({ s with ph := .fin 0 (bestB l).st (bestB l).z }, toZ)
def resP (s : RM) (b : Bp) : List Int := match s.aim with | .wr _ => [] | .rd _ => b.z
def takP (s : RM) (d : Mg) (z : List Int) : RM × To := match s.ph with
  | .ask X => if hitP s 11 d then (if takeB X d.fr.id then setP s ((gotL (takeS X d.fr.id (keepP s d z))).map Prod.snd) else ({ s with ph := .ask (takeS X d.fr.id (keepP s d z)) }, toZ)) else (s, toZ)
  | .lay b U => if hitP s 12 d then (if takeB U d.fr.id then ({ s with ph := .fin 0 b.st (resP s b) }, toZ) else ({ s with ph := .lay b (takeS U d.fr.id ()) }, toZ)) else (s, toZ)
  | _ => (s, toZ)
/-- A block that is kept, in memory; the tally's answers in memory. -/
def Bk2 (w : World) (I : Nat → Prop) (b : Bp) (k : Bq) : Prop := k.n = b.st.n ∧ k.c = b.st.c ∧ k.l = b.z.length ∧ b.z.length ≤ 140737488351232 ∧ -9223372036854775808 ≤ b.st.n ∧ OwnB w 0 k.a k.k b.z ∧ ∀ j, At k.a j → I j
structure LkR (R : Bp → Bq → Prop) (X : TS Bp) (Y : TS Bq) : Prop where
  g : Y.g = X.g
  need : Y.need = X.need
  no : ∀ n, X.v n = none → Y.v n = none
  so : ∀ n b, X.v n = some b → ∃ k : Bq, Y.v n = some k ∧ R b k
abbrev Lk (w : World) (I : Nat → Prop) (X : TS Bp) (Y : TS Bq) : Prop := LkR (Bk2 w I) X Y
theorem LkR.mono {R R' : Bp → Bq → Prop} {X : TS Bp} {Y : TS Bq} (h : LkR R X Y) (hR : ∀ b k, R b k → R' b k) : LkR R' X Y :=
  ⟨h.g, h.need, h.no, fun n b e => by obtain ⟨k, h1, h2⟩ := h.so n b e; exact ⟨k, h1, hR b k h2⟩⟩
def AimAt (w : World) (I : Nat → Prop) (s : RM) (ai : TypeId) (av : Value) : Prop := match s.aim with
  | .wr z => ai = 118 ∧ z.length ≤ 140737488351232 ∧ ∃ da dk, av = .agg #[.int .i64 s.cl, .slice da z.length dk] ∧ OwnB w 0 da dk z ∧ ∀ k, At da k → I k
  | .rd n => ai = 120 ∧ n ≤ 4096 ∧ av = .agg #[.int .i64 (n : Int)]
def PhM (w : World) (I : Nat → Prop) (s : RM) (t : TypeId) (v : Value) : Rp → Prop
  | .fresh => t = 138 ∧ ∃ ai av, v = .agg #[.iface ai av] ∧ AimAt w I s ai av
  | .ask X => t = 182 ∧ 1 ≤ s.rd ∧ s.rd ≤ 1099511627776 ∧ ∃ ai av tb bb at' ct Y, v = .agg #[.iface ai av, .pointer (some ⟨tb, 0, none⟩)] ∧ AimAt w I s ai av ∧ Tal 185 ansB w tb bb at' ct Y ∧ Lk w I X Y ∧ (∀ k, TB tb bb at' k → I k) ∧ X.g = s.zs
  | .lay b U => t = 195 ∧ ∃ pa pk da dc ub ubb ua ut, v = layV b.st.n b.st.c pa b.z.length pk 0 b.st.n b.st.c da (resP s b).length dc ub ∧ b.z.length ≤ 140737488351232 ∧ OwnB w 0 pa pk b.z ∧ (∀ k, At pa k → I k) ∧ Bytes w da (resP s b) ∧ (∀ k, At da k → I k ∧ ∃ cs, Box w k 5 cs) ∧ Tal 150 ansU w ub ubb ua ut U ∧ (∀ k, TB ub ubb ua k → I k) ∧ U.g = s.zs
  | .fin er st z => t = 177 ∧ ∃ da dc, v = endV er st.n st.c da z.length dc ∧ z.length ≤ 140737488351232 ∧ Bytes w da z ∧ ∀ k, At da k → I k ∧ ∃ cs, Box w k 5 cs
structure Mch (w : World) (I : Nat → Prop) (m : Nat) (s : RM) : Prop where
  ex : ∃ a cap t v, Mach w m a cap s.x t v ∧ I m ∧ (∀ k, At a k → I k) ∧ PhM w I s t v s.ph
  len : s.zs.length ≤ 1000
theorem boxKept {S : Nat → Prop} {w w' : World} {k : Nat} {t : TypeId} (h : ∃ cs, Box w k t cs) (hk : Kept S w w') (hS : ¬ S k) : ∃ cs, Box w' k t cs := by
  obtain ⟨cs, h⟩ := h
  exact ⟨cs, h.kept hk hS⟩
theorem boxLt {w : World} {k : Nat} {t : TypeId} (h : ∃ cs, Box w k t cs) : k < w.heap.size := by
  obtain ⟨cs, h⟩ := h
  exact h.lt
section
variable {S I I' : Nat → Prop} {w w' : World} {m : Nat} {s : RM}
theorem OwnB.five {w : World} {b : Nat} {a : Option Addr} {c : Nat} {zs : List Int} (h : OwnB w b a c zs) {k : Nat} (e : At a k) : ∃ cs, Box w k 5 cs := Own.ty h e
theorem Bk2.kept5 {b : Bp} {k : Bq} (h : Bk2 w I b k) (hk : Kept S w w') (hS : ∀ k, I k → (∃ cs, Box w k 5 cs) → ¬ S k ∧ I' k) : Bk2 w' I' b k := by
  obtain ⟨h2, h3, h4, h4', h4'', h5, h6⟩ := h
  exact ⟨h2, h3, h4, h4', h4'', Own.kept h5 hk (fun j e => (hS j (h6 j e) (OwnB.five h5 e)).1), fun j e => (hS j (h6 j e) (OwnB.five h5 e)).2⟩
theorem LkR.kept5 {X : TS Bp} {Y : TS Bq} (h : Lk w I X Y) (hk : Kept S w w') (hS : ∀ k, I k → (∃ cs, Box w k 5 cs) → ¬ S k ∧ I' k) : Lk w' I' X Y := by
  refine ⟨h.g, h.need, h.no, fun n b e => ?_⟩
  obtain ⟨k, h1, h2⟩ := h.so n b e
  exact ⟨k, h1, h2.kept5 hk hS⟩
theorem LkR.kept {X : TS Bp} {Y : TS Bq} (h : Lk w I X Y) (hk : Kept S w w') (hS : ∀ k, I k → k < w.heap.size → ¬ S k ∧ I' k) : Lk w' I' X Y := h.kept5 hk (fun k e b => hS k e (boxLt b))
theorem AimAt.kept5 {ai : TypeId} {av : Value} (h : AimAt w I s ai av) (hk : Kept S w w') (hS : ∀ k, I k → (∃ cs, Box w k 5 cs) → ¬ S k ∧ I' k) : AimAt w' I' s ai av := by
  unfold AimAt at h ⊢
  split
  · rename_i z hz
    rw [hz] at h
    obtain ⟨h1, h2, da, dk, h3, h4, h5⟩ := h
    exact ⟨h1, h2, da, dk, h3, Own.kept h4 hk (fun j e => (hS j (h5 j e) (OwnB.five h4 e)).1), fun j e => (hS j (h5 j e) (OwnB.five h4 e)).2⟩
  · rename_i n hn
    rw [hn] at h
    exact h
theorem AimAt.kept {ai : TypeId} {av : Value} (h : AimAt w I s ai av) (hk : Kept S w w') (hS : ∀ k, I k → k < w.heap.size → ¬ S k ∧ I' k) : AimAt w' I' s ai av := h.kept5 hk (fun k e b => hS k e (boxLt b))
theorem AimAt.of {s s' : RM} {ai : TypeId} {av : Value} (h : AimAt w I s ai av) (ha : s'.aim = s.aim) (hc : s'.cl = s.cl) : AimAt w I s' ai av := by
  unfold AimAt at h ⊢
  rw [ha, hc]
  exact h
theorem PhM.kept {t : TypeId} {v : Value} {p : Rp} (h : PhM w I s t v p) (hk : Kept S w w') (hS : ∀ k, I k → k < w.heap.size → ¬ S k ∧ I' k) : PhM w' I' s t v p := by
  cases p with
  | fresh => obtain ⟨h1, ai, av, h2, h3⟩ := h; exact ⟨h1, ai, av, h2, h3.kept hk hS⟩
  | ask X =>
    obtain ⟨h1, r0, r1, ai, av, tb, bb, at', ct, Y, h2, h3, h4, h5, h6, h7⟩ := h
    have q : ∀ k, TB tb bb at' k → ¬ S k ∧ I' k := fun k e => hS k (h6 k e) (h4.lt e)
    exact ⟨h1, r0, r1, ai, av, tb, bb, at', ct, Y, h2, h3.kept hk hS, h4.kept hk (fun k e => (q k e).1), h5.kept hk hS, fun k e => (q k e).2, h7⟩
  | lay b U =>
    obtain ⟨h1, pa, pk, da, dc, ub, ubb, ua, ut, h2, h3, h4, h5, h6, h7, h8, h9, h10⟩ := h
    have q : ∀ k, TB ub ubb ua k → ¬ S k ∧ I' k := fun k e => hS k (h9 k e) (h8.lt e)
    have p : ∀ k, At pa k → ¬ S k ∧ I' k := fun k e => hS k (h5 k e) (Own.lt h4 e)
    have d : ∀ k, At da k → ¬ S k ∧ I' k := fun k e => hS k (h7 k e).1 (boxLt (h7 k e).2)
    exact ⟨h1, pa, pk, da, dc, ub, ubb, ua, ut, h2, h3, Own.kept h4 hk (fun k e => (p k e).1), fun k e => (p k e).2, Nums.kept h6 hk (fun b off e => (d b ⟨_, e, rfl⟩).1), fun k e => ⟨(d k e).2, boxKept (h7 k e).2 hk (d k e).1⟩, h8.kept hk (fun k e => (q k e).1), fun k e => (q k e).2, h10⟩
  | fin er st z =>
    obtain ⟨h1, da, dc, h2, h3, h4, h5⟩ := h
    have d : ∀ k, At da k → ¬ S k ∧ I' k := fun k e => hS k (h5 k e).1 (boxLt (h5 k e).2)
    exact ⟨h1, da, dc, h2, h3, Nums.kept h4 hk (fun b off e => (d b ⟨_, e, rfl⟩).1), fun k e => ⟨(d k e).2, boxKept (h5 k e).2 hk (d k e).1⟩⟩
theorem Mch.kept (h : Mch w I m s) (hk : Kept S w w') (hS : ∀ k, I k → k < w.heap.size → ¬ S k ∧ I' k) : Mch w' I' m s := by
  obtain ⟨⟨a, cap, t, v, h1, h2, h3, h4⟩, len⟩ := h
  have q1 := hS m h2 h1.box.lt
  have q2 : ∀ k, At a k → ¬ S k ∧ I' k := fun k e => hS k (h3 k e) (Own.lt h1.row e)
  exact ⟨⟨a, cap, t, v, h1.kept hk (fun k e => by rcases e with rfl | e; exact q1.1; exact (q2 k e).1), q1.2, fun k e => (q2 k e).2, h4.kept hk hS⟩, len⟩
theorem Mch.no (h : Mch w I m s) (hk : Kept No w w') : Mch w' I m s := h.kept hk (fun k e _ => ⟨fun f => f, e⟩)
theorem Mch.cut (h : Mch w I m s) : Mch w (fun k => I k ∧ k < w.heap.size) m s := h.kept (Kept.refl No w) (fun k e l => ⟨fun f => f, e, l⟩)
theorem Mch.wide (h : Mch w I m s) (hS : ∀ k, I k → I' k) : Mch w I' m s := h.kept (Kept.refl No w) (fun k e _ => ⟨fun f => f, hS k e⟩)
end
/-- What a call of a machine tells and leaves. -/
def MOut (w : World) (I : Nat → Prop) (m : Nat) (o : RM × To) (e : Ending) (w' : World) : Prop :=
  ∃ la lc qs I', e = .returned (.slice la qs.length lc) ∧ qs.map Qm.sv = o.2.ss ∧ Msgs w' w.heap.size la lc o.1.x ⟨o.2.k, o.2.st.n, o.2.st.c, o.2.z.length⟩ o.2.z qs ∧ Mch w' I' m o.1 ∧ (∀ k, I' k → (I k ∨ w.heap.size ≤ k) ∧ k < w'.heap.size) ∧ Kept I w w'
theorem MOut.mk {w w' : World} {I : Nat → Prop} {m : Nat} {o : RM × To} {e : Ending} {la : Option Addr} {lc : Nat} {qs : List Qm} (he : e = .returned (.slice la qs.length lc)) (hq : qs.map Qm.sv = o.2.ss) (hM : Msgs w' w.heap.size la lc o.1.x ⟨o.2.k, o.2.st.n, o.2.st.c, o.2.z.length⟩ o.2.z qs) (hm : Mch w' (fun k => I k ∨ w.heap.size ≤ k) m o.1) (hk : Kept I w w') : MOut w I m o e w' :=
  ⟨la, lc, qs, _, he, hq, hM, hm.cut, fun k e => e, hk⟩
theorem MOut.nil {w w' : World} {I : Nat → Prop} {m : Nat} {s : RM} {e : Ending} (he : e = .returned (.slice none 0 0)) (hm : Mch w' (fun k => I k ∨ w.heap.size ≤ k) m s) (hk : Kept I w w') : MOut w I m (s, toZ) e w' :=
  MOut.mk (la := none) (lc := 0) (qs := []) he rfl ⟨Own.nil _ _ _ _, fun q h => (by cases h), List.Pairwise.nil, rfl⟩ hm hk
theorem MOut.same {w w' : World} {I : Nat → Prop} {m : Nat} {s : RM} {e : Ending} (he : e = .returned (.slice none 0 0)) (hm : Mch w I m s) (hk : Kept No w w') : MOut w I m (s, toZ) e w' :=
  MOut.nil he ((hm.no hk).wide (fun k e => .inl e)) hk.of_no
theorem LkR.new (R : Bp → Bq → Prop) (l : List Int) (n : Int) : LkR R (tNew Bp l n) (tNew Bq l n) := ⟨rfl, rfl, fun _ _ => rfl, fun n b e => by cases e⟩
section
variable {R : Bp → Bq → Prop} {X : TS Bp} {Y : TS Bq}
theorem LkR.nn (h : LkR R X Y) (n : Int) : (X.v n).isNone = (Y.v n).isNone := by
  cases e : X.v n with
  | none => rw [h.no n e]; rfl
  | some b => obtain ⟨k, h1, _⟩ := h.so n b e; rw [h1]; rfl
theorem LkR.take (h : LkR R X Y) {b : Bp} {k : Bq} (hb : R b k) (s : Int) : LkR R (takeS X s b) (takeS Y s k) := by
  have hm := may2 h.g h.need h.nn s
  refine ⟨by rw [takeS_g, takeS_g, h.g], ?_, fun n e => ?_, fun n p e => ?_⟩
  · unfold takeS; split <;> split <;> exact h.need
  · rw [takeS_v] at e ⊢
    rw [hm]
    split at e
    · cases e
    · rename_i hc; rw [if_neg hc]; exact h.no n e
  · rw [takeS_v] at e ⊢
    rw [hm]
    split at e
    · rename_i hc; cases e; rw [if_pos hc]; exact ⟨k, rfl, hb⟩
    · rename_i hc; rw [if_neg hc]; exact h.so n p e
theorem LkR.got (h : LkR R X Y) : Two2 R ((gotL X).map Prod.snd) ((gotL Y).map Prod.snd) := by
  unfold gotL
  rw [h.g]
  exact got2 X.v Y.v X.g (fun n _ e => h.no n e) (fun n _ b e => h.so n b e)
abbrev pAt' := @Go.Proofs.Ytgiokkcdgoloaaa.pAt
theorem best2 (hR : ∀ b k, R b k → k.n = b.st.n ∧ k.c = b.st.c) {l : List Bp} {k : List Bq} (h : Two2 R l k) (h0 : 0 < l.length) : R (bestB l) (bestP k) := by
  have hl := h.1
  have hat : ∀ i, i < l.length → R (bpAt l i) (pAt' k i) := fun i hi => by
    have hk : i < k.length := by omega
    have e1 : l[i]? = some (bpAt l i) := by simp [bpAt, List.getElem?_eq_getElem hi]
    have e2 : k[i]? = some (pAt' k i) := by simp [pAt', Go.Proofs.Ytgiokkcdgoloaaa.pAt, List.getElem?_eq_getElem hk]
    exact h.2 i _ _ e1 e2
  have hb : bi (fun i j => lsP (bpAt l i) (bpAt l j)) (l.length - 1) = bi (ltP k) (k.length - 1) := by
    rw [hl]
    refine bi_congr _ (fun i j hi hj => ?_)
    have a1 := hR _ _ (hat i (by omega))
    have a2 := hR _ _ (hat j (by omega))
    unfold ltP lessK lsP
    show _ = lessB (pAt' k i).n (pAt' k i).c (pAt' k j).n (pAt' k j).c
    rw [a1.1, a1.2, a2.1, a2.2]
  have hlt := bi_le (ltP k) (k.length - 1)
  unfold bestB bestP
  rw [hb]
  exact hat _ (by omega)
theorem any2 (hR : ∀ b k, R b k → k.n = b.st.n ∧ k.c = b.st.c) {l : List Bp} {k : List Bq} (h : Two2 R l k) (h0 : 0 < l.length) : k.any (otherB (bestP k)) = l.any (othP (bestB l)) := by
  have hb := hR _ _ (best2 hR h h0)
  refine (Two2.any (R := R) (fun a b hr => ?_) h).symm
  unfold othP otherB
  rw [(hR _ _ hr).1, (hR _ _ hr).2, hb.1, hb.2]
end
/-- Done, Round. -/
def donP (s : RM) : Int × Sp × List Int × Bool := match s.ph with
  | .fin er st z => (er, st, z, true)
  | _ => (0, spZ, [], false)
theorem done_M {w : World} {I : Nat → Prop} {m : Nat} {s : RM} (h : Mch w I m s) : Calls Try.prog 83 #[.pointer (some ⟨m, 0, none⟩)] w (DoneOut w (donP s).1 (donP s).2.1.n (donP s).2.1.c (donP s).2.2.1 (donP s).2.2.2) := by
  obtain ⟨⟨a, cap, t, v, hM, i1, i2, hP⟩, len⟩ := h
  unfold donP
  cases hp : s.ph with
  | fresh =>
    rw [hp] at hP
    obtain ⟨rfl, ai, av, rfl, hA⟩ := hP
    exact done_0 m a cap s.x _ w hM
  | ask X =>
    rw [hp] at hP
    obtain ⟨rfl, r0, r1, ai, av, tb, bb, at', ct, Y, rfl, _⟩ := hP
    exact doneA_any m a cap s.x _ _ w hM
  | lay b U =>
    rw [hp] at hP
    obtain ⟨rfl, pa, pk, da, dc, ub, ubb, ua, ut, rfl, _⟩ := hP
    exact machDoneL_any m a cap s.x _ _ _ _ _ _ _ _ _ _ _ _ w hM
  | fin er st z =>
    rw [hp] at hP
    obtain ⟨rfl, da, dc, rfl, hz, hd, hI⟩ := hP
    exact machDoneE_any m a cap s.x _ _ _ _ _ _ z w hM rfl (by omega) hd
theorem round_M {w : World} {I : Nat → Prop} {m : Nat} {s : RM} (h : Mch w I m s) : Calls Try.prog 84 #[.pointer (some ⟨m, 0, none⟩)] w (fun e w' => e = .returned (.int .i64 s.rd) ∧ w' = w) := by
  obtain ⟨⟨a, cap, t, v, hM, i1, i2, hP⟩, len⟩ := h
  exact round_any m a cap s.x t v w hM

end Go.Proofs.Ytgiokkcdgoloaaa.Md
namespace Go.Proofs.Ytgiokkcdgoloaaa.Md
open Go.RowKit
set_option linter.unusedVariables false
set_option linter.unusedSimpArgs false

theorem box_map {w : World} {k b : Nat} {t : TypeId} {cs : Array Value} {g : Int → Option Value} (h : Box w k t cs) (hm : MapIs w b g) : k ≠ b := by
  rintro rfl
  obtain ⟨es, clock, hh, _⟩ := hm
  unfold Box at h
  rw [hh] at h
  cases h
theorem off_tal {α : Type} {T t : TypeId} {f : Option α → Value} {w : World} {tb bb ct : Nat} {at' : Option Addr} {X : TS α} (h : Tal T f w tb bb at' ct X) {k : Nat} (hb : ∃ cs, Box w k t cs) (ht : t ≠ T) : ¬ Tb2 tb bb k := by
  obtain ⟨cs, hb⟩ := hb
  rintro (e | e)
  · exact box_ne hb h.box ht e
  · exact box_map hb h.map e
theorem off_mb {α : Type} {T : TypeId} {f : Option α → Value} {w : World} {tb bb ct : Nat} {at' : Option Addr} {X : TS α} (h : Tal T f w tb bb at' ct X) {m : Nat} {a : Option Addr} {cap : Nat} {x : MS} {t : TypeId} {v : Value} (hM : Mach w m a cap x t v) (h1 : (142 : TypeId) ≠ T) (h2 : (3 : TypeId) ≠ T) : ∀ k, MB m a k → ¬ Tb2 tb bb k := by
  rintro k (e | e)
  · subst e; exact off_tal h ⟨_, hM.box⟩ h1
  · exact off_tal h (Own.ty hM.row e) h2
theorem MOut.after {w wr w' : World} {I : Nat → Prop} {m : Nat} {o : RM × To} {e : Ending} (hk : Kept No w wr) (h : MOut wr I m o e w') : MOut w I m o e w' := by
  obtain ⟨la, lc, qs, I', he, hq, hMs, hm, hI, hk2⟩ := h
  have hs := hk.size
  exact ⟨la, lc, qs, I', he, hq, ⟨Own.lower hMs.row hs, fun q h => Own.lower (hMs.own q h) hs, hMs.ord, hMs.len⟩, hm, fun k e => ⟨(hI k e).1.imp id (fun h => by omega), (hI k e).2⟩, hk.of_no.then hk2⟩
theorem MOut.form {w w' : World} {I : Nat → Prop} {m : Nat} {o : RM × To} {e : Ending} (h : MOut w I m o e w') : ∃ a l c, e = .returned (.slice a l c) := by
  obtain ⟨la, lc, qs, I', he, _⟩ := h
  exact ⟨_, _, _, he⟩
end Go.Proofs.Ytgiokkcdgoloaaa.Md
namespace Go.Proofs.Ytgiokkcdgoloaaa.Md
open Go.RowKit
set_option linter.unusedVariables false
set_option linter.unusedSimpArgs false

theorem got_pos {X : TS Bp} {Y : TS Bq} {R : Bp → Bq → Prop} (h : LkR R X Y) (hc : 1 ≤ cnt Y) : 0 < ((gotL X).map Prod.snd).length := by
  rw [List.length_map, gotL_len, ← cnt2 h.g h.nn]
  omega
theorem bk_nc {w : World} {I : Nat → Prop} (b : Bp) (k : Bq) (h : Bk2 w I b k) : k.n = b.st.n ∧ k.c = b.st.c := ⟨h.1, h.2.1⟩
/-- A machine that asks, behind a Take: what must be known. -/
theorem ask_state {w w' : World} {I : Nat → Prop} {m : Nat} {s : RM} {d : Mg} {X : TS Bp} {Y : TS Bq} {kp : Bp} {b : Bq} {a : Option Addr} {cap : Nat} {tb bb ct : Nat} {at' : Option Addr} {ai : TypeId} {av : Value}
    (len : s.zs.length ≤ 1000) (r0 : 1 ≤ s.rd) (r1 : s.rd ≤ 1099511627776) (i1 : I m) (i2 : ∀ k, At a k → I k) (hI : ∀ k, TB tb bb at' k → I k) (hg : X.g = s.zs)
    (hM : Mach w' m a cap s.x 182 (.agg #[.iface ai av, .pointer (some ⟨tb, 0, none⟩)])) (hA : AimAt w' (fun k => I k ∨ w.heap.size ≤ k) s ai av) (hT : Tal 185 ansB w' tb bb at' ct (takeS Y d.fr.id b)) (hL : Lk w' (fun k => I k ∨ w.heap.size ≤ k) (takeS X d.fr.id kp) (takeS Y d.fr.id b)) :
    Mch w' (fun k => I k ∨ w.heap.size ≤ k) m { s with ph := .ask (takeS X d.fr.id kp) } :=
  ⟨⟨a, cap, 182, _, hM, .inl i1, fun k e => .inl (i2 k e), rfl, r0, r1, ai, av, tb, bb, at', ct, _, rfl, hA.of rfl rfl, hT, hL, fun k e => .inl (hI k e), by rw [takeS_g]; exact hg⟩, len⟩
end Go.Proofs.Ytgiokkcdgoloaaa.Md
namespace Go.Proofs.Ytgiokkcdgoloaaa.Md
open Go.RowKit
set_option linter.unusedVariables false
set_option linter.unusedSimpArgs false

/-- Who has answered, by servers and by places. -/
structure QR {α : Type} (zs : List Int) (X : TS α) (qa : List Bool) : Prop where
  g : X.g = zs
  need : X.need = (zs.length : Int) / 2 + 1
  qa : qa = zs.map (fun n => (X.v n).isSome)
  few : cnt X < zs.length / 2 + 1
def keepQ (s : RM) (st : Sp) (z : List Int) : Bp := match s.aim with
  | .wr _ => ⟨st, []⟩
  | .rd n => if st.n = 0 ∧ st.c = 0 then ⟨spZ, List.replicate n 0⟩ else ⟨st, z⟩
def WrB (B : Sl → List Int → Prop) (s : RM) (x : Rx) : Prop := match s.aim with
  | .wr z => B x.bl z
  | .rd _ => True
def PhR (B : Sl → List Int → Prop) (s : RM) (x : Rx) : Rp → Prop
  | .fresh => x.ph = 0 ∧ WrB B s x
  | .ask X => x.ph = 1 ∧ 1 ≤ s.rd ∧ s.rd ≤ 1099511627776 ∧ QR s.zs X x.qa ∧ x.vs.length = s.zs.length ∧ (∀ (i : Nat) n b, s.zs[i]? = some n → X.v n = some b → ∃ zz, B (gAt x.vs i).bl zz ∧ b = keepQ s (gAt x.vs i).st zz) ∧ (∀ j, -9223372036854775808 ≤ (gAt x.vs j).st.n) ∧ WrB B s x
  | .lay b U => x.ph = 2 ∧ QR s.zs U x.qa ∧ x.vs.length = s.zs.length ∧ x.tag = b.st ∧ B x.bl b.z ∧ ((∀ j, -9223372036854775808 ≤ (gAt x.vs j).st.n) ∧ 0 ≤ s.rd)
  | .fin er st z => x.ph = 3 ∧ x.er = er ∧ (er = 0 → x.tag = st ∧ (x.wr = false → B x.bl z) ∧ (x.wr = true → z = [])) ∧ (er ≠ 0 → st = spZ ∧ z = [])
structure Rel (B : Sl → List Int → Prop) (s : RM) (x : Rx) : Prop where
  wr : x.wr = s.isW
  cl : x.cl = s.cl
  op : x.op = s.op
  ky : x.ky = s.ky
  zs : x.zs = s.zs
  rd : x.rd = s.rd
  nd : s.zs.Nodup
  sz : match s.aim with | .wr _ => True | .rd n => x.sz = (n : Int)
  s0 : 0 ≤ x.sz
  s1 : x.sz ≤ 4096
  ph : PhR B s x s.ph
theorem WrB.mono {B B' : Sl → List Int → Prop} {s : RM} {x : Rx} (h : WrB B s x) (hB : ∀ l z, B l z → B' l z) : WrB B' s x := by
  unfold WrB at h ⊢
  split
  · rename_i z hz; rw [hz] at h; exact hB _ _ h
  · trivial
theorem Rel.mono {B B' : Sl → List Int → Prop} {s : RM} {x : Rx} (h : Rel B s x) (hB : ∀ l z, B l z → B' l z) : Rel B' s x := by
  refine ⟨h.wr, h.cl, h.op, h.ky, h.zs, h.rd, h.nd, h.sz, h.s0, h.s1, ?_⟩
  have hp := h.ph
  cases e : s.ph with
  | fresh => rw [e] at hp; exact ⟨hp.1, hp.2.mono hB⟩
  | ask X =>
    rw [e] at hp
    obtain ⟨h1, h2, h3, h4, h5, h6, h7, h8⟩ := hp
    exact ⟨h1, h2, h3, h4, h5, fun i n b e1 e2 => by obtain ⟨zz, a, b⟩ := h6 i n b e1 e2; exact ⟨zz, hB _ _ a, b⟩, h7, h8.mono hB⟩
  | lay b U =>
    rw [e] at hp
    obtain ⟨h1, h2, h3, h4, h5, h6⟩ := hp
    exact ⟨h1, h2, h3, h4, hB _ _ h5, h6⟩
  | fin er st z =>
    rw [e] at hp
    obtain ⟨h1, h2, h3, h4⟩ := hp
    exact ⟨h1, h2, fun e => ⟨(h3 e).1, fun w => hB _ _ ((h3 e).2.1 w), (h3 e).2.2⟩, h4⟩
/-- What is told is alike: k, st, the block and the servers. -/
structure LikeT (B : Sl → List Int → Prop) (x' : Rx) (o : RM × To) (l : List Mg) : Prop where
  eq : l = o.2.ss.map (msgR x')
  ok : o.2.ss ≠ [] → x'.cl = o.1.cl ∧ x'.op = o.1.op ∧ x'.ky = o.1.ky ∧ x'.rd = o.1.rd ∧ ((x'.ph = 1 ∧ o.2.k = 1 ∧ o.2.st = spZ ∧ o.2.z = []) ∨ (x'.ph = 2 ∧ o.2.k = 2 ∧ o.2.st = x'.tag ∧ B x'.bl o.2.z))
theorem QR.new {α : Type} {zs : List Int} (hn : zs.Nodup) : QR zs (tNew α zs ((zs.length : Int) / 2 + 1)) (List.replicate zs.length false) :=
  ⟨uq_nd hn, rfl, by show _ = zs.map (fun _ => false); rw [List.map_const'], by rw [cnt_new]; omega⟩
end Go.Proofs.Ytgiokkcdgoloaaa.Md
namespace Go.Proofs.Ytgiokkcdgoloaaa.Md
open Go.RowKit
set_option linter.unusedVariables false
set_option linter.unusedSimpArgs false

section
variable {α : Type} {zs : List Int} {X : TS α} {qa : List Bool}
theorem lit_nd : ∀ (l : List Int), l.Nodup → ∀ (i j : Nat) z, l[i]? = some z → l[j]? = some z → i = j
  | [], _, i, j, z, h, _ => by simp at h
  | a :: l, hn, i, j, z, hi, hj => by
    have ⟨h1, h2⟩ := List.nodup_cons.1 hn
    cases i with
    | zero =>
      cases j with
      | zero => rfl
      | succ j => simp at hi hj; subst hi; exact absurd (List.mem_of_getElem? hj) h1
    | succ i =>
      cases j with
      | zero => simp at hi hj; subst hj; exact absurd (List.mem_of_getElem? hi) h1
      | succ j => simp at hi hj; rw [lit_nd l h2 i j z hi hj]
theorem QR.at (h : QR zs X qa) {i : Nat} {n : Int} (hi : zs[i]? = some n) : qa[i]?.getD false = (X.v n).isSome := by
  rw [h.qa, List.getElem?_map, hi]; rfl
theorem QR.may (h : QR zs X qa) (n : Int) : mayB X n = (decide (n ∈ zs) && (X.v n).isNone) := by
  unfold mayB enB
  have hf := h.few
  have hnn : ¬ ((zs.length : Int) / 2 + 1 ≤ ((cnt X : Nat) : Int)) := by omega
  rw [h.g, h.need, decide_eq_false hnn]
  simp
theorem cnt_put' {n : Int} {v : α} {i : Nat} (e2 : qa.set i true = zs.map (fun y => ((putS X n v).v y).isSome)) (hg : X.g = zs) : cntB (qa.set i true) = cnt (putS X n v) := by
  rw [e2]
  unfold cntB cnt
  rw [List.countP_map, show (putS X n v).g = X.g from rfl, hg]
  rfl
theorem QR.put (hn : zs.Nodup) (h : QR zs X qa) {i : Nat} {n : Int} (hi : zs[i]? = some n) (hv : X.v n = none) (v : α) :
    takeS X n v = putS X n v ∧ takeB X n = decide (¬ cntB (qa.set i true) < zs.length / 2 + 1) ∧ qa.set i true = zs.map (fun y => ((putS X n v).v y).isSome) ∧ (cntB (qa.set i true) < zs.length / 2 + 1 → QR zs (putS X n v) (qa.set i true)) := by
  have hm : n ∈ zs := List.mem_of_getElem? hi
  have hmay : mayB X n = true := by rw [h.may, hv]; simp [hm]
  have e1 : takeS X n v = putS X n v := by unfold takeS; rw [if_pos hmay]
  have e2 : qa.set i true = zs.map (fun y => ((putS X n v).v y).isSome) := by
    rw [h.qa]
    apply List.ext_getElem?
    intro j
    rw [List.getElem?_set]
    by_cases e : i = j
    · subst e
      have hl := (List.getElem?_eq_some_iff.1 hi).1
      simp [hl, hi, putS]
      have := (List.getElem?_eq_some_iff.1 hi).2
      rw [if_pos this]; rfl
    · rw [if_neg e, List.getElem?_map, List.getElem?_map]
      cases hj : zs[j]? with
      | none => rfl
      | some y =>
        have : y ≠ n := fun e2 => e (lit_nd zs hn i j n hi (e2 ▸ hj))
        simp [putS, this]
  have e3 : cntB (qa.set i true) = cnt X + 1 := by
    rw [e2]
    have := cnt_put (v := v) (by rw [h.g]; exact hn) (by rw [h.g]; exact hm) hv
    rw [← this]
    unfold cntB cnt
    rw [List.countP_map, show (putS X n v).g = X.g from rfl, h.g]
    rfl
  refine ⟨e1, ?_, e2, fun hf => ⟨h.g, h.need, e2, by rw [← cnt_put' e2 h.g]; exact hf⟩⟩
  · unfold takeB
    rw [hmay, h.need, e3, Bool.true_and]
    congr 1
    apply propext
    constructor <;> intro hh <;> omega
end
end Go.Proofs.Ytgiokkcdgoloaaa.Md
namespace Go.Proofs.Ytgiokkcdgoloaaa.Md
open Go.RowKit
set_option linter.unusedVariables false
set_option linter.unusedSimpArgs false

theorem got_fm {α : Type} (X : TS α) : (gotL X).map Prod.snd = X.g.filterMap X.v := by
  unfold gotL
  induction X.g with
  | nil => rfl
  | cons n l ih =>
    cases h : X.v n with
    | none => simpa [List.filterMap_cons, h] using ih
    | some v => simpa [List.filterMap_cons, h] using ih
theorem bpAt_app {l : List Bp} {b : Bp} {i : Nat} (h : i < l.length) : bpAt (l ++ [b]) i = bpAt l i := by
  unfold bpAt
  rw [List.getElem?_append_left h]
theorem bpAt_last (l : List Bp) (b : Bp) : bpAt (l ++ [b]) l.length = b := by simp [bpAt]
theorem best_snoc {l : List Bp} (b : Bp) (h : l ≠ []) : bestB (l ++ [b]) = if lsP (bestB l) b then b else bestB l := by
  have h0 : 0 < l.length := List.length_pos_iff.2 h
  obtain ⟨k, hk⟩ : ∃ k, l.length = k + 1 := ⟨l.length - 1, by omega⟩
  have e1 : bi (fun i j => lsP (bpAt (l ++ [b]) i) (bpAt (l ++ [b]) j)) k = bi (fun i j => lsP (bpAt l i) (bpAt l j)) k := bi_congr k (fun i j hi hj => by rw [bpAt_app (by omega), bpAt_app (by omega)])
  have hle := bi_le (fun i j => lsP (bpAt l i) (bpAt l j)) k
  unfold bestB
  rw [List.length_append, List.length_singleton, hk, Nat.add_sub_cancel, Nat.add_sub_cancel]
  show bpAt (l ++ [b]) (if lsP (bpAt (l ++ [b]) (bi _ k)) (bpAt (l ++ [b]) (k + 1)) then k + 1 else bi _ k) = _
  rw [e1, bpAt_app (i := bi _ k) (by omega), show bpAt (l ++ [b]) (k + 1) = b by rw [← hk]; exact bpAt_last l b]
  split
  · rw [← hk]; exact bpAt_last l b
  · exact bpAt_app (by omega)
theorem best_mem {l : List Bp} (h : l ≠ []) : bestB l ∈ l := by
  have h0 : 0 < l.length := List.length_pos_iff.2 h
  have hle := bi_le (fun i j => lsP (bpAt l i) (bpAt l j)) (l.length - 1)
  unfold bestB
  have hl : bi (fun i j => lsP (bpAt l i) (bpAt l j)) (l.length - 1) < l.length := by omega
  generalize bi (fun i j => lsP (bpAt l i) (bpAt l j)) (l.length - 1) = q at hl
  unfold bpAt
  rw [List.getElem?_eq_getElem hl]
  exact List.getElem_mem hl
end Go.Proofs.Ytgiokkcdgoloaaa.Md
namespace Go.Proofs.Ytgiokkcdgoloaaa.Md
open Go.RowKit
set_option linter.unusedVariables false
set_option linter.unusedSimpArgs false

/-- The reference's machine in memory; its blocks. -/
def RfAt (w : World) (r : Nat) (x : Rx) (g : Sl) : Option (Nat × Nat) → Prop
  | none => RfG w r x g slZ slZ
  | some p => RfL w r x g p.1 p.2
def Jx (r : Nat) (g : Sl) (LV : Option (Nat × Nat)) : Nat → Prop := fun k => k = r ∨ At g.a k ∨ ∃ p, LV = some p ∧ (k = p.1 ∨ k = p.2)
theorem RfAt.gg {w : World} {r : Nat} {x : Rx} {g : Sl} {LV : Option (Nat × Nat)} (h : RfAt w r x g LV) : ∃ an vv, RfG w r x g an vv := by
  cases LV with
  | none => exact ⟨_, _, h⟩
  | some p => exact ⟨_, _, RfL.g h⟩
theorem RfAt.lt {w : World} {r : Nat} {x : Rx} {g : Sl} {LV : Option (Nat × Nat)} (h : RfAt w r x g LV) {k : Nat} (hk : Jx r g LV k) : k < w.heap.size := by
  obtain ⟨an, vv, hg⟩ := h.gg
  rcases hk with rfl | hk | ⟨p, rfl, hk⟩
  · exact hg.box.lt
  · exact hg.gr.own.lt hk
  · rcases hk with rfl | rfl
    · exact (show RfL w r x g p.1 p.2 from h).ba.lt
    · exact (show RfL w r x g p.1 p.2 from h).bv.lt
theorem RfAt.kept {S : Nat → Prop} {w w' : World} {r : Nat} {x : Rx} {g : Sl} {LV : Option (Nat × Nat)} (h : RfAt w r x g LV) (hk : Kept S w w') (hS : ∀ k, Jx r g LV k → ¬ S k) : RfAt w' r x g LV := by
  cases LV with
  | none => exact RfG.kept h hk (hS r (.inl rfl)) (fun k e => hS k (.inr (.inl e)))
  | some p => exact RfL.kept h hk (hS r (.inl rfl)) (fun k e => hS k (.inr (.inl e))) (hS _ (.inr (.inr ⟨p, rfl, .inl rfl⟩))) (hS _ (.inr (.inr ⟨p, rfl, .inr rfl⟩)))
/-- Bytes that nobody writes over. -/
def Bw (H : Nat → Prop) (w : World) (I J : Nat → Prop) (l : Sl) (z : List Int) : Prop := RdB w l z ∧ l.l ≤ 140737488351232 ∧ (z ≠ [] → ∀ k, At l.a k → k < w.heap.size ∧ ¬ I k ∧ ¬ J k ∧ H k)
theorem Bw.to {S I J I' J' H : Nat → Prop} {w w' : World} {l : Sl} {z : List Int} (h : Bw H w I J l z) (hk : Kept S w w') (hS : ∀ k, k < w.heap.size → ¬ I k → ¬ J k → ¬ S k ∧ ¬ I' k ∧ ¬ J' k) : Bw H w' I' J' l z := by
  have hs := hk.size
  refine ⟨h.1.kept0 hk (fun hne k e => (hS k (h.2.2 hne k e).1 (h.2.2 hne k e).2.1 (h.2.2 hne k e).2.2.1).1), h.2.1, fun hne k e => ?_⟩
  have q := hS k (h.2.2 hne k e).1 (h.2.2 hne k e).2.1 (h.2.2 hne k e).2.2.1
  exact ⟨by have := (h.2.2 hne k e).1; omega, q.2.1, q.2.2, (h.2.2 hne k e).2.2.2⟩
/-- Both machines in memory, apart. -/
structure Wq (w0 w : World) (I : Nat → Prop) (m r : Nat) (g : Sl) (LV : Option (Nat × Nat)) (s : RM) (x : Rx) : Prop where
  mch : Mch w I m s
  ref : RfAt w r x g LV
  ia : ∀ k, I k → w0.heap.size ≤ k ∧ k < w.heap.size ∧ ¬ Jx r g LV k
  jb : ∀ k, Jx r g LV k → w0.heap.size ≤ k
  kp : Kept (fun k => w0.heap.size ≤ k) w0 w
  lv : x.ph = 1 ∨ x.ph = 2 → LV ≠ none
section
variable {w0 w w' : World} {I I' S H : Nat → Prop} {m r : Nat} {g : Sl} {LV LV' : Option (Nat × Nat)} {s s' : RM} {x x' : Rx} {o : RM × To} {e : Ending}
theorem Wq.no (h : Wq w0 w I m r g LV s x) (hk : Kept No w w') : Wq w0 w' I m r g LV s x :=
  ⟨h.mch.no hk, h.ref.kept hk (fun _ _ e => e), fun k e => ⟨(h.ia k e).1, by have := (h.ia k e).2.1; have := hk.size; omega, (h.ia k e).2.2⟩, h.jb, h.kp.then hk.of_no, h.lv⟩
theorem Wq.off (h : Wq w0 w I m r g LV s x) (hk : Kept S w w') (hS : ∀ k, S k → w0.heap.size ≤ k ∧ ¬ I k ∧ ¬ Jx r g LV k) : Wq w0 w' I m r g LV s x :=
  ⟨h.mch.kept hk (fun k e _ => ⟨fun f => (hS k f).2.1 e, e⟩), h.ref.kept hk (fun k e f => (hS k f).2.2 e), fun k e => ⟨(h.ia k e).1, by have := (h.ia k e).2.1; have := hk.size; omega, (h.ia k e).2.2⟩, h.jb, h.kp.trans hk (fun _ e => e) (fun k _ e => (hS k e).1), h.lv⟩
/-- What a machine has told. -/
def TlM (w : World) (N : Nat) (la : Option Addr) (n lc : Nat) (o : RM × To) : Prop := ∃ qs, qs.length = n ∧ qs.map Qm.sv = o.2.ss ∧ Msgs w N la lc o.1.x ⟨o.2.k, o.2.st.n, o.2.st.c, o.2.z.length⟩ o.2.z qs
theorem TlM.kept {N n lc : Nat} {la : Option Addr} (h : TlM w N la n lc o) (hk : Kept S w w') (hS : ∀ k, N ≤ k → ¬ S k) : TlM w' N la n lc o := by
  obtain ⟨qs, h1, h2, h3⟩ := h
  exact ⟨qs, h1, h2, ⟨Own.kept h3.row hk (fun k e => hS k (Own.base h3.row e)), fun q hq => Own.kept (h3.own q hq) hk (fun k e => hS k (Own.base (h3.own q hq) e)), h3.ord, h3.len⟩⟩
theorem Wq.prog (h : Wq w0 w I m r g LV s x) (ho : MOut w I m o e w') : ∃ la n lc I', e = .returned (.slice la n lc) ∧ TlM w' w.heap.size la n lc o ∧ Wq w0 w' I' m r g LV o.1 x ∧ (∀ l z, Bw H w I (Jx r g LV) l z → Bw H w' I' (Jx r g LV) l z) ∧ Kept I w w' ∧ (∀ k, I' k → I k ∨ w.heap.size ≤ k) := by
  obtain ⟨la, lc, qs, I', he, hq, hM, hm, hI, hk⟩ := ho
  have hs := hk.size
  refine ⟨la, _, lc, I', he, ⟨qs, rfl, hq, hM⟩, ⟨hm, h.ref.kept hk (fun k e f => (h.ia k f).2.2 e), fun k e => ?_, h.jb, h.kp.trans hk (fun _ e => e) (fun k _ e => (h.ia k e).1), h.lv⟩, fun l z hb => hb.to hk (fun k l1 l2 l3 => ⟨l2, fun f => ?_, l3⟩), hk, fun k e => (hI k e).1⟩
  · have h0 := h.kp.size
    rcases (hI k e).1 with f | f
    · exact ⟨(h.ia k f).1, (hI k e).2, (h.ia k f).2.2⟩
    · exact ⟨by omega, (hI k e).2, fun j => by have := h.ref.lt j; omega⟩
  · rcases (hI k f).1 with f | f
    · exact l2 f
    · omega
end
end Go.Proofs.Ytgiokkcdgoloaaa.Md
namespace Go.Proofs.Ytgiokkcdgoloaaa.Md
open Go.RowKit
set_option linter.unusedVariables false
set_option linter.unusedSimpArgs false

/-- What a call of the reference's machine tells and leaves, beside what the program's told. -/
def RefO (H : Nat → Prop) (w0 w : World) (I : Nat → Prop) (m r : Nat) (g : Sl) (LV : Option (Nat × Nat)) (s : RM) (o : RM × To) (e : Ending) (w' : World) : Prop :=
  ∃ t l LV' x', e = .returned (Sl.v t) ∧ RdM w' t l ∧ l.length ≤ 1000 ∧ Wq w0 w' I m r g LV' s x' ∧ Rel (Bw H w' I (Jx r g LV')) o.1 x' ∧ LikeT (Bw H w' I (Jx r g LV')) x' o l ∧ Kept (Jx r g LV) w w' ∧ ∀ k, Jx r g LV' k → Jx r g LV k ∨ w.heap.size ≤ k
theorem rdM_nil (w : World) : RdM w slZ [] := ⟨RowsAt.nil _ _ _, rfl⟩
theorem likeT_nil (B : Sl → List Int → Prop) (x : Rx) (s : RM) : LikeT B x (s, toZ) [] := ⟨rfl, fun e => absurd rfl e⟩
theorem LikeT.mono {B B' : Sl → List Int → Prop} {x : Rx} {o : RM × To} {l : List Mg} (h : LikeT B x o l) (hB : ∀ l z, B l z → B' l z) : LikeT B' x o l :=
  ⟨h.eq, fun e => by obtain ⟨a, b, c, d, f⟩ := h.ok e; exact ⟨a, b, c, d, f.imp id (fun q => ⟨q.1, q.2.1, q.2.2.1, hB _ _ q.2.2.2⟩)⟩⟩
section
variable {w0 w : World} {I H : Nat → Prop} {m r : Nat} {g : Sl} {LV : Option (Nat × Nat)} {s s0 : RM} {x : Rx}
/-- Nothing is told, nothing changes. -/
theorem RefO.same {e : Ending} {w' : World} (h : Wq w0 w I m r g LV s x) (hr : Rel (Bw H w I (Jx r g LV)) s0 x) (he : e = .returned (.slice none 0 0)) (hk : Kept No w w') : RefO H w0 w I m r g LV s (s0, toZ) e w' :=
  ⟨slZ, [], LV, x, he, rdM_nil _, by simp, h.no hk, hr.mono (fun l z hb => hb.to hk (fun k _ l2 l3 => ⟨fun f => f, l2, l3⟩)), likeT_nil _ _ _, hk.of_no, fun k e => .inl e⟩
end

end Go.Proofs.Ytgiokkcdgoloaaa.Md
namespace Go.Proofs.Ytgiokkcdgoloaaa.Md
open Go.RowKit
set_option linter.unusedVariables false
set_option linter.unusedSimpArgs false

theorem U31 : Try.prog.underlying 31 = some ((Try.prog.underlying 31).getD .bool) := by kernel_rfl
theorem V31 : (match (Try.prog.underlying 31).getD .bool with | .struct _ | .array _ _ => true | _ => false) = false := by kernel_rfl
end Go.Proofs.Ytgiokkcdgoloaaa.Md
namespace Go.Proofs.Ytgiokkcdgoloaaa.Md
open Go.RowKit
set_option linter.unusedVariables false
set_option linter.unusedSimpArgs false

theorem b_remI (a : Int) (n : Nat) (h0 : 0 < n) (w : World) : (binOp .rem 3 (.int .i64 a) (.int .i64 (n : Int))).run Try.prog w = .ok (.int .i64 (a.tmod (n : Int))) w := by
  rw [binOp_rem]
  unfold Op.intDiv
  rw [if_neg (by omega)]
  rfl
end Go.Proofs.Ytgiokkcdgoloaaa.Md
