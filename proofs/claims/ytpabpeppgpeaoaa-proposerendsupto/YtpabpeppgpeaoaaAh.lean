import Derived.Test.YtpabpeppgpeaoaaXb
import Derived.Test.YtpabpeppgpeaoaaGa
import Derived.Test.YtpabpeppgpeaoaaUa
namespace Go.Proofs.Ytpabpeppgpeaoaa.Md
open Go.RowKit Gx
set_option linter.unusedVariables false
set_option linter.unusedSimpArgs false

def dL' (s : Ytpabpeppgpeaoaa.Sl) : Sl := ⟨s.a, s.l, s.k⟩
def dC' (c : Ytpabpeppgpeaoaa.Cm) : Cm := ⟨c.k, c.cl, c.op, c.nm, c.f0, c.f1, c.g0, c.g1, c.sz⟩
/-- A message as the mend's words have it. -/
def dM (m : Ms) : Mg := ⟨m.k, ⟨m.fc, m.fi⟩, ⟨m.tc, m.ti⟩, m.op, m.rd, ⟨m.ky.k, m.ky.a, m.ky.b, m.ky.c⟩, ⟨m.st.n, m.st.c⟩, ⟨m.hd.n, m.hd.c⟩, dL' m.bl, dC' m.c, ⟨m.up, dL' m.en, dL' m.la⟩, dL' m.cm, m.mo⟩
theorem dM_L (l : List Ms) : mgL (l.map dM) = msL l := by
  unfold mgL msL
  rw [List.map_map]
  rfl
theorem notM_kept {S : Nat → Prop} {W W' : World} {k : Nat} (h : NotM W k) (hk : Kept S W W') (hl : k < W.heap.size) (hS : ¬ S k) : NotM W' k := fun cs hb => h cs (by
  unfold Box at hb ⊢
  rw [← hk.block k hl hS]; exact hb)
/-- What a function over a proposer holds while it runs: the proposer, its own blocks, lists of messages that were told. -/
structure Og (w W : World) (I : Nat → Prop) (p : Nat) (s : PS) (l : List (Nat × TypeId × Array Value)) (T : List (Sl × List Mg)) : Prop where
  prp : Prp W I p s
  fr : Fq No w W l
  ia : ∀ k, I k → w.heap.size ≤ k ∧ k < W.heap.size ∧ NotM W k
  li : ∀ (i : Nat) g t cs, l[i]? = some (g, t, cs) → ¬ I g
  tl : ∀ (i : Nat) x, T[i]? = some x → OwM W w.heap.size x.1 x.2
  tt : ∀ (i j : Nat) x y k, T[i]? = some x → T[j]? = some y → At x.1.a k → At y.1.a k → i = j
  tb : ∀ (i j : Nat) x g t cs, T[i]? = some x → l[j]? = some (g, t, cs) → ¬ At x.1.a g
section
variable {w W W' : World} {I S : Nat → Prop} {p : Nat} {s s' : PS} {l : List (Nat × TypeId × Array Value)} {T T' : List (Sl × List Mg)}
theorem Og.kept (h : Og w W I p s l T) : Kept No w W := h.fr.kept
theorem Og.box (h : Og w W I p s l T) : ∀ (i : Nat) g T cs, l[i]? = some (g, T, cs) → Box W g T cs := h.fr.box
theorem Og.no (h : Og w W I p s l T) (hk : Kept No W W') : Og w W' I p s l T :=
  ⟨h.prp.no hk, h.fr.no hk, fun k e => ⟨(h.ia k e).1, by have := (h.ia k e).2.1; have := hk.size; omega, notM_kept (h.ia k e).2.2 hk (h.ia k e).2.1 (fun f => f)⟩, h.li, fun i x hx => (h.tl i x hx).kept hk (fun _ _ e => e), h.tt, h.tb⟩
theorem Og.drew (h : Og w W I p s l T) : Og w W.drew I p s l T := h.no (Kept.refl No W).drew
theorem Og.alloc (h : Og w W I p s l T) (t : TypeId) (cs : Array Value) : Og w (W.alloc (.cells cs t)) I p s (l ++ [(W.heap.size, t, cs)]) T := by
  have hk : Kept No W (W.alloc (.cells cs t)) := (Kept.refl No W).alloc _
  have h1 := h.no hk
  have key : ∀ (j : Nat) g t' cs', (l ++ [(W.heap.size, t, cs)])[j]? = some (g, t', cs') → l[j]? = some (g, t', cs') ∨ g = W.heap.size := by
    intro j g t' cs' hj
    rw [List.getElem?_append] at hj
    split at hj
    · exact .inl hj
    · have := List.mem_of_getElem? hj
      simp at this
      exact .inr this.1
  refine ⟨h1.prp, h.fr.alloc t cs, h1.ia, fun i g t' cs' hi => ?_, h1.tl, h.tt, fun i j x g t' cs' hx hj => ?_⟩
  · rcases key i g t' cs' hi with hi | rfl
    · exact h.li i g t' cs' hi
    · intro e; have := (h.ia _ e).2.1; omega
  · rcases key j g t' cs' hj with hj | rfl
    · exact h.tb i j x g t' cs' hx hj
    · intro e; have := Own.lt (h.tl i x hx).own e; omega
theorem Og.set (h : Og w W I p s l T) (i : Nat) {g : Nat} {t : TypeId} {cs : Array Value} (hi : l[i]? = some (g, t, cs)) (cs' : Array Value) : Og w (W.setRow g cs') I p s (l.set i (g, t, cs')) T := by
  have hk : Kept (Only g) W (W.setRow g cs') := Kept.setRow W g cs'
  have hg := h.li i g t cs hi
  have key : ∀ (j : Nat) g1 t1 cs1, (l.set i (g, t, cs'))[j]? = some (g1, t1, cs1) → ∃ cs2, l[j]? = some (g1, t1, cs2) := by
    intro j g1 t1 cs1 hj
    rw [List.getElem?_set] at hj
    split at hj
    · rename_i hij
      split at hj
      · cases hj; exact ⟨cs, by rw [← hij]; exact hi⟩
      · cases hj
    · exact ⟨cs1, hj⟩
  refine ⟨h.prp.kept hk (fun k e _ _ => ⟨fun f => hg ((show k = g from f) ▸ e), e⟩), h.fr.set i hi cs', fun k e => ⟨(h.ia k e).1, by have := (h.ia k e).2.1; have := hk.size; omega, notM_kept (h.ia k e).2.2 hk (h.ia k e).2.1 (fun f => hg ((show k = g from f) ▸ e))⟩, fun j g1 t1 cs1 hj => ?_, fun j x hx => (h.tl j x hx).kept hk (fun k e f => h.tb j i x g t cs hx hi ((show k = g from f) ▸ e)), h.tt, fun j q x g1 t1 cs1 hx hq => ?_⟩
  · obtain ⟨cs2, hj⟩ := key j g1 t1 cs1 hj
    exact h.li j g1 t1 cs2 hj
  · obtain ⟨cs2, hq⟩ := key q g1 t1 cs1 hq
    exact h.tb j q x g1 t1 cs2 hx hq
/-- One more list, new. -/
theorem Og.add (h : Og w W I p s l T) {t : Sl} {ms : List Mg} (ho : OwM W w.heap.size t ms) (hI : ∀ k, At t.a k → ∀ (i : Nat) (x : Sl × List Mg), T[i]? = some x → ¬ At x.1.a k) (hb : ∀ (j : Nat) g ty cs, l[j]? = some (g, ty, cs) → ¬ At t.a g) : Og w W I p s l (T ++ [(t, ms)]) := by
  have key : ∀ (j : Nat) x, (T ++ [(t, ms)])[j]? = some x → (j < T.length ∧ T[j]? = some x) ∨ (j = T.length ∧ x = (t, ms)) := by
    intro j x hj
    by_cases hl : j < T.length
    · rw [List.getElem?_append_left hl] at hj; exact .inl ⟨hl, hj⟩
    · rw [List.getElem?_append_right (by omega)] at hj
      have h0 : j - T.length = 0 := by have := (List.getElem?_eq_some_iff.1 hj).1; simp at this; omega
      rw [h0] at hj
      exact .inr ⟨by omega, by cases hj; rfl⟩
  refine ⟨h.prp, h.fr, h.ia, h.li, fun j x hx => ?_, fun i j x y k hx hy hxk hyk => ?_, fun i j x g ty cs hx hj => ?_⟩
  · rcases key j x hx with ⟨_, hx⟩ | ⟨_, rfl⟩
    · exact h.tl j x hx
    · exact ho
  · rcases key i x hx with ⟨h1, hx⟩ | ⟨h1, rfl⟩ <;> rcases key j y hy with ⟨h2, hy⟩ | ⟨h2, rfl⟩
    · exact h.tt i j x y k hx hy hxk hyk
    · exact absurd hxk (hI k hyk i x hx)
    · exact absurd hyk (hI k hxk j y hy)
    · omega
  · rcases key i x hx with ⟨h1, hx⟩ | ⟨h1, rfl⟩
    · exact h.tb i j x g ty cs hx hj
    · exact hb j g ty cs hj
/-- The proposer is called. -/
theorem Og.call {e : Ending} {ms : List Ms} (h : Og w W I p s l T) (ho : PrOut W I p s' ms e W') : ∃ la lc I', e = .returned (.slice la ms.length lc) ∧ Og w W' I' p s' l (T ++ [(⟨la, ms.length, lc⟩, ms.map dM)]) := by
  obtain ⟨la, lc, I', he, hO, hP, hI, hk⟩ := ho
  have hsz := h.fr.kept.size
  have h1 : Og w W' I' p s' l T := by
    refine ⟨hP, ⟨h.fr.kept.trans hk (fun _ e => e) (fun k hk' e => ?_), fun i g t cs hi => (h.fr.box i g t cs hi).kept hk (h.li i g t cs hi), h.fr.low, h.fr.inj⟩, fun k e => ⟨?_, (hI k e).2⟩, fun i g t cs hi e => ?_, fun i x hx => (h.tl i x hx).kept hk (fun k hx' e => ?_), h.tt, h.tb⟩
    · have := (h.ia k e).1; omega
    · rcases (hI k e).1 with e1 | e1
      · exact (h.ia k e1).1
      · omega
    · rcases (hI g e).1 with e1 | e1
      · exact h.li i g t cs hi e1
      · have := (h.fr.box i g t cs hi).lt; omega
    · obtain ⟨cs, hb⟩ := Own.ty (h.tl i x hx).own hx'
      exact (h.ia k e).2.2 cs hb
  refine ⟨la, lc, I', he, h1.add ⟨by rw [dM_L]; exact Own.lower hO hsz, by simp⟩ (fun k e i x hx e2 => ?_) (fun j g ty cs hj e2 => ?_)⟩
  · have := Own.base hO e; have := Own.lt (h.tl i x hx).own e2; omega
  · have := Own.base hO e2; have := (h.fr.box j g ty cs hj).lt; omega
/-- Some of the lists, in some order. -/
theorem Og.pick (h : Og w W I p s l T) (js : List Nat) (hnd : js.Nodup) (hT : T'.map some = js.map (fun j => T[j]?)) : Og w W I p s l T' := by
  have key : ∀ (i : Nat) x, T'[i]? = some x → ∃ j, js[i]? = some j ∧ T[j]? = some x := by
    intro i x hx
    have h1 : (T'.map some)[i]? = some (some x) := by rw [List.getElem?_map, hx]; rfl
    rw [hT, List.getElem?_map] at h1
    cases hj : js[i]? with
    | none => rw [hj] at h1; cases h1
    | some j => rw [hj] at h1; exact ⟨j, rfl, by simpa using h1⟩
  refine ⟨h.prp, h.fr, h.ia, h.li, fun i x hx => ?_, fun i j x y k hx hy hxk hyk => ?_, fun i j x g ty cs hx hj => ?_⟩
  · obtain ⟨q, _, hx⟩ := key i x hx; exact h.tl q x hx
  · obtain ⟨q, hq, hx⟩ := key i x hx
    obtain ⟨r, hr, hy⟩ := key j y hy
    have := h.tt q r x y k hx hy hxk hyk
    subst this
    exact (List.getElem?_inj (List.getElem?_eq_some_iff.1 hq).1 hnd).1 (hq.trans hr.symm)
  · obtain ⟨q, _, hx⟩ := key i x hx; exact h.tb q j x g ty cs hx hj
/-- The first ones are written over. -/
theorem Og.wr {T1 T2 : List (Sl × List Mg)} (h : Og w W I p s l (T1 ++ T2)) (hk : Kept (EB (T1.map Prod.fst)) W W') : Og w W' I p s l T2 := by
  have hS : ∀ k, EB (T1.map Prod.fst) k → ∃ i x, i < T1.length ∧ (T1 ++ T2)[i]? = some x ∧ At x.1.a k := by
    rintro k ⟨e, he, ha⟩
    obtain ⟨x, hx, rfl⟩ := List.mem_map.1 he
    obtain ⟨i, hi⟩ := List.mem_iff_getElem?.1 hx
    have hl := (List.getElem?_eq_some_iff.1 hi).1
    exact ⟨i, x, hl, by rw [List.getElem?_append_left hl]; exact hi, ha⟩
  have hnI : ∀ k, I k → ¬ EB (T1.map Prod.fst) k := fun k e f => by
    obtain ⟨i, x, _, hx, ha⟩ := hS k f
    obtain ⟨cs, hb⟩ := Own.ty (h.tl i x hx).own ha
    exact (h.ia k e).2.2 cs hb
  have k2 : ∀ (j : Nat) x, T2[j]? = some x → (T1 ++ T2)[T1.length + j]? = some x := fun j x hx => by rw [List.getElem?_append_right (by omega), Nat.add_sub_cancel_left]; exact hx
  refine ⟨h.prp.kept hk (fun k e _ _ => ⟨hnI k e, e⟩), ⟨h.fr.kept.trans hk (fun _ e => e) (fun k hk' e => ?_), fun i g t cs hi => (h.fr.box i g t cs hi).kept hk (fun f => ?_), h.fr.low, h.fr.inj⟩, fun k e => ⟨(h.ia k e).1, by have := (h.ia k e).2.1; have := hk.size; omega, notM_kept (h.ia k e).2.2 hk (h.ia k e).2.1 (hnI k e)⟩, h.li, fun j x hx => (h.tl _ x (k2 j x hx)).kept hk (fun k hx' f => ?_), fun i j x y k hx hy hxk hyk => ?_, fun i j x g ty cs hx hj => h.tb _ j x g ty cs (k2 i x hx) hj⟩
  · obtain ⟨i, x, _, hx, ha⟩ := hS k e
    have := Own.base (h.tl i x hx).own ha; omega
  · obtain ⟨j, x, _, hx, ha⟩ := hS g f
    exact h.tb j i x g t cs hx hi ha
  · obtain ⟨q, y, hq, hy, ha⟩ := hS k f
    have := h.tt q (T1.length + j) y x k hy (k2 j x hx) ha hx'
    omega
  · have := h.tt _ _ x y k (k2 i x hx) (k2 j y hy) hxk hyk
    omega
theorem Og.start {p : Nat} {W1 : World} (hF : Fq No w W l) (hP : Prp W1 I p s) (hI : ∀ k, I k → W.heap.size ≤ k ∧ k < W1.heap.size ∧ NotM W1 k) (hk : Kept No W W1) : Og w W1 I p s l [] :=
  ⟨hP, hF.no hk, fun k e => ⟨by have := hF.kept.size; have := (hI k e).1; omega, (hI k e).2⟩, fun i g t cs hi e => by have := (hF.box i g t cs hi).lt; have := (hI g e).1; omega, fun i x hx => by simp at hx, fun i j x y k hx => by simp at hx, fun i j x g t cs hx => by simp at hx⟩
theorem Og.front {l2 : List (Nat × TypeId × Array Value)} (h : Og w W I p s (l ++ l2) T) : Og w W I p s l T := by
  have key : ∀ (i : Nat) x, l[i]? = some x → (l ++ l2)[i]? = some x := fun i x hx => by rw [List.getElem?_append_left (List.getElem?_eq_some_iff.1 hx).1]; exact hx
  exact ⟨h.prp, h.fr.front, h.ia, fun i g t cs hi => h.li i g t cs (key i _ hi), h.tl, h.tt, fun i j x g t cs hx hj => h.tb i j x g t cs hx (key j _ hj)⟩
theorem Og.rd (h : Og w W I p s l T) {i : Nat} {x : Sl × List Mg} (hx : T[i]? = some x) : RdM W x.1 x.2 := (h.tl i x hx).rd
theorem Og.sm (h : Og w W I p s l T) {i : Nat} {x : Sl × List Mg} (hx : T[i]? = some x) (h0 : 0 < x.1.l) : ∃ g, x.1.a = some ⟨g, 0, none⟩ := Own.sm (h.tl i x hx).own h0
theorem Og.cell (h : Og w W I p s l T) {i : Nat} {x : Sl × List Mg} (hx : T[i]? = some x) {g : Nat} (ha : x.1.a = some ⟨g, 0, none⟩) {q : Nat} {m : Mg} (hm : x.2[q]? = some m) (j : Nat) {v : Value} (hv : (Mg.cs m)[j]? = some v) : W.cell? ⟨g, 0 + q * 30 + j, none⟩ = some v := by
  obtain ⟨b, o, e, hc⟩ := (h.rd hx).at hm
  rw [ha] at e
  cases e
  exact hc j v hv
end
end Go.Proofs.Ytpabpeppgpeaoaa.Md
/-! One command is decided: the protocol's own theorem, over a history of promises, votes and proposals (no memory in it). Ballots are numbers, 0 is none. -/

namespace Go.Proofs.Ytpabpeppgpeaoaa

namespace Pax

/-- More than half of the group. -/
def Maj (zs : List Int) (q : Int → Bool) : Prop := zs.length < 2 * zs.countP q
theorem meet_cnt (zs : List Int) (p q : Int → Bool) (h : zs.length < zs.countP p + zs.countP q) : ∃ a, a ∈ zs ∧ p a = true ∧ q a = true := by
  induction zs with
  | nil => simp at h
  | cons x l ih =>
    simp only [List.countP_cons, List.length_cons] at h
    cases hp : p x <;> cases hq : q x
    · rw [hp, hq] at h; simp at h; obtain ⟨a, ha, e⟩ := ih (by omega); exact ⟨a, List.mem_cons_of_mem _ ha, e⟩
    · rw [hp, hq] at h; simp at h; obtain ⟨a, ha, e⟩ := ih (by omega); exact ⟨a, List.mem_cons_of_mem _ ha, e⟩
    · rw [hp, hq] at h; simp at h; obtain ⟨a, ha, e⟩ := ih (by omega); exact ⟨a, List.mem_cons_of_mem _ ha, e⟩
    · exact ⟨x, List.mem_cons_self, hp, hq⟩
theorem Maj.meet {zs : List Int} {p q : Int → Bool} (h : Maj zs p) (k : Maj zs q) : ∃ a, a ∈ zs ∧ p a = true ∧ q a = true :=
  meet_cnt zs p q (by unfold Maj at h k; omega)

variable {V : Type}

/-- What ever happened: the greatest ballot that a server promised, what it voted for, what was proposed at a ballot. -/
structure Hist (V : Type) where
  prom : Int → Nat
  vote : Int → Nat → Prop
  prop : Nat → Option V
def h0 : Hist V := ⟨fun _ => 0, fun _ _ => False, fun _ => none⟩
/-- A command may be proposed at a ballot. -/
def Safe (zs : List Int) (h : Hist V) (b : Nat) (v : V) : Prop :=
  ∃ q, Maj zs q ∧ (∀ a, a ∈ zs → q a = true → b ≤ h.prom a) ∧
    ((∀ a, a ∈ zs → q a = true → ∀ b', b' < b → ¬ h.vote a b') ∨ ∃ b', b' < b ∧ h.prop b' = some v ∧ ∀ a, a ∈ zs → q a = true → ∀ b'', b' < b'' → b'' < b → ¬ h.vote a b'')
structure Ok (zs : List Int) (P : V → Prop) (h : Hist V) : Prop where
  vote : ∀ a b, h.vote a b → 0 < b ∧ b ≤ h.prom a ∧ ∃ v, h.prop b = some v
  prop : ∀ b v, h.prop b = some v → Safe zs h b v ∧ P v
/-- Most voted at a ballot. -/
def Chosen (zs : List Int) (h : Hist V) (b : Nat) (v : V) : Prop := h.prop b = some v ∧ ∃ q, Maj zs q ∧ ∀ a, a ∈ zs → q a = true → h.vote a b
def Known (zs : List Int) (h : Hist V) (v : V) : Prop := ∃ b, Chosen zs h b v

theorem Ok.one {zs : List Int} {P : V → Prop} {h : Hist V} (o : Ok zs P h) {c : Nat} {u : V} (hc : Chosen zs h c u) : ∀ n b, b ≤ n → ∀ v, h.prop b = some v → c ≤ b → v = u := by
  intro n
  induction n with
  | zero =>
    intro b hb v hv hcb
    have e : b = c := by omega
    subst e
    have := hc.1; rw [hv] at this; exact Option.some.inj this
  | succ n ih =>
    intro b hb v hv hcb
    by_cases e : b = c
    · subst e; have := hc.1; rw [hv] at this; exact Option.some.inj this
    · obtain ⟨⟨q, hq, hp, hs⟩, _⟩ := o.prop b v hv
      obtain ⟨_, q2, hq2, hv2⟩ := hc
      obtain ⟨a, ha, e1, e2⟩ := hq.meet hq2
      have hva := hv2 a ha e2
      rcases hs with hs | ⟨b', l1, l2, l3⟩
      · exact absurd hva (hs a ha e1 c (by omega))
      · by_cases l : c ≤ b'
        · exact ih b' (by omega) v l2 l
        · exact absurd hva (l3 a ha e1 c (by omega) (by omega))
theorem Ok.agree {zs : List Int} {P : V → Prop} {h : Hist V} (o : Ok zs P h) {u v : V} (hu : Known zs h u) (hv : Known zs h v) : u = v := by
  obtain ⟨c, hc⟩ := hu
  obtain ⟨d, hd⟩ := hv
  rcases Nat.le_total c d with l | l
  · exact (o.one hc d d (Nat.le_refl _) v hd.1 l).symm
  · exact o.one hd c c (Nat.le_refl _) u hc.1 l
theorem Ok.own {zs : List Int} {P : V → Prop} {h : Hist V} (o : Ok zs P h) {u : V} (hu : Known zs h u) : P u := by
  obtain ⟨c, hc⟩ := hu
  exact (o.prop c u hc.1).2
theorem ok0 (zs : List Int) (P : V → Prop) : Ok zs P (h0 : Hist V) := ⟨fun _ _ e => e.elim, fun _ _ e => nomatch e⟩

/-- One history goes on in another. -/
structure Le (h k : Hist V) : Prop where
  prom : ∀ a, h.prom a ≤ k.prom a
  vote : ∀ a b, h.vote a b → k.vote a b
  prop : ∀ b v, h.prop b = some v → k.prop b = some v
  fresh : ∀ a b, k.vote a b → h.vote a b ∨ h.prom a ≤ b
theorem Le.refl (h : Hist V) : Le h h := ⟨fun _ => Nat.le_refl _, fun _ _ e => e, fun _ _ e => e, fun _ _ e => .inl e⟩
theorem Le.trans {h k l : Hist V} (x : Le h k) (y : Le k l) : Le h l :=
  ⟨fun a => Nat.le_trans (x.prom a) (y.prom a), fun a b e => y.vote a b (x.vote a b e), fun b v e => y.prop b v (x.prop b v e), fun a b e => (y.fresh a b e).elim (x.fresh a b) (fun l => .inr (Nat.le_trans (x.prom a) l))⟩
theorem Safe.le {zs : List Int} {h k : Hist V} {b : Nat} {v : V} (s : Safe zs h b v) (l : Le h k) : Safe zs k b v := by
  obtain ⟨q, hq, hp, hs⟩ := s
  refine ⟨q, hq, fun a ha e => Nat.le_trans (hp a ha e) (l.prom a), ?_⟩
  rcases hs with hs | ⟨b', l1, l2, l3⟩
  · refine .inl fun a ha e b' lb hv => ?_
    rcases l.fresh a b' hv with hv | hv
    · exact hs a ha e b' lb hv
    · have := hp a ha e; omega
  · refine .inr ⟨b', l1, l.prop _ _ l2, fun a ha e b'' la lb hv => ?_⟩
    rcases l.fresh a b'' hv with hv | hv
    · exact l3 a ha e b'' la lb hv
    · have := hp a ha e; omega
theorem Chosen.le {zs : List Int} {h k : Hist V} {b : Nat} {v : V} (s : Chosen zs h b v) (l : Le h k) : Chosen zs k b v := by
  obtain ⟨e, q, hq, hv⟩ := s
  exact ⟨l.prop _ _ e, q, hq, fun a ha e => l.vote _ _ (hv a ha e)⟩
theorem Known.le {zs : List Int} {h k : Hist V} {v : V} (s : Known zs h v) (l : Le h k) : Known zs k v := by
  obtain ⟨b, hb⟩ := s
  exact ⟨b, hb.le l⟩

/-- A server promises. -/
def promise (h : Hist V) (a : Int) (b : Nat) : Hist V := { h with prom := fun x => if x = a then max (h.prom a) b else h.prom x }
theorem promise_le (h : Hist V) (a : Int) (b : Nat) : Le h (promise h a b) := by
  refine ⟨fun x => ?_, fun _ _ e => e, fun _ _ e => e, fun _ _ e => .inl e⟩
  show h.prom x ≤ (if x = a then max (h.prom a) b else h.prom x)
  split
  · next e => subst e; omega
  · exact Nat.le_refl _
theorem promise_ok {zs : List Int} {P : V → Prop} {h : Hist V} (o : Ok zs P h) (a : Int) (b : Nat) : Ok zs P (promise h a b) := by
  have l := promise_le h a b
  refine ⟨fun x c e => ?_, fun c v e => ⟨(o.prop c v e).1.le l, (o.prop c v e).2⟩⟩
  obtain ⟨e1, e2, e3⟩ := o.vote x c e
  exact ⟨e1, Nat.le_trans e2 (l.prom x), e3⟩
/-- A server votes. -/
def voted (h : Hist V) (a : Int) (b : Nat) : Hist V := { promise h a b with vote := fun x c => h.vote x c ∨ (x = a ∧ c = b) }
theorem voted_le {h : Hist V} {a : Int} {b : Nat} (hb : h.prom a ≤ b) : Le h (voted h a b) := by
  refine ⟨(promise_le h a b).prom, fun _ _ e => .inl e, fun _ _ e => e, fun x c e => ?_⟩
  rcases e with e | ⟨e1, e2⟩
  · exact .inl e
  · subst e1; subst e2; exact .inr hb
theorem voted_ok {zs : List Int} {P : V → Prop} {h : Hist V} (o : Ok zs P h) {a : Int} {b : Nat} {v : V} (hb : h.prom a ≤ b) (b0 : 0 < b) (hv : h.prop b = some v) : Ok zs P (voted h a b) := by
  have l := voted_le (V := V) hb
  refine ⟨fun x c e => ?_, fun c v e => ⟨(o.prop c v e).1.le l, (o.prop c v e).2⟩⟩
  rcases e with e | ⟨e1, e2⟩
  · obtain ⟨e1, e2, e3⟩ := o.vote x c e
    exact ⟨e1, Nat.le_trans e2 (l.prom x), e3⟩
  · subst e1; subst e2
    refine ⟨b0, ?_, v, hv⟩
    show c ≤ (if x = x then max (h.prom x) c else h.prom x)
    rw [if_pos rfl]; omega
/-- A command is proposed. -/
def proposed (h : Hist V) (b : Nat) (v : V) : Hist V := { h with prop := fun c => if c = b then some v else h.prop c }
theorem proposed_le {h : Hist V} {b : Nat} {v : V} (hn : h.prop b = none) : Le h (proposed h b v) := by
  refine ⟨fun _ => Nat.le_refl _, fun _ _ e => e, fun c u e => ?_, fun _ _ e => .inl e⟩
  show (if c = b then some v else h.prop c) = some u
  rw [if_neg (by rintro rfl; rw [hn] at e; exact nomatch e)]; exact e
theorem proposed_ok {zs : List Int} {P : V → Prop} {h : Hist V} (o : Ok zs P h) {b : Nat} {v : V} (hn : h.prop b = none) (hs : Safe zs h b v) (hP : P v) : Ok zs P (proposed h b v) := by
  have l := proposed_le (v := v) hn
  refine ⟨fun x c e => ?_, fun c u e => ?_⟩
  · obtain ⟨e1, e2, w, e3⟩ := o.vote x c e
    exact ⟨e1, e2, w, l.prop _ _ e3⟩
  · by_cases hc : c = b
    · subst hc
      have e' : some v = some u := by rw [← e]; show _ = (if c = c then some v else h.prop c); rw [if_pos rfl]
      cases Option.some.inj e'
      exact ⟨hs.le l, hP⟩
    · have e' : h.prop c = some u := by rw [← e]; show _ = (if c = b then some v else h.prop c); rw [if_neg hc]
      exact ⟨(o.prop c u e').1.le l, (o.prop c u e').2⟩

/-- What a promise tells: a ballot, what was accepted (0: nothing) and the command. -/
structure Rep (h : Hist V) (a : Int) (b : Nat) (d : Nat) (c : V) : Prop where
  prom : b ≤ h.prom a
  less : d ≤ b
  held : d = 0 ∨ h.prop d = some c
  gap : ∀ b', d < b' → b' < b → ¬ h.vote a b'
theorem Rep.le {h k : Hist V} {a : Int} {b d : Nat} {c : V} (r : Rep h a b d c) (l : Le h k) : Rep k a b d c :=
  ⟨Nat.le_trans r.prom (l.prom a), r.less, r.held.imp id (l.prop _ _), fun b' l1 l2 hv => (l.fresh a b' hv).elim (r.gap b' l1 l2) (fun x => by have := r.prom; omega)⟩
/-- A server as it stands: what it promised, what it accepted. -/
structure Sv (h : Hist V) (a : Int) (p d : Nat) (c : V) : Prop where
  prom : h.prom a = p
  less : d ≤ p
  held : d = 0 ∨ (h.prop d = some c ∧ h.vote a d)
  gap : ∀ b, d < b → ¬ h.vote a b
theorem sv0 (a : Int) (c : V) : Sv (h0 : Hist V) a 0 0 c := ⟨rfl, Nat.le_refl _, .inl rfl, fun _ _ e => e⟩
/-- It promises a ballot that is none of less, and tells what it accepted. -/
theorem Sv.promise {h : Hist V} {a : Int} {p d b : Nat} {c : V} (s : Sv h a p d c) (hb : p ≤ b) : Sv (promise h a b) a b d c ∧ Rep (promise h a b) a b d c := by
  have e : (Pax.promise h a b).prom a = b := by show (if a = a then max (h.prom a) b else h.prom a) = b; rw [if_pos rfl, s.prom]; omega
  exact ⟨⟨e, Nat.le_trans s.less hb, s.held, s.gap⟩, ⟨Nat.le_of_eq e.symm, Nat.le_trans s.less hb, s.held.imp id And.left, fun b' l _ => s.gap b' l⟩⟩
/-- It votes for what is proposed at a ballot that is none of less. -/
theorem Sv.voted {h : Hist V} {a : Int} {p d b : Nat} {c v : V} (s : Sv h a p d c) (hb : p ≤ b) (hv : h.prop b = some v) : Sv (voted h a b) a b b v := by
  have e : (Pax.voted h a b).prom a = b := by show (if a = a then max (h.prom a) b else h.prom a) = b; rw [if_pos rfl, s.prom]; omega
  refine ⟨e, Nat.le_refl _, .inr ⟨hv, .inr ⟨rfl, rfl⟩⟩, fun b' l hv' => ?_⟩
  rcases hv' with hv' | ⟨_, e2⟩
  · exact s.gap b' (by have := s.less; omega) hv'
  · omega
/-- Another server stays as it stands. -/
theorem Sv.promise_other {h : Hist V} {x a : Int} {p d b : Nat} {c : V} (s : Sv h x p d c) (hx : x ≠ a) : Sv (Pax.promise h a b) x p d c :=
  ⟨by show (if x = a then max (h.prom a) b else h.prom x) = p; rw [if_neg hx]; exact s.prom, s.less, s.held, s.gap⟩
theorem Sv.voted_other {h : Hist V} {x a : Int} {p d b : Nat} {c : V} (s : Sv h x p d c) (hx : x ≠ a) : Sv (Pax.voted h a b) x p d c :=
  ⟨by show (if x = a then max (h.prom a) b else h.prom x) = p; rw [if_neg hx]; exact s.prom, s.less, s.held.imp id (fun e => ⟨e.1, .inl e.2⟩),
    fun b' l hv => hv.elim (s.gap b' l) (fun e => hx e.1)⟩
theorem Sv.proposed {h : Hist V} {x : Int} {p d b : Nat} {c v : V} (s : Sv h x p d c) (hn : h.prop b = none) : Sv (Pax.proposed h b v) x p d c :=
  ⟨s.prom, s.less, s.held.imp id (fun e => ⟨(proposed_le hn).prop _ _ e.1, e.2⟩), s.gap⟩
/-- The command of the greatest ballot that most tell, or any where none tells one, may be proposed. -/
theorem safe_of {zs : List Int} {P : V → Prop} {h : Hist V} (o : Ok zs P h) {q : Int → Bool} (hq : Maj zs q) {b : Nat} {d : Int → Nat} {c : Int → V} {v : V} {B : Nat} (hn : h.prop b = none)
    (hr : ∀ a, a ∈ zs → q a = true → Rep h a b (d a) (c a)) (hB : ∀ a, a ∈ zs → q a = true → d a ≤ B) (hv : B = 0 ∨ ∃ a, a ∈ zs ∧ q a = true ∧ d a = B ∧ c a = v) : Safe zs h b v := by
  refine ⟨q, hq, fun a ha e => (hr a ha e).prom, ?_⟩
  by_cases e0 : B = 0
  · refine .inl fun a ha e b' l hvo => ?_
    have := (o.vote a b' hvo).1
    exact (hr a ha e).gap b' (by have := hB a ha e; omega) l hvo
  · obtain ⟨a, ha, ea, ed, ec⟩ := hv.resolve_left e0
    have r := hr a ha ea
    have hp : h.prop B = some v := by rw [← ed, ← ec]; exact r.held.resolve_left (by omega)
    have hB' : B < b := by
      have := r.less
      rcases Nat.lt_or_eq_of_le this with l | l
      · omega
      · rw [← ed, l, hn] at hp; exact nomatch hp
    exact .inr ⟨B, hB', hp, fun x hx e b'' l1 l2 => (hr x hx e).gap b'' (by have := hB x hx e; omega) l2⟩

end Pax

end Go.Proofs.Ytpabpeppgpeaoaa
/-! The protocol's theorem over the proposer's pure state and the servers' (no memory in it): what is told keeps to a history. -/

namespace Go.Proofs.Ytpabpeppgpeaoaa
open Go.RowKit Gt
set_option linter.unusedVariables false
set_option linter.unusedSimpArgs false

namespace Pax

/-- A stamp as a ballot. -/
def bal (s : Sp) : Nat := (s.n * 256 + s.c).toNat
structure Sok (s : Sp) : Prop where
  n0 : 0 ≤ s.n
  n1 : s.n ≤ 1099511627776
  c0 : 0 ≤ s.c
  c1 : s.c < 256
theorem sokZ : Sok sZ := ⟨by decide, by decide, by decide, by decide⟩
theorem balZ : bal sZ = 0 := rfl
def ltS (a b : Sp) : Bool := decide (a.n < b.n) || (decide (a.n = b.n) && decide (a.c < b.c))
theorem ltS_iff {a b : Sp} (ha : Sok a) (hb : Sok b) : ltS a b = true ↔ bal a < bal b := by
  obtain ⟨a1, a2, a3, a4⟩ := ha
  obtain ⟨b1, b2, b3, b4⟩ := hb
  unfold ltS bal
  simp only [Bool.or_eq_true, Bool.and_eq_true, decide_eq_true_eq]
  omega
theorem ltS_no {a b : Sp} (ha : Sok a) (hb : Sok b) (h : ltS a b = false) : bal b ≤ bal a := by
  have := ltS_iff ha hb
  rw [h] at this
  simp only [Bool.false_eq_true, false_iff] at this
  omega
theorem bal_inj {n m c d : Int} (hn : 0 ≤ n) (hm : 0 ≤ m) (hc : 0 ≤ c) (hd : 0 ≤ d) (c1 : c < 256) (d1 : d < 256) (h : bal ⟨n, c⟩ = bal ⟨m, d⟩) : n = m ∧ c = d := by
  unfold bal at h
  simp only at h
  omega
theorem bal_pos {s : Sp} (h : 1 ≤ s.n) (hc : 0 ≤ s.c) : 0 < bal s := by unfold bal; omega
theorem eqS_eq {a b : Sp} (h : eqS a b = true) : a = b := by
  unfold eqS at h
  simp only [Bool.and_eq_true, beq_iff_eq] at h
  cases a; cases b
  simp only at h
  rw [h.1, h.2]

/-- What is under way keeps to the history. -/
structure Mok (zs : List Int) (h : Hist Cm) (m : Ms) : Prop where
  kind : m.k = 3 ∨ m.k = 4 ∨ m.k = 5 ∨ m.k = 13 ∨ m.k = 14 ∨ m.k = 15 ∨ m.k = 16
  st : Sok m.st
  one : m.k = 3 ∨ m.k = 4 → 1 ≤ m.st.n
  acc : m.k = 4 → h.prop (bal m.st) = some m.c
  lrn : m.k = 5 → Known zs h m.c
  pro : m.k = 13 → Sok m.hd ∧ Rep h m.fi (bal m.st) (bal m.hd) m.c
  vot : m.k = 15 → h.vote m.fi (bal m.st)
  knw : m.k = 16 → Known zs h m.c
  dir : m.tc = false → m.fc = true ∧ (m.k = 3 ∨ m.k = 4 ∨ m.k = 5)
theorem Mok.le {zs : List Int} {h k : Hist Cm} {m : Ms} (x : Mok zs h m) (l : Le h k) : Mok zs k m :=
  ⟨x.kind, x.st, x.one, fun e => l.prop _ _ (x.acc e), fun e => (x.lrn e).le l, fun e => ⟨(x.pro e).1, (x.pro e).2.le l⟩, fun e => l.vote _ _ (x.vot e), fun e => (x.knw e).le l, x.dir⟩

/-- A server's answer. -/
def ans (m : Ms) (k : Int) (st hd : Sp) (c : Cm) : Ms := { msZ with k := k, fc := m.tc, fi := m.ti, tc := m.fc, ti := m.fi, op := m.op, rd := m.rd, ky := m.ky, st := st, hd := hd, c := c }
def prepA (i : In) (m : Ms) : In × Ms := if i.d then (i, ans m 16 sZ sZ i.c) else if ltS m.st i.p then (i, ans m 14 i.p sZ cZ) else (⟨m.st, i.a, i.c, i.d⟩, ans m 13 m.st i.a i.c)
def accA (i : In) (m : Ms) : In × Ms := if i.d then (i, ans m 16 sZ sZ i.c) else if ltS m.st i.p then (i, ans m 14 i.p sZ cZ) else (⟨m.st, m.st, m.c, false⟩, ans m 15 m.st sZ cZ)
def lrnA (i : In) (m : Ms) : In := if i.d then i else ⟨sZ, sZ, m.c, true⟩
/-- A server keeps to the history. -/
def Aok (zs : List Int) (h : Hist Cm) (a : Int) (i : In) : Prop := (i.d = true ∧ Known zs h i.c) ∨ (i.d = false ∧ Sok i.p ∧ Sok i.a ∧ Sv h a (bal i.p) (bal i.a) i.c)
theorem aok0 (zs : List Int) (a : Int) : Aok zs h0 a ⟨sZ, sZ, cZ, false⟩ := .inr ⟨rfl, sokZ, sokZ, sv0 a cZ⟩
/-- A server's step: the history goes on, nothing is proposed, the others stay. -/
structure SvStep (zs : List Int) (P : Cm → Prop) (h h' : Hist Cm) (a : Int) : Prop where
  le : Le h h'
  ok : Ok zs P h'
  prop : h'.prop = h.prop
  others : ∀ x p d c, x ≠ a → Sv h x p d c → Sv h' x p d c
theorem SvStep.same {zs : List Int} {P : Cm → Prop} {h : Hist Cm} (o : Ok zs P h) (a : Int) : SvStep zs P h h a := ⟨Le.refl h, o, rfl, fun _ _ _ _ _ e => e⟩
theorem SvStep.aok {zs : List Int} {P : Cm → Prop} {h h' : Hist Cm} {a x : Int} {i : In} (s : SvStep zs P h h' a) (hx : x ≠ a) (k : Aok zs h x i) : Aok zs h' x i := by
  rcases k with ⟨e, k⟩ | ⟨e, k1, k2, k3⟩
  · exact .inl ⟨e, k.le s.le⟩
  · exact .inr ⟨e, k1, k2, s.others _ _ _ _ hx k3⟩
theorem ans_dir {m : Ms} {k : Int} {st hd : Sp} {c : Cm} (hf : m.fc = true) : (ans m k st hd c).tc = false → (ans m k st hd c).fc = true ∧ ((ans m k st hd c).k = 3 ∨ (ans m k st hd c).k = 4 ∨ (ans m k st hd c).k = 5) := fun e => by
  rw [show (ans m k st hd c).tc = m.fc from rfl, hf] at e; exact nomatch e
theorem ans_known {zs : List Int} {h : Hist Cm} {m : Ms} {c : Cm} (hf : m.fc = true) (k : Known zs h c) : Mok zs h (ans m 16 sZ sZ c) :=
  ⟨by simp [ans], sokZ, by simp [ans], by simp [ans], by simp [ans], by simp [ans], by simp [ans], fun _ => k, ans_dir hf⟩
theorem ans_nack {zs : List Int} {h : Hist Cm} {m : Ms} {p : Sp} (hf : m.fc = true) (k : Sok p) : Mok zs h (ans m 14 p sZ cZ) :=
  ⟨by simp [ans], k, by simp [ans], by simp [ans], by simp [ans], by simp [ans], by simp [ans], by simp [ans], ans_dir hf⟩
theorem prep_A {zs : List Int} {P : Cm → Prop} {h : Hist Cm} (o : Ok zs P h) {a : Int} {i : In} (k : Aok zs h a i) {m : Ms} (hm : Mok zs h m) (hk : m.k = 3) (hf : m.fc = true) (ht : m.ti = a) :
    ∃ h', SvStep zs P h h' a ∧ Aok zs h' a (prepA i m).1 ∧ Mok zs h' (prepA i m).2 := by
  unfold prepA
  rcases k with ⟨e, k⟩ | ⟨e, k1, k2, k3⟩
  · rw [if_pos e]; exact ⟨h, .same o a, .inl ⟨e, k⟩, ans_known hf k⟩
  · rw [if_neg (by rw [e]; decide)]
    cases hl : ltS m.st i.p
    · rw [if_neg (by decide)]
      have hb := ltS_no hm.st k1 hl
      obtain ⟨s1, s2⟩ := k3.promise hb
      refine ⟨promise h a (bal m.st), ⟨promise_le _ _ _, promise_ok o _ _, rfl, fun x p d c hx hs => hs.promise_other hx⟩, .inr ⟨e, hm.st, k2, s1⟩, ?_⟩
      exact ⟨by simp [ans], hm.st, fun _ => hm.one (.inl hk), by simp [ans], by simp [ans], fun _ => ⟨k2, by show Rep _ m.ti _ _ _; rw [ht]; exact s2⟩, by simp [ans], by simp [ans], ans_dir hf⟩
    · rw [if_pos rfl]
      exact ⟨h, .same o a, .inr ⟨e, k1, k2, k3⟩, ans_nack hf k1⟩
theorem acc_A {zs : List Int} {P : Cm → Prop} {h : Hist Cm} (o : Ok zs P h) {a : Int} {i : In} (k : Aok zs h a i) {m : Ms} (hm : Mok zs h m) (hk : m.k = 4) (hf : m.fc = true) (ht : m.ti = a) :
    ∃ h', SvStep zs P h h' a ∧ Aok zs h' a (accA i m).1 ∧ Mok zs h' (accA i m).2 := by
  unfold accA
  rcases k with ⟨e, k⟩ | ⟨e, k1, k2, k3⟩
  · rw [if_pos e]; exact ⟨h, .same o a, .inl ⟨e, k⟩, ans_known hf k⟩
  · rw [if_neg (by rw [e]; decide)]
    cases hl : ltS m.st i.p
    · rw [if_neg (by decide)]
      have hb := ltS_no hm.st k1 hl
      have hp := hm.acc hk
      have hb' : h.prom a ≤ bal m.st := by rw [k3.prom]; exact hb
      have s1 := k3.voted hb hp
      refine ⟨voted h a (bal m.st), ⟨voted_le hb', voted_ok o hb' (bal_pos (hm.one (.inr hk)) hm.st.c0) hp, rfl, fun x p d c hx hs => hs.voted_other hx⟩, .inr ⟨rfl, hm.st, hm.st, s1⟩, ?_⟩
      exact ⟨by simp [ans], hm.st, fun _ => hm.one (.inr hk), by simp [ans], by simp [ans], by simp [ans], fun _ => .inr ⟨ht, rfl⟩, by simp [ans], ans_dir hf⟩
    · rw [if_pos rfl]
      exact ⟨h, .same o a, .inr ⟨e, k1, k2, k3⟩, ans_nack hf k1⟩
theorem lrn_A {zs : List Int} {h : Hist Cm} {a : Int} {i : In} (k : Aok zs h a i) {m : Ms} (hm : Mok zs h m) (hk : m.k = 5) : Aok zs h a (lrnA i m) := by
  unfold lrnA
  split
  · exact k
  · exact .inl ⟨rfl, hm.lrn hk⟩

end Pax

end Go.Proofs.Ytpabpeppgpeaoaa
