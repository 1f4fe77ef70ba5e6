import Derived.Test.YtpabpeppgpeaoaaRn
namespace Go.Proofs.Ytpabpeppgpeaoaa
open Go.RowKit Gt
set_option linter.unusedVariables false
set_option linter.unusedSimpArgs false
theorem RfAt.cut {w : World} {J : Nat → Prop} {r : Nat} {x : Md.Rs} (h : Md.RfAt w J r x) : Md.RfAt w (fun k => J k ∧ k < w.heap.size ∧ NotM w k) r x := by
  obtain ⟨g, ba, bc, bh, bm, h⟩ := h
  refine ⟨g, ba, bc, bh, bm, ⟨Kept.refl _ _, h.fq.box, fun i g T cs hi => .inr ⟨(h.fq.low i g T cs hi).elim (fun e => absurd (h.fq.box i g T cs hi).lt (by omega)) id, (h.fq.box i g T cs hi).lt, (h.fq.box i g T cs hi).notM ?_⟩, h.fq.inj⟩, h.gr, fun k e => ⟨h.gj k e, h.gr.own.lt e, h.gr.own.notM (by decide) e⟩, h.la, h.lc, h.lh, h.lm, h.hn⟩
  match i, hi with
  | 0, hi => cases hi; decide
  | 1, hi => cases hi; decide
  | 2, hi => cases hi; decide
  | 3, hi => cases hi; decide
  | 4, hi => cases hi; decide
theorem RfAt.kept {w w' : World} {S J J' : Nat → Prop} {r : Nat} {x : Md.Rs} (h : Md.RfAt w J r x) (hk : Kept S w w') (hS : ∀ k, J k → k < w.heap.size → NotM w k → ¬ S k ∧ J' k) : Md.RfAt w' J' r x := by
  obtain ⟨g, ba, bc, bh, bm, h⟩ := RfAt.cut h
  have hb : ∀ (i : Nat) g T cs, _ → ¬ S g ∧ J' g := fun i g' T cs hi => by
    have hj := (h.fq.low i g' T cs hi).elim (fun e => absurd (h.fq.box i g' T cs hi).lt (by omega)) id
    exact hS g' hj.1 hj.2.1 hj.2.2
  have hg : ∀ k, At g.a k → ¬ S k ∧ J' k := fun k e => hS k (h.gj k e).1 (h.gj k e).2.1 (h.gj k e).2.2
  exact ⟨g, ba, bc, bh, bm, ⟨Kept.refl _ _, fun i g T cs hi => (h.fq.box i g T cs hi).kept hk (hb i g T cs hi).1, fun i g T cs hi => .inr (hb i g T cs hi).2, h.fq.inj⟩, h.gr.kept hk (fun k e => (hg k e).1), fun k e => (hg k e).2, h.la, h.lc, h.lh, h.lm, h.hn⟩
/-- Both proposers in memory. -/
structure Wc (w0 : World) (I J : Nat → Prop) (p r : Nat) (s : PS) (x : Md.Rs) (w : World) : Prop where
  a : Prp w I p s
  b : Md.RfAt w J r x
  ia : ∀ k, I k → w0.heap.size ≤ k ∧ k < w.heap.size ∧ NotM w k
  jb : ∀ k, J k → w0.heap.size ≤ k ∧ k < w.heap.size ∧ NotM w k
  ij : ∀ k, I k → ¬ J k
  kp : Kept No w0 w
section
variable {w0 w w' : World} {I J S : Nat → Prop} {p r : Nat} {s s' : PS} {x x' : Md.Rs}
theorem Wc.kept (h : Wc w0 I J p r s x w) (hk : Kept S w w') (hS : ∀ k, S k → w0.heap.size ≤ k ∧ ¬ I k ∧ ¬ J k) : Wc w0 (fun k => I k ∧ NotM w' k) (fun k => J k ∧ NotM w' k) p r s x w' := by
  have ha := (h.a.kept hk (I' := I) (fun k e _ _ => ⟨fun f => (hS k f).2.1 e, e⟩)).cut
  have hb := RfAt.cut (RfAt.kept h.b hk (J' := J) (fun k e _ _ => ⟨fun f => (hS k f).2.2 e, e⟩))
  refine ⟨ha.wide (fun k e => ⟨e.1, e.2.2⟩), hb.wide (fun k e => ⟨e.1, e.2.2⟩), fun k e => ?_, fun k e => ?_, fun k e f => h.ij k e.1 f.1, h.kp.trans hk (fun _ e => e) (fun k hk' e => by have := (hS k e).1; omega)⟩
  · have := h.ia k e.1; have hs := hk.size; exact ⟨this.1, by omega, e.2⟩
  · have := h.jb k e.1; have hs := hk.size; exact ⟨this.1, by omega, e.2⟩
theorem Wc.no (h : Wc w0 I J p r s x w) (hk : Kept No w w') : Wc w0 I J p r s x w' := by
  have hn : ∀ k, k < w.heap.size → NotM w k → NotM w' k := fun k hl hm cs hb => hm cs (by
    unfold Box at hb ⊢
    rw [← hk.block k hl (fun e => e)]; exact hb)
  refine ⟨h.a.no hk, ?_, fun k e => ?_, fun k e => ?_, h.ij, h.kp.then hk⟩
  · exact RfAt.kept h.b hk (fun k e _ _ => ⟨fun f => f, e⟩)
  · have := h.ia k e; have hs := hk.size; exact ⟨this.1, by omega, hn k this.2.1 this.2.2⟩
  · have := h.jb k e; have hs := hk.size; exact ⟨this.1, by omega, hn k this.2.1 this.2.2⟩
/-- The program's call. -/
theorem Wc.prog {l : List Ms} {e : Ending} (h : Wc w0 I J p r s x w) (ho : PrOut w I p s' l e w') : ∃ la lc I' J', e = .returned (.slice la l.length lc) ∧ Own 47 30 w' w.heap.size la lc l.length (msL l) ∧ Wc w0 I' J' p r s' x w' ∧ Kept I w w' ∧ (∀ k, I' k ∨ J' k → I k ∨ J k ∨ w.heap.size ≤ k) := by
  obtain ⟨la, lc, I', he, hO, hP, hI, hk⟩ := ho
  have hs0 := h.kp.size
  have hb := RfAt.cut (RfAt.kept h.b hk (J' := J) (fun k e _ _ => ⟨fun f => h.ij k f e, e⟩))
  refine ⟨la, lc, I', _, he, hO, ⟨hP, hb, fun k e => ?_, fun k e => ⟨(h.jb k e.1).1, e.2⟩, fun k e f => ?_, h.kp.trans hk (fun _ e => e) (fun k hk' e => by have := (h.ia k e).1; omega)⟩, hk, fun k e => ?_⟩
  · obtain ⟨h1, h2, h3⟩ := hI k e
    exact ⟨h1.elim (fun a => (h.ia k a).1) (fun a => Nat.le_trans hs0 a), h2, h3⟩
  · rcases (hI k e).1 with h1 | h1
    · exact h.ij k h1 f.1
    · have := (h.jb k f.1).2.1; omega
  · rcases e with e | e
    · exact (hI k e).1.imp id .inr
    · exact .inr (.inl e.1)
end
/-- A bucket of the script. -/
def Bw (w0 : World) (b : Md.Bv) (es : List En) (ls : List La) : Prop := RdE w0 (jL b.e) es ∧ RdL w0 (jL b.l) ls ∧ b.e.l ≤ 3518437208780 ∧ b.l.l ≤ 2513169434843

def cE (e : En) : Md.En := ⟨e.nm, e.f0, e.f1, e.sz⟩
def cL (e : La) : Md.La := ⟨e.cl, e.op, e.ins, e.er, e.f0, e.f1, e.sz⟩
def dE (e : Md.En) : En := ⟨e.nm, e.f0, e.f1, e.sz⟩
def dL (e : Md.La) : La := ⟨e.cl, e.op, e.ins, e.er, e.f0, e.f1, e.sz⟩
theorem rdE_up {w : World} {s : Md.Sl} {es : List Md.En} (h : Md.RdE w s es) : RdE w (jL s) (es.map dE) := by
  refine ⟨?_, by rw [List.length_map]; exact h.len, h.cap⟩
  have e : (es.map dE).map En.cs = es.map Md.En.cs := by rw [List.map_map]; rfl
  intro i it hi
  rw [e] at hi
  exact h.row i it hi
theorem rdL_up {w : World} {s : Md.Sl} {es : List Md.La} (h : Md.RdL w s es) : RdL w (jL s) (es.map dL) := by
  refine ⟨?_, by rw [List.length_map]; exact h.len, h.cap⟩
  have e : (es.map dL).map La.cs = es.map Md.La.cs := by rw [List.map_map]; rfl
  intro i it hi
  rw [e] at hi
  exact h.row i it hi
/-- What is shown is the same. -/
structure ShowR (w0 : World) (s : PS) (x : Md.Rs) : Prop where
  de : x.de = (decO s).2
  dc : jC x.dc = (decO s).1
  tr : x.tr = (triO s).2.2.2
  wo : x.wo = worO s
  up : x.bk.up = (triO s).1
  bk : Bw w0 x.bk (triO s).2.1 (triO s).2.2.1
  nt : x.nt = s.top
  rd : x.rd = s.rd

section
variable {w0 w w' : World} {I J S : Nat → Prop} {p r : Nat} {s s' : PS} {x x' : Md.Rs}
theorem Wc.kept' (h : Wc w0 I J p r s x w) (hk : Kept S w w') (hS : ∀ k, S k → w0.heap.size ≤ k ∧ ¬ I k ∧ ¬ J k) : Wc w0 I J p r s x w' := by
  have hn : ∀ k, k < w.heap.size → ¬ S k → NotM w k → NotM w' k := fun k hl hs hm cs hb => hm cs (by
    unfold Box at hb ⊢
    rw [← hk.block k hl hs]; exact hb)
  refine ⟨h.a.kept hk (fun k e _ _ => ⟨fun f => (hS k f).2.1 e, e⟩), RfAt.kept h.b hk (fun k e _ _ => ⟨fun f => (hS k f).2.2 e, e⟩), fun k e => ?_, fun k e => ?_, h.ij, h.kp.trans hk (fun _ e => e) (fun k hk' e => by have := (hS k e).1; omega)⟩
  · have := h.ia k e; have hs := hk.size; exact ⟨this.1, by omega, hn k this.2.1 (fun f => (hS k f).2.1 e) this.2.2⟩
  · have := h.jb k e; have hs := hk.size; exact ⟨this.1, by omega, hn k this.2.1 (fun f => (hS k f).2.2 e) this.2.2⟩
end
/-- What a function over both holds while it runs. -/
structure Wf (w0 : World) (I0 J0 I J : Nat → Prop) (p r : Nat) (s : PS) (x : Md.Rs) (w W : World) (l : List (Nat × TypeId × Array Value)) : Prop where
  c : Wc w0 I J p r s x W
  w0le : w0.heap.size ≤ w.heap.size
  box : ∀ (i : Nat) g T cs, l[i]? = some (g, T, cs) → Box W g T cs
  low : ∀ (i : Nat) g T cs, l[i]? = some (g, T, cs) → w.heap.size ≤ g ∧ ¬ I g ∧ ¬ J g
  inj : ∀ (i j : Nat) g T cs T' cs', l[i]? = some (g, T, cs) → l[j]? = some (g, T', cs') → i = j
  kept : Kept (fun k => I0 k ∨ J0 k) w W
  sub : ∀ k, I k ∨ J k → I0 k ∨ J0 k ∨ w.heap.size ≤ k
section
variable {w0 w W W' : World} {I0 J0 I J S : Nat → Prop} {p r : Nat} {s s' : PS} {x x' : Md.Rs} {l : List (Nat × TypeId × Array Value)}
theorem Wf.start (h : Wc w0 I J p r s x w) : Wf w0 I J I J p r s x w w [] := ⟨h, h.kp.size, by simp, by simp, by simp, Kept.refl _ _, fun k e => e.elim .inl (fun e => .inr (.inl e))⟩
theorem Wf.fq (h : Wf w0 I0 J0 I J p r s x w W l) : Md.Fq (fun k => I0 k ∨ J0 k) w W l := ⟨h.kept, h.box, fun i g T cs hi => .inl (h.low i g T cs hi).1, h.inj⟩
theorem Wf.no (h : Wf w0 I0 J0 I J p r s x w W l) (hk : Kept No W W') : Wf w0 I0 J0 I J p r s x w W' l :=
  ⟨h.c.no hk, h.w0le, (h.fq.no hk).box, h.low, h.inj, (h.fq.no hk).kept, h.sub⟩
theorem Wf.drew (h : Wf w0 I0 J0 I J p r s x w W l) : Wf w0 I0 J0 I J p r s x w W.drew l := h.no (Kept.refl No W).drew
theorem Wf.ne (h : Wf w0 I0 J0 I J p r s x w W l) (i j : Nat) {g g' : Nat} {T T' : TypeId} {cs cs' : Array Value} (hi : l[i]? = some (g, T, cs)) (hj : l[j]? = some (g', T', cs')) (hne : i ≠ j) : g ≠ g' := h.fq.ne i j hi hj hne
theorem Wf.alloc (h : Wf w0 I0 J0 I J p r s x w W l) (T : TypeId) (cs : Array Value) : Wf w0 I0 J0 I J p r s x w (W.alloc (.cells cs T)) (l ++ [(W.heap.size, T, cs)]) := by
  have hf := h.fq.alloc T cs
  refine ⟨h.c.no ((Kept.refl No W).alloc _), h.w0le, hf.box, ?_, hf.inj, hf.kept, h.sub⟩
  intro i g T' cs' hi
  rw [List.getElem?_append] at hi
  split at hi
  · exact h.low i g T' cs' hi
  · have hg : W.heap.size = g := by
      have := List.mem_of_getElem? hi
      simp at this
      exact this.1.symm
    subst hg
    exact ⟨h.kept.size, fun e => by have := (h.c.ia _ e).2.1; omega, fun e => by have := (h.c.jb _ e).2.1; omega⟩
theorem Wf.set (h : Wf w0 I0 J0 I J p r s x w W l) (i : Nat) {g : Nat} {T : TypeId} {cs : Array Value} (hi : l[i]? = some (g, T, cs)) (cs' : Array Value) : Wf w0 I0 J0 I J p r s x w (W.setRow g cs') (l.set i (g, T, cs')) := by
  have hf := h.fq.set i hi cs'
  have hl := h.low i g T cs hi
  have hw := h.w0le
  refine ⟨h.c.kept' (Kept.setRow W g cs') (fun k e => by have e : k = g := e; subst e; exact ⟨by omega, hl.2⟩), h.w0le, hf.box, ?_, hf.inj, hf.kept, h.sub⟩
  intro j g1 T1 cs1 hj
  rw [List.getElem?_set] at hj
  split at hj
  · split at hj
    · obtain ⟨rfl, rfl, rfl⟩ : g = g1 ∧ T = T1 ∧ cs' = cs1 := by simpa using hj
      exact hl
    · cases hj
  · exact h.low j g1 T1 cs1 hj
theorem Wf.prog {a : PS × List Ms} {e : Ending} (h : Wf w0 I0 J0 I J p r s x w W l) (ho : PrOut W I p a.1 a.2 e W') : ∃ la lc I' J', e = .returned (.slice la a.2.length lc) ∧ Own 47 30 W' W.heap.size la lc a.2.length (msL a.2) ∧ Wf w0 I0 J0 I' J' p r a.1 x w W' l ∧ Kept I W W' ∧ (∀ k, I k → NotM W k) := by
  obtain ⟨la, lc, I', J', he, hO, hC, hk, hs⟩ := h.c.prog ho
  have hsz := h.kept.size
  refine ⟨la, lc, I', J', he, hO, ⟨hC, h.w0le, fun i g T cs hi => (h.box i g T cs hi).kept hk (h.low i g T cs hi).2.1, fun i g T cs hi => ?_, h.inj, h.kept.trans hk (fun _ e => e) (fun k hk' e => ?_), fun k e => ?_⟩, hk, fun k e => (h.c.ia k e).2.2⟩
  · have hl := h.low i g T cs hi
    have hb := (h.box i g T cs hi).lt
    refine ⟨hl.1, fun e => ?_, fun e => ?_⟩
    · rcases hs g (.inl e) with e | e | e
      · exact hl.2.1 e
      · exact hl.2.2 e
      · omega
    · rcases hs g (.inr e) with e | e | e
      · exact hl.2.1 e
      · exact hl.2.2 e
      · omega
  · rcases h.sub k (.inl e) with e | e | e
    · exact .inl e
    · exact .inr e
    · omega
  · rcases hs k e with e | e | e
    · exact h.sub k (.inl e)
    · exact h.sub k (.inr e)
    · exact .inr (.inr (by omega))
end
/-- A step of both has been done. -/
def StOut (w0 : World) (I J : Nat → Prop) (p r : Nat) (s : PS) (w : World) (e : Ending) (w' : World) : Prop := ∃ I' J' s' x', e = .returned (.bool true) ∧ Wc w0 I' J' p r s' x' w' ∧ Rel (Bw w0) s' x' ∧ s'.zs = s.zs ∧ Kept (fun k => I k ∨ J k) w w' ∧ (∀ k, I' k ∨ J' k → I k ∨ J k ∨ w.heap.size ≤ k)
theorem Wf.out {w0 w W : World} {I0 J0 I J : Nat → Prop} {p r : Nat} {s s0 : PS} {x : Md.Rs} {l : List (Nat × TypeId × Array Value)} (h : Wf w0 I0 J0 I J p r s x w W l) (hr : Rel (Bw w0) s x) (hz : s.zs = s0.zs) : StOut w0 I0 J0 p r s0 w (.returned (.bool true)) W :=
  ⟨I, J, s, x, rfl, h.c, hr, hz, h.kept, h.sub⟩

section
variable {w0 w W W' : World} {I0 J0 I J S : Nat → Prop} {p r : Nat} {s s' : PS} {x x' : Md.Rs} {l : List (Nat × TypeId × Array Value)}
theorem Wf.step {e : Ending} (h : Wf w0 I0 J0 I J p r s x w W l) (ho : StOut w0 I J p r s W e W') : ∃ I' J' s' x', e = .returned (.bool true) ∧ Wf w0 I0 J0 I' J' p r s' x' w W' l ∧ Rel (Bw w0) s' x' ∧ s'.zs = s.zs := by
  obtain ⟨I', J', s', x', he, hC, hR, hz, hk, hs⟩ := ho
  have hsz := h.kept.size
  refine ⟨I', J', s', x', he, ⟨hC, h.w0le, fun i g T cs hi => (h.box i g T cs hi).kept hk (fun e => e.elim (h.low i g T cs hi).2.1 (h.low i g T cs hi).2.2), fun i g T cs hi => ?_, h.inj, h.kept.trans hk (fun _ e => e) (fun k hk' e => ?_), fun k e => ?_⟩, hR, hz⟩
  · have hl := h.low i g T cs hi
    have hb := (h.box i g T cs hi).lt
    refine ⟨hl.1, fun e => ?_, fun e => ?_⟩
    · rcases hs g (.inl e) with e | e | e
      · exact hl.2.1 e
      · exact hl.2.2 e
      · omega
    · rcases hs g (.inr e) with e | e | e
      · exact hl.2.1 e
      · exact hl.2.2 e
      · omega
  · rcases h.sub k e with e | e | e
    · exact .inl e
    · exact .inr e
    · omega
  · rcases hs k e with e | e | e
    · exact h.sub k (.inl e)
    · exact h.sub k (.inr e)
    · exact .inr (.inr (by omega))
/-- Both are new. -/
theorem Wf.make {w W1 W2 W3 : World} {I : Nat → Prop} {p r : Nat} {s : PS} {x : Md.Rs} (hP : Prp W1 I p s) (hI : ∀ k, I k → w.heap.size ≤ k ∧ k < W1.heap.size ∧ NotM W1 k) (hk : Kept No w W1) (hk2 : Kept No W1 W2) (hR : Md.RfAt W3 (fun k => W2.heap.size ≤ k) r x) (hk3 : Kept No W2 W3) :
    ∃ I' J', Wf w No No I' J' p r s x w W3 [] := by
  have hkk : Kept No W1 W3 := hk2.then hk3
  have s1 := hk.size
  have s2 := hk2.size
  refine ⟨_, _, ⟨⟨(hP.no hkk).cut, RfAt.cut hR, fun k e => ⟨(hI k e.1).1, e.2⟩, fun k e => ⟨?_, e.2⟩, fun k e f => ?_, hk.then hkk⟩, Nat.le_refl _, by simp, by simp, by simp, (hk.then hkk).of_no, fun k e => ?_⟩⟩
  · have := e.1; omega
  · have h1 := (hI k e.1).2.1
    have h2 := f.1
    omega
  · rcases e with e | e
    · exact .inr (.inr (hI k e.1).1)
    · have := e.1; exact .inr (.inr (by omega))
end

section
variable {w0 w W W' : World} {I0 J0 I J S : Nat → Prop} {p r : Nat} {s s' : PS} {x x' : Md.Rs} {l m : List (Nat × TypeId × Array Value)}
theorem Wf.ins (h : Wf w0 I0 J0 I J p r s x w W l) {g : Nat} {T : TypeId} {cs : Array Value} (hb : Box W g T cs) (hl : w.heap.size ≤ g ∧ ¬ I g ∧ ¬ J g) (hd : ∀ y ∈ l, y.1 ≠ g) : Wf w0 I0 J0 I J p r s x w W (l ++ [(g, T, cs)]) := by
  have one : ∀ {i : Nat} {g1 T1 cs1}, ¬ i < l.length → [(g, T, cs)][i - l.length]? = some (g1, T1, cs1) → i = l.length ∧ g = g1 ∧ T = T1 ∧ cs = cs1 := by
    intro i g1 T1 cs1 hi h1
    have h2 := (List.getElem?_eq_some_iff.1 h1).1
    simp at h2
    have e : i - l.length = 0 := by omega
    rw [e] at h1
    simp at h1
    exact ⟨by omega, h1.1, h1.2.1, h1.2.2⟩
  refine ⟨h.c, h.w0le, ?_, ?_, ?_, h.kept, h.sub⟩
  · intro i g1 T1 cs1 hi
    rw [List.getElem?_append] at hi
    split at hi
    · exact h.box i g1 T1 cs1 hi
    · rename_i hh
      obtain ⟨_, rfl, rfl, rfl⟩ := one hh hi
      exact hb
  · intro i g1 T1 cs1 hi
    rw [List.getElem?_append] at hi
    split at hi
    · exact h.low i g1 T1 cs1 hi
    · rename_i hh
      obtain ⟨_, rfl, rfl, rfl⟩ := one hh hi
      exact hl
  · intro i j g1 T1 cs1 T2 cs2 hi hj
    rw [List.getElem?_append] at hi hj
    split at hi <;> split at hj
    · exact h.inj i j g1 T1 cs1 T2 cs2 hi hj
    · rename_i h1 h2
      obtain ⟨_, rfl, rfl, rfl⟩ := one h2 hj
      exact absurd rfl (hd _ (List.mem_of_getElem? hi))
    · rename_i h1 h2
      obtain ⟨_, rfl, rfl, rfl⟩ := one h1 hi
      exact absurd rfl (hd _ (List.mem_of_getElem? hj))
    · rename_i h1 h2
      obtain ⟨e1, _⟩ := one h1 hi
      obtain ⟨e2, _⟩ := one h2 hj
      omega
/-- Its blocks are spoken of no more. -/
theorem Wf.none (h : Wf w0 I0 J0 I J p r s x w W l) : Wf w0 I0 J0 I J p r s x w W [] := ⟨h.c, h.w0le, by simp, by simp, by simp, h.kept, h.sub⟩
end
end Go.Proofs.Ytpabpeppgpeaoaa
