import Derived.Test.YtpabpeppgpeaoaaRn
namespace Go.Proofs.Ytpabpeppgpeaoaa
open Go.RowKit Gt
set_option linter.unusedVariables false
set_option linter.unusedSimpArgs false

theorem plain_send (x : Md.Rs) : ∀ i, ∀ m ∈ Md.sndK x i, Md.plainG m
  | 0, m, h => by cases h
  | i + 1, m, h => by
    unfold Md.sndK at h
    rcases List.mem_append.1 h with h | h
    · exact plain_send x i m h
    · split at h
      · cases h
      · rw [List.mem_singleton] at h; subst h; exact ⟨rfl, rfl, rfl, rfl⟩
def plainL (l : List Md.Mg) : Prop := ∀ m ∈ l, Md.plainG m
theorem plain_nil : plainL [] := fun m h => by cases h
theorem plain_next (x : Md.Rs) : plainL (Md.nextR x).2 := by
  unfold Md.nextR
  split
  · exact plain_nil
  · exact plain_send _ _
theorem plain_beg (x : Md.Rs) : plainL (Md.begR x).2 := by
  unfold Md.begR
  split
  · split
    · exact plain_nil
    · exact plain_send _ _
  · exact plain_nil
theorem plain_tick (x : Md.Rs) : plainL (Md.tickR x).2 := by
  unfold Md.tickR
  split
  · split
    · split
      · exact plain_nil
      · exact plain_next _
    · exact plain_send _ _
  · exact plain_nil
theorem plain_take (x : Md.Rs) (m : Md.Mg) : plainL (Md.takeR x m).2 := by
  unfold Md.takeR
  split
  · exact plain_nil
  split
  · exact plain_nil
  split
  · exact plain_nil
  split
  · exact plain_nil
  unfold Md.tk2R
  split
  · exact plain_nil
  split
  · split
    · exact plain_nil
    · exact plain_next _
  split
  · split
    · exact plain_nil
    · intro m hm
      obtain ⟨z, _, rfl⟩ := List.mem_map.1 hm
      exact ⟨rfl, rfl, rfl, rfl⟩
  · exact plain_nil
theorem len_prog {a : List Ms} {b : List Md.Mg} (h : a = b.map uM) : msL a = Md.mgL b := by
  subst h
  unfold msL Md.mgL
  rw [List.flatMap_map]
  rfl
/-- A list that the program told, in the reference's words. -/
theorem told_owM {w : World} {base : Nat} {la : Option Addr} {lc : Nat} {a : List Ms} {b : List Md.Mg} (h : Own 47 30 w base la lc a.length (msL a)) (e : a = b.map uM) : Md.OwM w base ⟨la, b.length, lc⟩ b := by
  have hl : a.length = b.length := by rw [e, List.length_map]
  refine ⟨?_, rfl⟩
  show Own 47 30 w base la lc b.length (Md.mgL b)
  rw [← hl, ← len_prog e]
  exact h
theorem RfAt.cut {w : World} {J : Nat → Prop} {r : Nat} {x : Md.Rs} (h : Md.RfAt w J r x) : Md.RfAt w (fun k => J k ∧ k < w.heap.size ∧ NotM w k) r x := by
  obtain ⟨g, ba, bc, bh, bm, h⟩ := h
  refine ⟨g, ba, bc, bh, bm, ⟨Kept.refl _ _, h.fq.box, fun i g T cs hi => .inr ⟨(h.fq.low i g T cs hi).elim (fun e => absurd (h.fq.box i g T cs hi).lt (by omega)) id, (h.fq.box i g T cs hi).lt, (h.fq.box i g T cs hi).notM ?_⟩, h.fq.inj⟩, h.gr, fun k e => ⟨h.gj k e, h.gr.own.lt e, h.gr.own.notM (by decide) e⟩, h.la, h.lc, h.lh, h.lm, h.hn⟩
  match i, hi with
  | 0, hi => cases hi; decide
  | 1, hi => cases hi; decide
  | 2, hi => cases hi; decide
  | 3, hi => cases hi; decide
  | 4, hi => cases hi; decide
theorem RfAt.kept {w w' : World} {S J J' : Nat → Prop} {r : Nat} {x : Md.Rs} (h : Md.RfAt w J r x) (hk : Kept S w w') (hS : ∀ k, J k → k < w.heap.size → NotM w k → ¬ S k ∧ J' k) : Md.RfAt w' J' r x := by
  obtain ⟨g, ba, bc, bh, bm, h⟩ := RfAt.cut h
  have hb : ∀ (i : Nat) g T cs, _ → ¬ S g ∧ J' g := fun i g' T cs hi => by
    have hj := (h.fq.low i g' T cs hi).elim (fun e => absurd (h.fq.box i g' T cs hi).lt (by omega)) id
    exact hS g' hj.1 hj.2.1 hj.2.2
  have hg : ∀ k, At g.a k → ¬ S k ∧ J' k := fun k e => hS k (h.gj k e).1 (h.gj k e).2.1 (h.gj k e).2.2
  exact ⟨g, ba, bc, bh, bm, ⟨Kept.refl _ _, fun i g T cs hi => (h.fq.box i g T cs hi).kept hk (hb i g T cs hi).1, fun i g T cs hi => .inr (hb i g T cs hi).2, h.fq.inj⟩, h.gr.kept hk (fun k e => (hg k e).1), fun k e => (hg k e).2, h.la, h.lc, h.lh, h.lm, h.hn⟩
/-- Both proposers in memory. -/
structure Wc (w0 : World) (I J : Nat → Prop) (p r : Nat) (s : PS) (x : Md.Rs) (w : World) : Prop where
  a : Prp w I p s
  b : Md.RfAt w J r x
  ia : ∀ k, I k → w0.heap.size ≤ k ∧ k < w.heap.size ∧ NotM w k
  jb : ∀ k, J k → w0.heap.size ≤ k ∧ k < w.heap.size ∧ NotM w k
  ij : ∀ k, I k → ¬ J k
  kp : Kept No w0 w
section
variable {w0 w w' : World} {I J S : Nat → Prop} {p r : Nat} {s s' : PS} {x x' : Md.Rs}
theorem Wc.kept (h : Wc w0 I J p r s x w) (hk : Kept S w w') (hS : ∀ k, S k → w0.heap.size ≤ k ∧ ¬ I k ∧ ¬ J k) : Wc w0 (fun k => I k ∧ NotM w' k) (fun k => J k ∧ NotM w' k) p r s x w' := by
  have ha := (h.a.kept hk (I' := I) (fun k e _ _ => ⟨fun f => (hS k f).2.1 e, e⟩)).cut
  have hb := RfAt.cut (RfAt.kept h.b hk (J' := J) (fun k e _ _ => ⟨fun f => (hS k f).2.2 e, e⟩))
  refine ⟨ha.wide (fun k e => ⟨e.1, e.2.2⟩), hb.wide (fun k e => ⟨e.1, e.2.2⟩), fun k e => ?_, fun k e => ?_, fun k e f => h.ij k e.1 f.1, h.kp.trans hk (fun _ e => e) (fun k hk' e => by have := (hS k e).1; omega)⟩
  · have := h.ia k e.1; have hs := hk.size; exact ⟨this.1, by omega, e.2⟩
  · have := h.jb k e.1; have hs := hk.size; exact ⟨this.1, by omega, e.2⟩
theorem Wc.no (h : Wc w0 I J p r s x w) (hk : Kept No w w') : Wc w0 I J p r s x w' := by
  have hn : ∀ k, k < w.heap.size → NotM w k → NotM w' k := fun k hl hm cs hb => hm cs (by
    unfold Box at hb ⊢
    rw [← hk.block k hl (fun e => e)]; exact hb)
  refine ⟨h.a.no hk, ?_, fun k e => ?_, fun k e => ?_, h.ij, h.kp.then hk⟩
  · exact RfAt.kept h.b hk (fun k e _ _ => ⟨fun f => f, e⟩)
  · have := h.ia k e; have hs := hk.size; exact ⟨this.1, by omega, hn k this.2.1 this.2.2⟩
  · have := h.jb k e; have hs := hk.size; exact ⟨this.1, by omega, hn k this.2.1 this.2.2⟩
/-- The program's call. -/
theorem Wc.prog {l : List Ms} {e : Ending} (h : Wc w0 I J p r s x w) (ho : PrOut w I p s' l e w') : ∃ la lc I' J', e = .returned (.slice la l.length lc) ∧ Own 47 30 w' w.heap.size la lc l.length (msL l) ∧ Wc w0 I' J' p r s' x w' ∧ Kept I w w' ∧ (∀ k, I' k ∨ J' k → I k ∨ J k ∨ w.heap.size ≤ k) := by
  obtain ⟨la, lc, I', he, hO, hP, hI, hk⟩ := ho
  have hs0 := h.kp.size
  have hb := RfAt.cut (RfAt.kept h.b hk (J' := J) (fun k e _ _ => ⟨fun f => h.ij k f e, e⟩))
  refine ⟨la, lc, I', _, he, hO, ⟨hP, hb, fun k e => ?_, fun k e => ⟨(h.jb k e.1).1, e.2⟩, fun k e f => ?_, h.kp.trans hk (fun _ e => e) (fun k hk' e => by have := (h.ia k e).1; omega)⟩, hk, fun k e => ?_⟩
  · obtain ⟨h1, h2, h3⟩ := hI k e
    exact ⟨h1.elim (fun a => (h.ia k a).1) (fun a => Nat.le_trans hs0 a), h2, h3⟩
  · rcases (hI k e).1 with h1 | h1
    · exact h.ij k h1 f.1
    · have := (h.jb k f.1).2.1; omega
  · rcases e with e | e
    · exact (hI k e).1.imp id .inr
    · exact .inr (.inl e.1)
/-- The reference's. -/
theorem Wc.ref {y : Md.Rs × List Md.Mg} {e : Ending} (h : Wc w0 I J p r s x w) (ho : Md.RfOut w J r y e w') : ∃ (t : Md.Sl) (I' J' : Nat → Prop), e = .returned t.v ∧ Md.OwM w' w.heap.size t y.2 ∧ Wc w0 I' J' p r s y.1 w' ∧ Kept J w w' ∧ (∀ k, I' k ∨ J' k → I k ∨ J k ∨ w.heap.size ≤ k) := by
  obtain ⟨t, he, hO, hR, hk⟩ := ho
  have hs0 := h.kp.size
  have ha := (h.a.kept hk (I' := I) (fun k e _ _ => ⟨fun f => h.ij k e f, e⟩)).cut
  have hb := RfAt.cut hR
  refine ⟨t, _, _, he, hO, ⟨ha, hb, fun k e => ⟨(h.ia k e.1).1, e.2⟩, fun k e => ?_, fun k e f => ?_, h.kp.trans hk (fun _ e => e) (fun k hk' e => by have := (h.jb k e).1; omega)⟩, hk, fun k e => ?_⟩
  · obtain ⟨h1, h2, h3⟩ := e
    exact ⟨h1.elim (fun a => (h.jb k a).1) (fun a => Nat.le_trans hs0 a), h2, h3⟩
  · rcases f.1 with h1 | h1
    · exact h.ij k e.1 h1
    · have := (h.ia k e.1).2.1; omega
  · rcases e with e | e
    · exact .inl e.1
    · exact .inr e.1
end
/-- A bucket of the script. -/
def Bw (w0 : World) (b : Md.Bv) (es : List En) (ls : List La) : Prop := RdE w0 (jL b.e) es ∧ RdL w0 (jL b.l) ls ∧ b.e.l ≤ 3518437208780 ∧ b.l.l ≤ 2513169434843

end Go.Proofs.Ytpabpeppgpeaoaa
