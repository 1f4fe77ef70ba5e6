import Derived.Test.YtpabpeppgpeaoaaRq
namespace Go.Proofs.Ytpabpeppgpeaoaa
open Go.RowKit Gt
set_option linter.unusedVariables false
set_option linter.unusedSimpArgs false
section
variable {w0 w w' : World} {I J S : Nat → Prop} {p r : Nat} {s s' : PS} {x x' : Md.Rs}
theorem Wc.kept' (h : Wc w0 I J p r s x w) (hk : Kept S w w') (hS : ∀ k, S k → w0.heap.size ≤ k ∧ ¬ I k ∧ ¬ J k) : Wc w0 I J p r s x w' := by
  have hn : ∀ k, k < w.heap.size → ¬ S k → NotM w k → NotM w' k := fun k hl hs hm cs hb => hm cs (by
    unfold Box at hb ⊢
    rw [← hk.block k hl hs]; exact hb)
  refine ⟨h.a.kept hk (fun k e _ _ => ⟨fun f => (hS k f).2.1 e, e⟩), RfAt.kept h.b hk (fun k e _ _ => ⟨fun f => (hS k f).2.2 e, e⟩), fun k e => ?_, fun k e => ?_, h.ij, h.kp.trans hk (fun _ e => e) (fun k hk' e => by have := (hS k e).1; omega)⟩
  · have := h.ia k e; have hs := hk.size; exact ⟨this.1, by omega, hn k this.2.1 (fun f => (hS k f).2.1 e) this.2.2⟩
  · have := h.jb k e; have hs := hk.size; exact ⟨this.1, by omega, hn k this.2.1 (fun f => (hS k f).2.2 e) this.2.2⟩
end
/-- What a function over both holds while it runs. -/
structure Wf (w0 : World) (I0 J0 I J : Nat → Prop) (p r : Nat) (s : PS) (x : Md.Rs) (w W : World) (l : List (Nat × TypeId × Array Value)) : Prop where
  c : Wc w0 I J p r s x W
  w0le : w0.heap.size ≤ w.heap.size
  box : ∀ (i : Nat) g T cs, l[i]? = some (g, T, cs) → Box W g T cs
  low : ∀ (i : Nat) g T cs, l[i]? = some (g, T, cs) → w.heap.size ≤ g ∧ ¬ I g ∧ ¬ J g
  inj : ∀ (i j : Nat) g T cs T' cs', l[i]? = some (g, T, cs) → l[j]? = some (g, T', cs') → i = j
  kept : Kept (fun k => I0 k ∨ J0 k) w W
  sub : ∀ k, I k ∨ J k → I0 k ∨ J0 k ∨ w.heap.size ≤ k
section
variable {w0 w W W' : World} {I0 J0 I J S : Nat → Prop} {p r : Nat} {s s' : PS} {x x' : Md.Rs} {l : List (Nat × TypeId × Array Value)}
theorem Wf.start (h : Wc w0 I J p r s x w) : Wf w0 I J I J p r s x w w [] := ⟨h, h.kp.size, by simp, by simp, by simp, Kept.refl _ _, fun k e => e.elim .inl (fun e => .inr (.inl e))⟩
theorem Wf.fq (h : Wf w0 I0 J0 I J p r s x w W l) : Md.Fq (fun k => I0 k ∨ J0 k) w W l := ⟨h.kept, h.box, fun i g T cs hi => .inl (h.low i g T cs hi).1, h.inj⟩
theorem Wf.no (h : Wf w0 I0 J0 I J p r s x w W l) (hk : Kept No W W') : Wf w0 I0 J0 I J p r s x w W' l :=
  ⟨h.c.no hk, h.w0le, (h.fq.no hk).box, h.low, h.inj, (h.fq.no hk).kept, h.sub⟩
theorem Wf.drew (h : Wf w0 I0 J0 I J p r s x w W l) : Wf w0 I0 J0 I J p r s x w W.drew l := h.no (Kept.refl No W).drew
theorem Wf.ne (h : Wf w0 I0 J0 I J p r s x w W l) (i j : Nat) {g g' : Nat} {T T' : TypeId} {cs cs' : Array Value} (hi : l[i]? = some (g, T, cs)) (hj : l[j]? = some (g', T', cs')) (hne : i ≠ j) : g ≠ g' := h.fq.ne i j hi hj hne
theorem Wf.alloc (h : Wf w0 I0 J0 I J p r s x w W l) (T : TypeId) (cs : Array Value) : Wf w0 I0 J0 I J p r s x w (W.alloc (.cells cs T)) (l ++ [(W.heap.size, T, cs)]) := by
  have hf := h.fq.alloc T cs
  refine ⟨h.c.no ((Kept.refl No W).alloc _), h.w0le, hf.box, ?_, hf.inj, hf.kept, h.sub⟩
  intro i g T' cs' hi
  rw [List.getElem?_append] at hi
  split at hi
  · exact h.low i g T' cs' hi
  · have hg : W.heap.size = g := by
      have := List.mem_of_getElem? hi
      simp at this
      exact this.1.symm
    subst hg
    exact ⟨h.kept.size, fun e => by have := (h.c.ia _ e).2.1; omega, fun e => by have := (h.c.jb _ e).2.1; omega⟩
theorem Wf.set (h : Wf w0 I0 J0 I J p r s x w W l) (i : Nat) {g : Nat} {T : TypeId} {cs : Array Value} (hi : l[i]? = some (g, T, cs)) (cs' : Array Value) : Wf w0 I0 J0 I J p r s x w (W.setRow g cs') (l.set i (g, T, cs')) := by
  have hf := h.fq.set i hi cs'
  have hl := h.low i g T cs hi
  have hw := h.w0le
  refine ⟨h.c.kept' (Kept.setRow W g cs') (fun k e => by have e : k = g := e; subst e; exact ⟨by omega, hl.2⟩), h.w0le, hf.box, ?_, hf.inj, hf.kept, h.sub⟩
  intro j g1 T1 cs1 hj
  rw [List.getElem?_set] at hj
  split at hj
  · split at hj
    · obtain ⟨rfl, rfl, rfl⟩ : g = g1 ∧ T = T1 ∧ cs' = cs1 := by simpa using hj
      exact hl
    · cases hj
  · exact h.low j g1 T1 cs1 hj
theorem Wf.prog {a : PS × List Ms} {e : Ending} (h : Wf w0 I0 J0 I J p r s x w W l) (ho : PrOut W I p a.1 a.2 e W') : ∃ la lc I' J', e = .returned (.slice la a.2.length lc) ∧ Own 47 30 W' W.heap.size la lc a.2.length (msL a.2) ∧ Wf w0 I0 J0 I' J' p r a.1 x w W' l ∧ Kept I W W' ∧ (∀ k, I k → NotM W k) := by
  obtain ⟨la, lc, I', J', he, hO, hC, hk, hs⟩ := h.c.prog ho
  have hsz := h.kept.size
  refine ⟨la, lc, I', J', he, hO, ⟨hC, h.w0le, fun i g T cs hi => (h.box i g T cs hi).kept hk (h.low i g T cs hi).2.1, fun i g T cs hi => ?_, h.inj, h.kept.trans hk (fun _ e => e) (fun k hk' e => ?_), fun k e => ?_⟩, hk, fun k e => (h.c.ia k e).2.2⟩
  · have hl := h.low i g T cs hi
    have hb := (h.box i g T cs hi).lt
    refine ⟨hl.1, fun e => ?_, fun e => ?_⟩
    · rcases hs g (.inl e) with e | e | e
      · exact hl.2.1 e
      · exact hl.2.2 e
      · omega
    · rcases hs g (.inr e) with e | e | e
      · exact hl.2.1 e
      · exact hl.2.2 e
      · omega
  · rcases h.sub k (.inl e) with e | e | e
    · exact .inl e
    · exact .inr e
    · omega
  · rcases hs k e with e | e | e
    · exact h.sub k (.inl e)
    · exact h.sub k (.inr e)
    · exact .inr (.inr (by omega))
theorem Wf.ref {y : Md.Rs × List Md.Mg} {e : Ending} (h : Wf w0 I0 J0 I J p r s x w W l) (ho : Md.RfOut W J r y e W') : ∃ (t : Md.Sl) (I' J' : Nat → Prop), e = .returned t.v ∧ Md.OwM W' W.heap.size t y.2 ∧ Wf w0 I0 J0 I' J' p r s y.1 w W' l ∧ Kept J W W' ∧ (∀ k, J k → NotM W k) := by
  obtain ⟨t, I', J', he, hO, hC, hk, hs⟩ := h.c.ref ho
  have hsz := h.kept.size
  refine ⟨t, I', J', he, hO, ⟨hC, h.w0le, fun i g T cs hi => (h.box i g T cs hi).kept hk (h.low i g T cs hi).2.2, fun i g T cs hi => ?_, h.inj, h.kept.trans hk (fun _ e => e) (fun k hk' e => ?_), fun k e => ?_⟩, hk, fun k e => (h.c.jb k e).2.2⟩
  · have hl := h.low i g T cs hi
    have hb := (h.box i g T cs hi).lt
    refine ⟨hl.1, fun e => ?_, fun e => ?_⟩
    · rcases hs g (.inl e) with e | e | e
      · exact hl.2.1 e
      · exact hl.2.2 e
      · omega
    · rcases hs g (.inr e) with e | e | e
      · exact hl.2.1 e
      · exact hl.2.2 e
      · omega
  · rcases h.sub k (.inr e) with e | e | e
    · exact .inl e
    · exact .inr e
    · omega
  · rcases hs k e with e | e | e
    · exact h.sub k (.inl e)
    · exact h.sub k (.inr e)
    · exact .inr (.inr (by omega))
end
/-- A step of both has been done. -/
def StOut (w0 : World) (I J : Nat → Prop) (p r : Nat) (s : PS) (w : World) (e : Ending) (w' : World) : Prop := ∃ I' J' s' x', e = .returned (.bool true) ∧ Wc w0 I' J' p r s' x' w' ∧ Rel (Bw w0) s' x' ∧ s'.zs = s.zs ∧ Kept (fun k => I k ∨ J k) w w' ∧ (∀ k, I' k ∨ J' k → I k ∨ J k ∨ w.heap.size ≤ k)
theorem Wf.out {w0 w W : World} {I0 J0 I J : Nat → Prop} {p r : Nat} {s s0 : PS} {x : Md.Rs} {l : List (Nat × TypeId × Array Value)} (h : Wf w0 I0 J0 I J p r s x w W l) (hr : Rel (Bw w0) s x) (hz : s.zs = s0.zs) : StOut w0 I0 J0 p r s0 w (.returned (.bool true)) W :=
  ⟨I, J, s, x, rfl, h.c, hr, hz, h.kept, h.sub⟩

theorem zs_prep (s : PS) (n r : Int) : (prepS s n r).1.zs = s.zs := by unfold prepS; split <;> rfl
theorem zs_beg (s : PS) : (begS s).1.zs = s.zs := by unfold begS; split <;> first | exact zs_prep _ _ _ | rfl
theorem zs_tick (s : PS) : (tickS s).1.zs = s.zs := by
  unfold tickS
  split
  · split
    · exact zs_prep _ _ _
    · rfl
  · split
    · exact zs_prep _ _ _
    · rfl
  · rfl
theorem zs_take (s : PS) (m : Ms) (es : List En) (ls : List La) : (taksS s m es ls).1.zs = s.zs := by
  have ho : ∀ X nk t, t.1.zs = s.zs → (othS s X nk m es ls t).1.zs = s.zs := by
    intro X nk t ht
    unfold othS
    split
    · split
      · rfl
      split
      · rfl
      split
      · show (if _ then _ else s).zs = s.zs
        split <;> rfl
      split
      · exact ht
      · rfl
    · rfl
  unfold taksS
  split
  · refine ho _ _ _ ?_
    unfold takP
    split
    · split
      · unfold accS; split <;> rfl
      · rfl
    · rfl
  · refine ho _ _ _ ?_
    unfold takA
    split
    · split <;> rfl
    · rfl
  · rfl
section
variable {w0 w W W' : World} {I0 J0 I J S : Nat → Prop} {p r : Nat} {s s' : PS} {x x' : Md.Rs} {l : List (Nat × TypeId × Array Value)}
theorem Wf.step {e : Ending} (h : Wf w0 I0 J0 I J p r s x w W l) (ho : StOut w0 I J p r s W e W') : ∃ I' J' s' x', e = .returned (.bool true) ∧ Wf w0 I0 J0 I' J' p r s' x' w W' l ∧ Rel (Bw w0) s' x' ∧ s'.zs = s.zs := by
  obtain ⟨I', J', s', x', he, hC, hR, hz, hk, hs⟩ := ho
  have hsz := h.kept.size
  refine ⟨I', J', s', x', he, ⟨hC, h.w0le, fun i g T cs hi => (h.box i g T cs hi).kept hk (fun e => e.elim (h.low i g T cs hi).2.1 (h.low i g T cs hi).2.2), fun i g T cs hi => ?_, h.inj, h.kept.trans hk (fun _ e => e) (fun k hk' e => ?_), fun k e => ?_⟩, hR, hz⟩
  · have hl := h.low i g T cs hi
    have hb := (h.box i g T cs hi).lt
    refine ⟨hl.1, fun e => ?_, fun e => ?_⟩
    · rcases hs g (.inl e) with e | e | e
      · exact hl.2.1 e
      · exact hl.2.2 e
      · omega
    · rcases hs g (.inr e) with e | e | e
      · exact hl.2.1 e
      · exact hl.2.2 e
      · omega
  · rcases h.sub k e with e | e | e
    · exact .inl e
    · exact .inr e
    · omega
  · rcases hs k e with e | e | e
    · exact h.sub k (.inl e)
    · exact h.sub k (.inr e)
    · exact .inr (.inr (by omega))
/-- Both are new. -/
theorem Wf.make {w W1 W2 W3 : World} {I : Nat → Prop} {p r : Nat} {s : PS} {x : Md.Rs} (hP : Prp W1 I p s) (hI : ∀ k, I k → w.heap.size ≤ k ∧ k < W1.heap.size ∧ NotM W1 k) (hk : Kept No w W1) (hk2 : Kept No W1 W2) (hR : Md.RfAt W3 (fun k => W2.heap.size ≤ k) r x) (hk3 : Kept No W2 W3) :
    ∃ I' J', Wf w No No I' J' p r s x w W3 [] := by
  have hkk : Kept No W1 W3 := hk2.then hk3
  have s1 := hk.size
  have s2 := hk2.size
  refine ⟨_, _, ⟨⟨(hP.no hkk).cut, RfAt.cut hR, fun k e => ⟨(hI k e.1).1, e.2⟩, fun k e => ⟨?_, e.2⟩, fun k e f => ?_, hk.then hkk⟩, Nat.le_refl _, by simp, by simp, by simp, (hk.then hkk).of_no, fun k e => ?_⟩⟩
  · have := e.1; omega
  · have h1 := (hI k e.1).2.1
    have h2 := f.1
    omega
  · rcases e with e | e
    · exact .inr (.inr (hI k e.1).1)
    · have := e.1; exact .inr (.inr (by omega))
end
/-- New ones stand at the same place. -/
theorem rel_new {B : Md.Bv → List En → List La → Prop} (cl op : Int) (y : Md.Ky) (zs : List Int) (c : Md.Cm) (n rd : Int) (hn : n ≤ 9223372036854775807) : Rel B (newS cl op (jK y) zs (jC c) n rd) (Md.newR cl op y zs c n rd) :=
  ⟨⟨rfl, rfl, rfl, rfl, rfl, rfl, rfl, rfl, uq_nodup zs, hn⟩, rfl, ⟨rfl, rfl, rfl⟩, rfl, rfl, rfl, rfl, rfl, rfl, by show (List.replicate _ _).length = _; rw [List.length_replicate]; rfl, by show (List.replicate _ _).length = _; rw [List.length_replicate]; rfl⟩

theorem len_next (x : Md.Rs) : (Md.nextR x).2.length ≤ x.zs.length := by
  unfold Md.nextR
  split
  · exact Nat.zero_le _
  · exact Md.sndK_len _ _
theorem len_beg (x : Md.Rs) : (Md.begR x).2.length ≤ x.zs.length := by
  unfold Md.begR
  split
  · split
    · exact Nat.zero_le _
    · exact Md.sndK_len _ _
  · exact Nat.zero_le _
theorem len_tick (x : Md.Rs) : (Md.tickR x).2.length ≤ x.zs.length := by
  unfold Md.tickR
  split
  · split
    · split
      · exact Nat.zero_le _
      · exact len_next _
    · exact Md.sndK_len _ _
  · exact Nat.zero_le _
theorem len_take (x : Md.Rs) (m : Md.Mg) : (Md.takeR x m).2.length ≤ x.zs.length := by
  unfold Md.takeR
  split
  · exact Nat.zero_le _
  split
  · exact Nat.zero_le _
  split
  · exact Nat.zero_le _
  split
  · exact Nat.zero_le _
  unfold Md.tk2R
  split
  · exact Nat.zero_le _
  split
  · split
    · exact Nat.zero_le _
    · exact len_next _
  split
  · split
    · exact Nat.zero_le _
    · show (Md.lrnK x x.zs.length).length ≤ _
      unfold Md.lrnK
      rw [List.length_map, List.length_take]
      omega
  · exact Nat.zero_le _
section
variable {w0 w W W' : World} {I0 J0 I J S : Nat → Prop} {p r : Nat} {s s' : PS} {x x' : Md.Rs} {l m : List (Nat × TypeId × Array Value)}
theorem Wf.ins (h : Wf w0 I0 J0 I J p r s x w W l) {g : Nat} {T : TypeId} {cs : Array Value} (hb : Box W g T cs) (hl : w.heap.size ≤ g ∧ ¬ I g ∧ ¬ J g) (hd : ∀ y ∈ l, y.1 ≠ g) : Wf w0 I0 J0 I J p r s x w W (l ++ [(g, T, cs)]) := by
  have one : ∀ {i : Nat} {g1 T1 cs1}, ¬ i < l.length → [(g, T, cs)][i - l.length]? = some (g1, T1, cs1) → i = l.length ∧ g = g1 ∧ T = T1 ∧ cs = cs1 := by
    intro i g1 T1 cs1 hi h1
    have h2 := (List.getElem?_eq_some_iff.1 h1).1
    simp at h2
    have e : i - l.length = 0 := by omega
    rw [e] at h1
    simp at h1
    exact ⟨by omega, h1.1, h1.2.1, h1.2.2⟩
  refine ⟨h.c, h.w0le, ?_, ?_, ?_, h.kept, h.sub⟩
  · intro i g1 T1 cs1 hi
    rw [List.getElem?_append] at hi
    split at hi
    · exact h.box i g1 T1 cs1 hi
    · rename_i hh
      obtain ⟨_, rfl, rfl, rfl⟩ := one hh hi
      exact hb
  · intro i g1 T1 cs1 hi
    rw [List.getElem?_append] at hi
    split at hi
    · exact h.low i g1 T1 cs1 hi
    · rename_i hh
      obtain ⟨_, rfl, rfl, rfl⟩ := one hh hi
      exact hl
  · intro i j g1 T1 cs1 T2 cs2 hi hj
    rw [List.getElem?_append] at hi hj
    split at hi <;> split at hj
    · exact h.inj i j g1 T1 cs1 T2 cs2 hi hj
    · rename_i h1 h2
      obtain ⟨_, rfl, rfl, rfl⟩ := one h2 hj
      exact absurd rfl (hd _ (List.mem_of_getElem? hi))
    · rename_i h1 h2
      obtain ⟨_, rfl, rfl, rfl⟩ := one h1 hi
      exact absurd rfl (hd _ (List.mem_of_getElem? hj))
    · rename_i h1 h2
      obtain ⟨e1, _⟩ := one h1 hi
      obtain ⟨e2, _⟩ := one h2 hj
      omega
/-- Its blocks are spoken of no more. -/
theorem Wf.none (h : Wf w0 I0 J0 I J p r s x w W l) : Wf w0 I0 J0 I J p r s x w W [] := ⟨h.c, h.w0le, by simp, by simp, by simp, h.kept, h.sub⟩
/-- A message is lent: its lists are blocks of the function's own. -/
theorem Wf.lend {mm : Md.Mg} {bs : List Int} {es : List Md.En} {ls : List Md.La} {cs : List Md.Cm} {gb ge gl gc : Nat} (h : Wf w0 I0 J0 I J p r s x w W l) (hk : Kept No W W') (hm : Md.LmAt W' W.heap.size mm bs es ls cs gb ge gl gc) :
    Wf w0 I0 J0 I J p r s x w W' (l ++ [(gb, 5, (Md.u8L (Md.tab (mm.bl.l + 67) (Md.lntB mm.bl.l bs))).toArray)] ++ [(ge, 124, (Md.enL (Md.tab (mm.bk.e.l + 67) (Md.lntE mm.bk.e.l es))).toArray)] ++ [(gl, 127, (Md.laL (Md.tab (mm.bk.l.l + 67) (Md.lntL mm.bk.l.l ls))).toArray)] ++ [(gc, 28, (Md.cmL (Md.tab (mm.cm.l + 67) (Md.lntC mm.cm.l cs))).toArray)]) := by
  have h1 := h.no hk
  have hsz := h.kept.size
  have off : ∀ k, W.heap.size ≤ k → w.heap.size ≤ k ∧ ¬ I k ∧ ¬ J k := fun k e => ⟨by omega, fun f => by have := (h.c.ia k f).2.1; omega, fun f => by have := (h.c.jb k f).2.1; omega⟩
  have old : ∀ k, W.heap.size ≤ k → ∀ y ∈ l, y.1 ≠ k := fun k e y hy e2 => by
    obtain ⟨i, hi⟩ := List.mem_iff_getElem?.1 hy
    have := (h.box i y.1 y.2.1 y.2.2 hi).lt
    omega
  have n1 : gb ≠ ge := box_ty hm.b hm.e (by decide)
  have n2 : gb ≠ gl := box_ty hm.b hm.l (by decide)
  have n3 : gb ≠ gc := box_ty hm.b hm.c (by decide)
  have n4 : ge ≠ gl := box_ty hm.e hm.l (by decide)
  have n5 : ge ≠ gc := box_ty hm.e hm.c (by decide)
  have n6 : gl ≠ gc := box_ty hm.l hm.c (by decide)
  refine Wf.ins (Wf.ins (Wf.ins (Wf.ins h1 hm.b (off _ hm.lb) (old _ hm.lb)) hm.e (off _ hm.le) ?_) hm.l (off _ hm.ll) ?_) hm.c (off _ hm.lc) ?_
  · intro y hy
    rcases List.mem_append.1 hy with hy | hy
    · exact old _ hm.le y hy
    · rw [List.mem_singleton] at hy; subst hy; exact n1
  · intro y hy
    rcases List.mem_append.1 hy with hy | hy
    · rcases List.mem_append.1 hy with hy | hy
      · exact old _ hm.ll y hy
      · rw [List.mem_singleton] at hy; subst hy; exact n2
    · rw [List.mem_singleton] at hy; subst hy; exact n4
  · intro y hy
    rcases List.mem_append.1 hy with hy | hy
    · rcases List.mem_append.1 hy with hy | hy
      · rcases List.mem_append.1 hy with hy | hy
        · exact old _ hm.lc y hy
        · rw [List.mem_singleton] at hy; subst hy; exact n3
      · rw [List.mem_singleton] at hy; subst hy; exact n5
    · rw [List.mem_singleton] at hy; subst hy; exact n6
/-- Blocks of the function's own are written over. -/
theorem Wf.spoil (h : Wf w0 I0 J0 I J p r s x w W l) (hk : Kept S W W') (hS : ∀ k, S k → ∃ y ∈ l, y.1 = k) : Wf w0 I0 J0 I J p r s x w W' [] := by
  have hl : ∀ k, S k → w.heap.size ≤ k ∧ ¬ I k ∧ ¬ J k := fun k e => by
    obtain ⟨y, hy, rfl⟩ := hS k e
    obtain ⟨i, hi⟩ := List.mem_iff_getElem?.1 hy
    exact h.low i y.1 y.2.1 y.2.2 hi
  have hw := h.w0le
  exact ⟨h.c.kept' hk (fun k e => ⟨by have := (hl k e).1; omega, (hl k e).2⟩), h.w0le, by simp, by simp, by simp, h.kept.trans hk (fun _ e => e) (fun k hk' e => by have := (hl k e).1; omega), h.sub⟩
/-- The program's call, told in letters. -/
theorem Wf.prog' {a : PS × List Ms} {e : Ending} (h : Wf w0 I0 J0 I J p r s x w W l) (ho : PrOut W I p a.1 a.2 e W') : ∃ la lc I' J' s' l', s' = a.1 ∧ l' = a.2 ∧ e = .returned (.slice la l'.length lc) ∧ Told W' 0 la lc l' ∧ Wf w0 I0 J0 I' J' p r s' x w W' l := by
  obtain ⟨la, lc, I', J', he, hO, hF, _, _⟩ := h.prog ho
  exact ⟨la, lc, I', J', _, _, rfl, rfl, he, hO.lower (Nat.zero_le _), hF⟩
/-- The reference's, behind the program's: both told the same. -/
theorem Wf.ref' {b : Md.Rs × List Md.Mg} {a : PS × List Ms} {e : Ending} {la : Option Addr} {lc : Nat} {l' : List Ms} {s0 : PS} (h : Wf w0 I0 J0 I J p r s x w W l) (ho : Md.RfOut W J r b e W') (hT : Told W 0 la lc l') (hs : s = a.1) (hl : l' = a.2) (hB : Both (Bw w0) a b) (hp : plainL b.2) (hn : b.2.length ≤ 2000000) :
    ∃ (t : Md.Sl) (I' J' : Nat → Prop), e = .returned t.v ∧ Wf w0 I0 J0 I' J' p r s b.1 w W' l ∧ Rel (Bw w0) s b.1 ∧ (∀ W2, Kept No W' W2 → Calls Try.prog 26 #[.slice la l'.length lc, t.v] W2 (fun e w' => e = .returned (.bool true) ∧ Kept No W2 w')) := by
  obtain ⟨t, I', J', he, hO, hF, hk, hJ⟩ := h.ref ho
  have hT2 := hT.keptI hk hJ
  have e2 : l' = b.2.map uM := by rw [hl]; exact hB.2
  refine ⟨t, I', J', he, hF, by rw [hs]; exact hB.1, fun W2 hk2 => ?_⟩
  have h1 := told_owM hT2 e2
  have hlen : l'.length = b.2.length := by rw [e2, List.length_map]
  rw [hlen]
  exact Md.sameMs_any ⟨la, b.2.length, lc⟩ t b.2 W2 (h1.rd.no hk2) (hO.rd.no hk2) hp hn
end
theorem fit_at {w : World} {J : Nat → Prop} {r : Nat} {x : Md.Rs} (hB : Md.RfAt w J r x) (m : Md.Mg) (hz : x.zs.length ≤ 2000000) : Calls Try.prog 39 #[.agg (Md.Mg.cells m), .pointer (some ⟨r, 0, none⟩)] w (Md.FitOut w x m) := by
  obtain ⟨g, ba, bc, bh, bm, h⟩ := hB
  exact Md.fit_any J r x g ba bc bh bm m w h (by rw [← h.gr.len]; exact hz)

end Go.Proofs.Ytpabpeppgpeaoaa
