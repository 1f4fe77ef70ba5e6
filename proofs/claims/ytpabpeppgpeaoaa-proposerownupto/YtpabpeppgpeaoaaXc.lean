import Derived.Test.YtpabpeppgpeaoaaXb
namespace Go.Proofs.Ytpabpeppgpeaoaa.Md
open Go.RowKit Gx
set_option linter.unusedVariables false
set_option linter.unusedSimpArgs false

def dL' (s : Ytpabpeppgpeaoaa.Sl) : Sl := ⟨s.a, s.l, s.k⟩
def dC' (c : Ytpabpeppgpeaoaa.Cm) : Cm := ⟨c.k, c.cl, c.op, c.nm, c.f0, c.f1, c.g0, c.g1, c.sz⟩
/-- A message as the mend's words have it. -/
def dM (m : Ms) : Mg := ⟨m.k, ⟨m.fc, m.fi⟩, ⟨m.tc, m.ti⟩, m.op, m.rd, ⟨m.ky.k, m.ky.a, m.ky.b, m.ky.c⟩, ⟨m.st.n, m.st.c⟩, ⟨m.hd.n, m.hd.c⟩, dL' m.bl, dC' m.c, ⟨m.up, dL' m.en, dL' m.la⟩, dL' m.cm, m.mo⟩
theorem dM_L (l : List Ms) : mgL (l.map dM) = msL l := by
  unfold mgL msL
  rw [List.map_map]
  rfl
theorem notM_kept {S : Nat → Prop} {W W' : World} {k : Nat} (h : NotM W k) (hk : Kept S W W') (hl : k < W.heap.size) (hS : ¬ S k) : NotM W' k := fun cs hb => h cs (by
  unfold Box at hb ⊢
  rw [← hk.block k hl hS]; exact hb)
/-- What a function over a proposer holds while it runs: the proposer, its own blocks, lists of messages that were told. -/
structure Og (w W : World) (I : Nat → Prop) (p : Nat) (s : PS) (l : List (Nat × TypeId × Array Value)) (T : List (Sl × List Mg)) : Prop where
  prp : Prp W I p s
  fr : Fq No w W l
  ia : ∀ k, I k → w.heap.size ≤ k ∧ k < W.heap.size ∧ NotM W k
  li : ∀ (i : Nat) g t cs, l[i]? = some (g, t, cs) → ¬ I g
  tl : ∀ (i : Nat) x, T[i]? = some x → OwM W w.heap.size x.1 x.2
  tt : ∀ (i j : Nat) x y k, T[i]? = some x → T[j]? = some y → At x.1.a k → At y.1.a k → i = j
  tb : ∀ (i j : Nat) x g t cs, T[i]? = some x → l[j]? = some (g, t, cs) → ¬ At x.1.a g
section
variable {w W W' : World} {I S : Nat → Prop} {p : Nat} {s s' : PS} {l : List (Nat × TypeId × Array Value)} {T T' : List (Sl × List Mg)}
theorem Og.kept (h : Og w W I p s l T) : Kept No w W := h.fr.kept
theorem Og.box (h : Og w W I p s l T) : ∀ (i : Nat) g T cs, l[i]? = some (g, T, cs) → Box W g T cs := h.fr.box
theorem Og.no (h : Og w W I p s l T) (hk : Kept No W W') : Og w W' I p s l T :=
  ⟨h.prp.no hk, h.fr.no hk, fun k e => ⟨(h.ia k e).1, by have := (h.ia k e).2.1; have := hk.size; omega, notM_kept (h.ia k e).2.2 hk (h.ia k e).2.1 (fun f => f)⟩, h.li, fun i x hx => (h.tl i x hx).kept hk (fun _ _ e => e), h.tt, h.tb⟩
theorem Og.drew (h : Og w W I p s l T) : Og w W.drew I p s l T := h.no (Kept.refl No W).drew
theorem Og.alloc (h : Og w W I p s l T) (t : TypeId) (cs : Array Value) : Og w (W.alloc (.cells cs t)) I p s (l ++ [(W.heap.size, t, cs)]) T := by
  have hk : Kept No W (W.alloc (.cells cs t)) := (Kept.refl No W).alloc _
  have h1 := h.no hk
  have key : ∀ (j : Nat) g t' cs', (l ++ [(W.heap.size, t, cs)])[j]? = some (g, t', cs') → l[j]? = some (g, t', cs') ∨ g = W.heap.size := by
    intro j g t' cs' hj
    rw [List.getElem?_append] at hj
    split at hj
    · exact .inl hj
    · have := List.mem_of_getElem? hj
      simp at this
      exact .inr this.1
  refine ⟨h1.prp, h.fr.alloc t cs, h1.ia, fun i g t' cs' hi => ?_, h1.tl, h.tt, fun i j x g t' cs' hx hj => ?_⟩
  · rcases key i g t' cs' hi with hi | rfl
    · exact h.li i g t' cs' hi
    · intro e; have := (h.ia _ e).2.1; omega
  · rcases key j g t' cs' hj with hj | rfl
    · exact h.tb i j x g t' cs' hx hj
    · intro e; have := Own.lt (h.tl i x hx).own e; omega
theorem Og.set (h : Og w W I p s l T) (i : Nat) {g : Nat} {t : TypeId} {cs : Array Value} (hi : l[i]? = some (g, t, cs)) (cs' : Array Value) : Og w (W.setRow g cs') I p s (l.set i (g, t, cs')) T := by
  have hk : Kept (Only g) W (W.setRow g cs') := Kept.setRow W g cs'
  have hg := h.li i g t cs hi
  have key : ∀ (j : Nat) g1 t1 cs1, (l.set i (g, t, cs'))[j]? = some (g1, t1, cs1) → ∃ cs2, l[j]? = some (g1, t1, cs2) := by
    intro j g1 t1 cs1 hj
    rw [List.getElem?_set] at hj
    split at hj
    · rename_i hij
      split at hj
      · cases hj; exact ⟨cs, by rw [← hij]; exact hi⟩
      · cases hj
    · exact ⟨cs1, hj⟩
  refine ⟨h.prp.kept hk (fun k e _ _ => ⟨fun f => hg ((show k = g from f) ▸ e), e⟩), h.fr.set i hi cs', fun k e => ⟨(h.ia k e).1, by have := (h.ia k e).2.1; have := hk.size; omega, notM_kept (h.ia k e).2.2 hk (h.ia k e).2.1 (fun f => hg ((show k = g from f) ▸ e))⟩, fun j g1 t1 cs1 hj => ?_, fun j x hx => (h.tl j x hx).kept hk (fun k e f => h.tb j i x g t cs hx hi ((show k = g from f) ▸ e)), h.tt, fun j q x g1 t1 cs1 hx hq => ?_⟩
  · obtain ⟨cs2, hj⟩ := key j g1 t1 cs1 hj
    exact h.li j g1 t1 cs2 hj
  · obtain ⟨cs2, hq⟩ := key q g1 t1 cs1 hq
    exact h.tb j q x g1 t1 cs2 hx hq
/-- One more list, new. -/
theorem Og.add (h : Og w W I p s l T) {t : Sl} {ms : List Mg} (ho : OwM W w.heap.size t ms) (hI : ∀ k, At t.a k → ∀ (i : Nat) (x : Sl × List Mg), T[i]? = some x → ¬ At x.1.a k) (hb : ∀ (j : Nat) g ty cs, l[j]? = some (g, ty, cs) → ¬ At t.a g) : Og w W I p s l (T ++ [(t, ms)]) := by
  have key : ∀ (j : Nat) x, (T ++ [(t, ms)])[j]? = some x → (j < T.length ∧ T[j]? = some x) ∨ (j = T.length ∧ x = (t, ms)) := by
    intro j x hj
    by_cases hl : j < T.length
    · rw [List.getElem?_append_left hl] at hj; exact .inl ⟨hl, hj⟩
    · rw [List.getElem?_append_right (by omega)] at hj
      have h0 : j - T.length = 0 := by have := (List.getElem?_eq_some_iff.1 hj).1; simp at this; omega
      rw [h0] at hj
      exact .inr ⟨by omega, by cases hj; rfl⟩
  refine ⟨h.prp, h.fr, h.ia, h.li, fun j x hx => ?_, fun i j x y k hx hy hxk hyk => ?_, fun i j x g ty cs hx hj => ?_⟩
  · rcases key j x hx with ⟨_, hx⟩ | ⟨_, rfl⟩
    · exact h.tl j x hx
    · exact ho
  · rcases key i x hx with ⟨h1, hx⟩ | ⟨h1, rfl⟩ <;> rcases key j y hy with ⟨h2, hy⟩ | ⟨h2, rfl⟩
    · exact h.tt i j x y k hx hy hxk hyk
    · exact absurd hxk (hI k hyk i x hx)
    · exact absurd hyk (hI k hxk j y hy)
    · omega
  · rcases key i x hx with ⟨h1, hx⟩ | ⟨h1, rfl⟩
    · exact h.tb i j x g ty cs hx hj
    · exact hb j g ty cs hj
/-- The proposer is called. -/
theorem Og.call {e : Ending} {ms : List Ms} (h : Og w W I p s l T) (ho : PrOut W I p s' ms e W') : ∃ la lc I', e = .returned (.slice la ms.length lc) ∧ Og w W' I' p s' l (T ++ [(⟨la, ms.length, lc⟩, ms.map dM)]) := by
  obtain ⟨la, lc, I', he, hO, hP, hI, hk⟩ := ho
  have hsz := h.fr.kept.size
  have h1 : Og w W' I' p s' l T := by
    refine ⟨hP, ⟨h.fr.kept.trans hk (fun _ e => e) (fun k hk' e => ?_), fun i g t cs hi => (h.fr.box i g t cs hi).kept hk (h.li i g t cs hi), h.fr.low, h.fr.inj⟩, fun k e => ⟨?_, (hI k e).2⟩, fun i g t cs hi e => ?_, fun i x hx => (h.tl i x hx).kept hk (fun k hx' e => ?_), h.tt, h.tb⟩
    · have := (h.ia k e).1; omega
    · rcases (hI k e).1 with e1 | e1
      · exact (h.ia k e1).1
      · omega
    · rcases (hI g e).1 with e1 | e1
      · exact h.li i g t cs hi e1
      · have := (h.fr.box i g t cs hi).lt; omega
    · obtain ⟨cs, hb⟩ := Own.ty (h.tl i x hx).own hx'
      exact (h.ia k e).2.2 cs hb
  refine ⟨la, lc, I', he, h1.add ⟨by rw [dM_L]; exact Own.lower hO hsz, by simp⟩ (fun k e i x hx e2 => ?_) (fun j g ty cs hj e2 => ?_)⟩
  · have := Own.base hO e; have := Own.lt (h.tl i x hx).own e2; omega
  · have := Own.base hO e2; have := (h.fr.box j g ty cs hj).lt; omega
/-- Some of the lists, in some order. -/
theorem Og.pick (h : Og w W I p s l T) (js : List Nat) (hnd : js.Nodup) (hT : T'.map some = js.map (fun j => T[j]?)) : Og w W I p s l T' := by
  have key : ∀ (i : Nat) x, T'[i]? = some x → ∃ j, js[i]? = some j ∧ T[j]? = some x := by
    intro i x hx
    have h1 : (T'.map some)[i]? = some (some x) := by rw [List.getElem?_map, hx]; rfl
    rw [hT, List.getElem?_map] at h1
    cases hj : js[i]? with
    | none => rw [hj] at h1; cases h1
    | some j => rw [hj] at h1; exact ⟨j, rfl, by simpa using h1⟩
  refine ⟨h.prp, h.fr, h.ia, h.li, fun i x hx => ?_, fun i j x y k hx hy hxk hyk => ?_, fun i j x g ty cs hx hj => ?_⟩
  · obtain ⟨q, _, hx⟩ := key i x hx; exact h.tl q x hx
  · obtain ⟨q, hq, hx⟩ := key i x hx
    obtain ⟨r, hr, hy⟩ := key j y hy
    have := h.tt q r x y k hx hy hxk hyk
    subst this
    exact (List.getElem?_inj (List.getElem?_eq_some_iff.1 hq).1 hnd).1 (hq.trans hr.symm)
  · obtain ⟨q, _, hx⟩ := key i x hx; exact h.tb q j x g ty cs hx hj
/-- The first ones are written over. -/
theorem Og.wr {T1 T2 : List (Sl × List Mg)} (h : Og w W I p s l (T1 ++ T2)) (hk : Kept (EB (T1.map Prod.fst)) W W') : Og w W' I p s l T2 := by
  have hS : ∀ k, EB (T1.map Prod.fst) k → ∃ i x, i < T1.length ∧ (T1 ++ T2)[i]? = some x ∧ At x.1.a k := by
    rintro k ⟨e, he, ha⟩
    obtain ⟨x, hx, rfl⟩ := List.mem_map.1 he
    obtain ⟨i, hi⟩ := List.mem_iff_getElem?.1 hx
    have hl := (List.getElem?_eq_some_iff.1 hi).1
    exact ⟨i, x, hl, by rw [List.getElem?_append_left hl]; exact hi, ha⟩
  have hnI : ∀ k, I k → ¬ EB (T1.map Prod.fst) k := fun k e f => by
    obtain ⟨i, x, _, hx, ha⟩ := hS k f
    obtain ⟨cs, hb⟩ := Own.ty (h.tl i x hx).own ha
    exact (h.ia k e).2.2 cs hb
  have k2 : ∀ (j : Nat) x, T2[j]? = some x → (T1 ++ T2)[T1.length + j]? = some x := fun j x hx => by rw [List.getElem?_append_right (by omega), Nat.add_sub_cancel_left]; exact hx
  refine ⟨h.prp.kept hk (fun k e _ _ => ⟨hnI k e, e⟩), ⟨h.fr.kept.trans hk (fun _ e => e) (fun k hk' e => ?_), fun i g t cs hi => (h.fr.box i g t cs hi).kept hk (fun f => ?_), h.fr.low, h.fr.inj⟩, fun k e => ⟨(h.ia k e).1, by have := (h.ia k e).2.1; have := hk.size; omega, notM_kept (h.ia k e).2.2 hk (h.ia k e).2.1 (hnI k e)⟩, h.li, fun j x hx => (h.tl _ x (k2 j x hx)).kept hk (fun k hx' f => ?_), fun i j x y k hx hy hxk hyk => ?_, fun i j x g ty cs hx hj => h.tb _ j x g ty cs (k2 i x hx) hj⟩
  · obtain ⟨i, x, _, hx, ha⟩ := hS k e
    have := Own.base (h.tl i x hx).own ha; omega
  · obtain ⟨j, x, _, hx, ha⟩ := hS g f
    exact h.tb j i x g t cs hx hi ha
  · obtain ⟨q, y, hq, hy, ha⟩ := hS k f
    have := h.tt q (T1.length + j) y x k hy (k2 j x hx) ha hx'
    omega
  · have := h.tt _ _ x y k (k2 i x hx) (k2 j y hy) hxk hyk
    omega
/-- The told ones are lists that may be grown. -/
theorem Og.erow {T1 T2 : List (Sl × List Mg)} (h : Og w W I p s l (T1 ++ T2)) (hn : ∀ x ∈ T1, x.1.l ≤ 2000000) : Erow DM W w.heap.size (T1.map Prod.fst) (fun i => (T1[i]?.map Prod.snd).getD []) := by
  have k1 : ∀ (i : Nat) (e : Sl), (T1.map Prod.fst)[i]? = some e → ∃ x, T1[i]? = some x ∧ x.1 = e ∧ (T1 ++ T2)[i]? = some x := by
    intro i e he
    rw [List.getElem?_map] at he
    cases hx : T1[i]? with
    | none => rw [hx] at he; cases he
    | some x => rw [hx] at he; exact ⟨x, rfl, by simpa using he, by rw [List.getElem?_append_left (List.getElem?_eq_some_iff.1 hx).1]; exact hx⟩
  refine ⟨fun i e he => ?_, fun i j e f g he hf hg hg' => ?_⟩
  · obtain ⟨x, hx, rfl, hx2⟩ := k1 i e he
    have ho := h.tl i x hx2
    rw [hx]
    refine ⟨ho.len, ?_, hn x (List.mem_of_getElem? hx)⟩
    show Own 47 30 W w.heap.size x.1.a x.1.k x.2.length (DM.L x.2)
    rw [ho.len]
    exact ho.own
  · obtain ⟨x, _, rfl, hx2⟩ := k1 i e he
    obtain ⟨y, _, rfl, hy2⟩ := k1 j f hf
    exact h.tt i j x y g hx2 hy2 hg hg'
theorem Og.call' {e : Ending} {ms : List Ms} (h : Og w W I p s l T) (ho : PrOut W I p s' ms e W') {n : Nat} (hn : ms.length = n) {L : List Mg} (hL : ms.map dM = L) : ∃ la lc I', e = .returned (.slice la n lc) ∧ Og w W' I' p s' l (T ++ [(⟨la, n, lc⟩, L)]) := by
  subst hn hL
  exact h.call ho
theorem Og.start {p : Nat} {W1 : World} (hF : Fq No w W l) (hP : Prp W1 I p s) (hI : ∀ k, I k → W.heap.size ≤ k ∧ k < W1.heap.size ∧ NotM W1 k) (hk : Kept No W W1) : Og w W1 I p s l [] :=
  ⟨hP, hF.no hk, fun k e => ⟨by have := hF.kept.size; have := (hI k e).1; omega, (hI k e).2⟩, fun i g t cs hi e => by have := (hF.box i g t cs hi).lt; have := (hI g e).1; omega, fun i x hx => by simp at hx, fun i j x y k hx => by simp at hx, fun i j x g t cs hx => by simp at hx⟩
/-- A list is copied onto an empty one of one's own. -/
theorem Og.copy (h : Og w W I p s l T) {i : Nat} {x : Sl × List Mg} (hx : T[i]? = some x) (hn : x.1.l ≤ 2000000) : ∃ a' cap' w', (Builtin.append_ #[66, 66] 66 #[.slice (some ⟨W.heap.size, 0, none⟩) 0 0, x.1.v]).run Try.prog (W.alloc (.cells #[] 47)) = .ok (.slice a' x.1.l cap') w' ∧ Og w w' I p s l (T ++ [(⟨a', x.1.l, cap'⟩, x.2)]) := by
  have hk1 : Kept No W (W.alloc (.cells #[] 47)) := (Kept.refl No W).alloc _
  have h1 := h.no hk1
  have ho := h1.tl i x hx
  have hsz : (W.alloc (.cells #[] 47)).heap.size = W.heap.size + 1 := by simp
  have hb : Box (W.alloc (.cells #[] 47)) W.heap.size 47 #[] := Box.new _ _ _
  have hown : Own 47 30 (W.alloc (.cells #[] 47)) W.heap.size (some ⟨W.heap.size, 0, none⟩) 0 0 [] := ⟨rfl, .inr ⟨W.heap.size, 0, #[], rfl, Nat.le_refl _, hb, Nat.le_refl _, by unfold maxLen; omega, rfl, rfl⟩⟩
  have hmL : (mgL x.2).length = x.1.l * 30 := by unfold mgL; rw [flat_len 30 _ (mgL_c x.2), List.length_map, ho.len]
  obtain ⟨a', cap', w', hrun, hO, hk, hat⟩ := run_appN (w := W.alloc (.cells #[] 47)) 66 66 47 30 312 (.agg mgZ.cells) U66 I47 rfl (by omega) W.heap.size 0 0 (some ⟨W.heap.size, 0, none⟩) [] hown x.1.a x.1.l x.1.k (mgL x.2) hmL (fun e => by
    rcases ho.own.2 with ⟨hv, _⟩ | ⟨g, cap, cur, hv, _⟩
    · simp only [Value.slice.injEq] at hv; exact hv.2.2
    · simp only [Value.slice.injEq] at hv; rw [e] at hv; cases hv.1) (fun j u hj => by
    have h0 : 0 < x.1.l := by
      have := (List.getElem?_eq_some_iff.1 hj).1; omega
    obtain ⟨g, ea⟩ := Own.sm ho.own h0
    exact ⟨⟨g, 0, none⟩, ea, World.ownsRow.cells (by have := ho.own; rw [ea] at this; exact this) (by rfl) j u hj⟩) (by
    intro u hu
    obtain ⟨y, hy, hu⟩ := List.mem_flatten.1 hu
    obtain ⟨m, _, rfl⟩ := List.mem_map.1 hy
    exact Mg.oneL m u hu) (by omega) (by omega) (by omega)
  rw [Nat.zero_add] at hrun hO
  have hk2 : Kept (Only W.heap.size) (W.alloc (.cells #[] 47)) w' := hk.mono (fun k _ e => by obtain ⟨_, h, rfl⟩ := e; cases h; rfl)
  have hfresh : ∀ k, At a' k → W.heap.size ≤ k := fun k e => Own.base hO e
  have hk3 : Kept No W w' := hk1.trans hk2 (fun _ e => e) (fun k hk e => by have e : k = W.heap.size := e; omega)
  refine ⟨a', cap', w', hrun, (h.no hk3).add ⟨Own.lower (by simpa using hO) h.fr.kept.size, ho.len⟩ (fun k e j y hy e2 => ?_) (fun j g ty cs hj e2 => ?_)⟩
  · have := hfresh k e; have := Own.lt (h.tl j y hy).own e2; omega
  · have := hfresh g e2; have := (h.fr.box j g ty cs hj).lt; omega
theorem Og.front {l2 : List (Nat × TypeId × Array Value)} (h : Og w W I p s (l ++ l2) T) : Og w W I p s l T := by
  have key : ∀ (i : Nat) x, l[i]? = some x → (l ++ l2)[i]? = some x := fun i x hx => by rw [List.getElem?_append_left (List.getElem?_eq_some_iff.1 hx).1]; exact hx
  exact ⟨h.prp, h.fr.front, h.ia, fun i g t cs hi => h.li i g t cs (key i _ hi), h.tl, h.tt, fun i j x g t cs hx hj => h.tb i j x g t cs hx (key j _ hj)⟩
theorem Og.rd (h : Og w W I p s l T) {i : Nat} {x : Sl × List Mg} (hx : T[i]? = some x) : RdM W x.1 x.2 := (h.tl i x hx).rd
theorem Og.sm (h : Og w W I p s l T) {i : Nat} {x : Sl × List Mg} (hx : T[i]? = some x) (h0 : 0 < x.1.l) : ∃ g, x.1.a = some ⟨g, 0, none⟩ := Own.sm (h.tl i x hx).own h0
theorem Og.cell (h : Og w W I p s l T) {i : Nat} {x : Sl × List Mg} (hx : T[i]? = some x) {g : Nat} (ha : x.1.a = some ⟨g, 0, none⟩) {q : Nat} {m : Mg} (hm : x.2[q]? = some m) (j : Nat) {v : Value} (hv : (Mg.cs m)[j]? = some v) : W.cell? ⟨g, 0 + q * 30 + j, none⟩ = some v := by
  obtain ⟨b, o, e, hc⟩ := (h.rd hx).at hm
  rw [ha] at e
  cases e
  exact hc j v hv
theorem rw_box {g : Nat} {K : List Sl} (hb : Box W g 66 (K.map Sl.v).toArray) (hn : K.length ≤ 1000) : Rw DM W g (some ⟨g, 0, none⟩) K.length K :=
  ⟨by rw [List.length_map]; exact (Nat.mul_one _).symm, .inr ⟨g, K.length, _, rfl, Nat.le_refl _, hb, Nat.le_refl _, by unfold maxLen; omega, by simp [DM], by simp only [DM, Nat.mul_one]; rw [List.take_of_length_le (by simp)]⟩⟩
end
end Go.Proofs.Ytpabpeppgpeaoaa.Md
