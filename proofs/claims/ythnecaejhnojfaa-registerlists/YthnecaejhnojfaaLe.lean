import Derived.Test.YthnecaejhnojfaaLc
import Derived.Test.YthnecaejhnojfaaUe
namespace Go.Proofs.Ythnecaejhnojfaa.Md
open Go.RowKit
set_option linter.unusedVariables false
set_option linter.unusedSimpArgs false

theorem box_one {w : World} {k : Nat} {t t' : TypeId} {cs cs' : Array Value} (h : Box w k t cs) (h' : Box w k t' cs') : t = t' := by
  unfold Box at h h'
  rw [h] at h'
  cases h'
  rfl
theorem ty_ne {w : World} {k : Nat} {t t' : TypeId} (h : ∃ cs, Box w k t cs) (h' : ∃ cs, Box w k t' cs) (hne : t ≠ t') : False := by
  obtain ⟨_, h⟩ := h; obtain ⟨_, h'⟩ := h'; exact hne (box_one h h')
def No52 (w : World) (k : Nat) : Prop := ¬ ∃ cs, Box w k 52 cs
theorem no52_ty {w : World} {k : Nat} {t : TypeId} (h : ∃ cs, Box w k t cs) (hne : t ≠ 52) : No52 w k := fun e => ty_ne h e hne
theorem Tal.no52 {α : Type} {T : TypeId} {f : Option α → Value} {w : World} {tb bb ct : Nat} {at' : Option Addr} {X : TS α} (h : Tal T f w tb bb at' ct X) (hT : T ≠ 52) {k : Nat} (e : TB tb bb at' k) : No52 w k := by
  rcases e with rfl | rfl | e
  · exact no52_ty ⟨_, h.box⟩ hT
  · rintro ⟨cs, hb⟩
    exact box_map hb h.map rfl
  · exact no52_ty (Own.ty h.row e) (by decide)
theorem Mch.no52 {w : World} {I : Nat → Prop} {m : Nat} {s : RM} (h : Mch w I m s) : Mch w (fun k => I k ∧ No52 w k) m s := by
  obtain ⟨⟨a, cap, t, v, h1, h2, h3, h4⟩, len⟩ := h
  have hk := Kept.refl No w
  have h5 : ∀ k, I k → (∃ cs, Box w k 5 cs) → ¬ No k ∧ (I k ∧ No52 w k) := fun k e b => ⟨fun f => f, e, no52_ty b (by decide)⟩
  refine ⟨⟨a, cap, t, v, h1, ⟨h2, no52_ty ⟨_, h1.box⟩ (by decide)⟩, fun k e => ⟨h3 k e, no52_ty (Own.ty h1.row e) (by decide)⟩, ?_⟩, len⟩
  cases hp : s.ph with
  | fresh =>
    rw [hp] at h4
    obtain ⟨q1, ai, av, q2, q3⟩ := h4
    exact ⟨q1, ai, av, q2, q3.kept5 hk h5⟩
  | ask X =>
    rw [hp] at h4
    obtain ⟨q1, r0, r1, ai, av, tb, bb, at', ct, Y, q2, q3, q4, q5, q6, q7⟩ := h4
    exact ⟨q1, r0, r1, ai, av, tb, bb, at', ct, Y, q2, q3.kept5 hk h5, q4, q5.kept5 hk h5, fun k e => ⟨q6 k e, Tal.no52 q4 (by decide) e⟩, q7⟩
  | lay b U =>
    rw [hp] at h4
    obtain ⟨q1, pa, pk, da, dc, ub, ubb, ua, ut, q2, q3, q4, q5, q6, q7, q8, q9, q10⟩ := h4
    exact ⟨q1, pa, pk, da, dc, ub, ubb, ua, ut, q2, q3, q4, fun k e => ⟨q5 k e, no52_ty (OwnB.five q4 e) (by decide)⟩, q6, fun k e => ⟨⟨(q7 k e).1, no52_ty (q7 k e).2 (by decide)⟩, (q7 k e).2⟩, q8, fun k e => ⟨q9 k e, Tal.no52 q8 (by decide) e⟩, q10⟩
  | fin er st z =>
    rw [hp] at h4
    obtain ⟨q1, da, dc, q2, q3, q4, q5⟩ := h4
    exact ⟨q1, da, dc, q2, q3, q4, fun k e => ⟨⟨(q5 k e).1, no52_ty (q5 k e).2 (by decide)⟩, (q5 k e).2⟩⟩
def qmM (o : RM × To) (q : Qm) : Mg := ⟨o.2.k, ⟨true, o.1.cl⟩, ⟨false, q.sv⟩, o.1.op, o.1.rd, o.1.ky, o.2.st, spZ, ⟨q.ba, o.2.z.length, q.bc⟩, cZ, bvZ, slZ, false⟩
theorem qmM_l (o : RM × To) (qs : List Qm) : msgsC o.1.x ⟨o.2.k, o.2.st.n, o.2.st.c, o.2.z.length⟩ qs = mgL (qs.map (qmM o)) := by
  unfold msgsC mgL
  rw [List.flatMap_def, List.map_map]
  rfl

theorem Bw.slim {H : Nat → Prop} {w : World} {I I' J : Nat → Prop} {l : Sl} {z : List Int} (h : Bw H w I J l z) (hI : ∀ k, I' k → I k) : Bw H w I' J l z := ⟨h.1, h.2.1, fun hne k e => ⟨(h.2.2 hne k e).1, fun f => (h.2.2 hne k e).2.1 (hI k f), (h.2.2 hne k e).2.2⟩⟩
theorem Wq.no52 {w0 w : World} {I : Nat → Prop} {m r : Nat} {g : Sl} {LV : Option (Nat × Nat)} {s : RM} {x : Rx} (h : Wq w0 w I m r g LV s x) : Wq w0 w (fun k => I k ∧ No52 w k) m r g LV s x :=
  ⟨h.mch.no52, h.ref, fun k e => h.ia k e.1, h.jb, h.kp, h.lv⟩
/-- What RegisterLists holds: both machines, the lists that were told (n of them in the row al), blocks of its own. -/
structure Lg (w w1 W : World) (m r : Nat) (g : Sl) (I : Nat → Prop) (LV : Option (Nat × Nat)) (s : RM) (x : Rx) (X : List It) (n : Nat) (al : Sl) (l : List (Nat × TypeId × Array Value)) : Prop where
  wq : Wq w1 W I m r g LV s x
  ks : Ks W 0 X
  raw : ∀ (j : Nat) y, X[j]? = some y → Raw y ∧ y.ms.length ≤ 1000
  ap : ∀ (j : Nat) y, X[j]? = some y → ∀ k, y.at k → w1.heap.size ≤ k ∧ ¬ I k ∧ ¬ Jx r g LV k
  ra : Own 57 1 W w1.heap.size al.a al.k al.l ((X.take n).map It.v)
  rp : ∀ k, At al.a k → ¬ I k ∧ ¬ Jx r g LV k
  fr : Fq No w W l
  li : ∀ (i : Nat) gg ty cs, l[i]? = some (gg, ty, cs) → ¬ I gg ∧ ¬ Jx r g LV gg ∧ (∀ (j : Nat) y, X[j]? = some y → ¬ y.at gg) ∧ ¬ At al.a gg
  w1 : w.heap.size ≤ w1.heap.size
section
variable {w w1 W W2 : World} {m r : Nat} {g : Sl} {I : Nat → Prop} {LV LV' : Option (Nat × Nat)} {s : RM} {x x' : Rx} {y : It} {X : List It} {n : Nat} {al : Sl} {l l2 : List (Nat × TypeId × Array Value)}
theorem Lg.box (G : Lg w w1 W m r g I LV s x X n al l) : ∀ (i : Nat) g T cs, l[i]? = some (g, T, cs) → Box W g T cs := G.fr.box
theorem Lg.no (G : Lg w w1 W m r g I LV s x X n al l) (hk : Kept No W W2) : Lg w w1 W2 m r g I LV s x X n al l := ⟨G.wq.no hk, G.ks.no hk, G.raw, G.ap, Own.no G.ra hk, G.rp, G.fr.no hk, G.li, G.w1⟩
theorem Lg.front (G : Lg w w1 W m r g I LV s x X n al (l ++ l2)) : Lg w w1 W m r g I LV s x X n al l := ⟨G.wq, G.ks, G.raw, G.ap, G.ra, G.rp, G.fr.front, fun i gg ty cs hi => G.li i gg ty cs (by rw [List.getElem?_append_left (List.getElem?_eq_some_iff.1 hi).1]; exact hi), G.w1⟩
theorem Lg.alloc (G : Lg w w1 W m r g I LV s x X n al l) (ty : TypeId) (cs : Array Value) : Lg w w1 (W.alloc (.cells cs ty)) m r g I LV s x X n al (l ++ [(W.heap.size, ty, cs)]) := by
  have hk : Kept No W (W.alloc (.cells cs ty)) := (Kept.refl No W).alloc _
  refine ⟨G.wq.no hk, G.ks.no hk, G.raw, G.ap, Own.no G.ra hk, G.rp, G.fr.alloc ty cs, fun i gg t' cs' hi => ?_, G.w1⟩
  rw [List.getElem?_append] at hi
  split at hi
  · exact G.li i gg t' cs' hi
  · have := List.mem_of_getElem? hi
    simp at this
    obtain ⟨rfl, _, _⟩ := this
    exact ⟨fun e => by have := (G.wq.ia _ e).2.1; omega, fun e => by have := G.wq.ref.lt e; omega, fun j y hy e => by have := (G.ks.ok j y hy).lt e; omega, fun e => by have := Own.lt G.ra e; omega⟩
theorem Lg.set (G : Lg w w1 W m r g I LV s x X n al l) (i : Nat) {gg : Nat} {ty : TypeId} {cs : Array Value} (hi : l[i]? = some (gg, ty, cs)) (cs' : Array Value) (hw1 : w1.heap.size ≤ gg) : Lg w w1 (W.setRow gg cs') m r g I LV s x X n al (l.set i (gg, ty, cs')) := by
  have hk : Kept (Only gg) W (W.setRow gg cs') := Kept.setRow W gg cs'
  obtain ⟨h1, h2, h3, h4⟩ := G.li i gg ty cs hi
  refine ⟨G.wq.off hk (fun k e => by have e : k = gg := e; subst e; exact ⟨hw1, h1, h2⟩), G.ks.kept hk (fun j y hy k e f => h3 j y hy ((show k = gg from f) ▸ e)), G.raw, G.ap, Own.kept G.ra hk (fun k e f => h4 ((show k = gg from f) ▸ e)), G.rp, G.fr.set i hi cs', fun j g1 t1 cs1 hj => ?_, G.w1⟩
  rw [List.getElem?_set] at hj
  split at hj
  · split at hj
    · cases hj
      exact ⟨h1, h2, h3, h4⟩
    · cases hj
  · exact G.li j g1 t1 cs1 hj
/-- The machine was asked: what it told is one more list. -/
theorem Lg.told {H : Nat → Prop} (G : Lg w w1 W m r g I LV s x X n al l) (hr : Rel (Bw H W I (Jx r g LV)) s x) (hn : n ≤ X.length) {o : RM × To} (hss : o.2.ss.length ≤ 1000) {e : Ending} (ho : MOut W I m o e W2) :
    ∃ (y : It) (I2 : Nat → Prop), e = .returned y.v ∧ TlM W2 W.heap.size y.a y.ms.length y.c o ∧ Lg w w1 W2 m r g I2 LV o.1 x (X ++ [y]) n al l ∧ (∀ (L : Nat → Prop) (W3 : World), Kept L W2 W3 → (∀ k, L k → W.heap.size ≤ k) → Rel (Bw H W3 I2 (Jx r g LV)) s x) ∧ (∀ k, y.at k → W.heap.size ≤ k) := by
  obtain ⟨la, nn, lc, I', he, hT, hW, hB, hk, hI⟩ := prog_step (H := H) G.wq hr (Kept.refl No W) ho
  obtain ⟨qs, h1, h2, hM⟩ := hT
  have hrow := hM.row
  rw [qmM_l] at hrow
  have hql : qs.length ≤ 1000 := by rw [← List.length_map (f := Qm.sv), h2]; exact hss
  subst h1
  obtain ⟨y, hy⟩ : ∃ y : It, y = ⟨la, lc, qs.map (qmM o), none, 0, []⟩ := ⟨_, rfl⟩
  have hyl : y.ms.length = qs.length := by rw [hy]; exact List.length_map ..
  have hyo : ItOk W2 0 y := by
    rw [hy]
    exact ⟨by rw [List.length_map]; exact Own.lower hrow (Nat.zero_le _), Own.nil _ _ _ _⟩
  have hya : ∀ k, y.at k → W.heap.size ≤ k := fun k e => by
    rw [hy] at e
    rcases e with e | e
    · exact Own.base hrow e
    · exact absurd e At.none
  have hs := hk.size
  have get : ∀ (j : Nat) z, (X ++ [y])[j]? = some z → X[j]? = some z ∨ z = y := fun j z hz => by
    rw [List.getElem?_append] at hz
    split at hz
    · exact .inl hz
    · have := List.mem_of_getElem? hz
      simp at this
      exact .inr this
  have hkX : Ks W2 0 X := G.ks.kept hk (fun j z hz k e => (G.ap j z hz k e).2.1)
  have h0 := G.wq.kp.size
  refine ⟨y, fun k => I' k ∧ No52 W2 k, by rw [he]; unfold It.v; rw [hyl, hy], ⟨qs, hyl.symm, h2, by rw [hy]; exact hM⟩, ⟨hW.no52, ?_, fun j z hz => ?_, fun j z hz k e => ?_, ?_, fun k e => ⟨fun f => (hI k f.1).elim (G.rp k e).1 (fun h => by have := Own.lt G.ra e; omega), (G.rp k e).2⟩, ?_, fun i gg ty cs hi => ?_, G.w1⟩, fun L W3 h3 hL => (hB L W3 h3 hL).mono (fun l z hb => hb.slim (fun k e => e.1)), hya⟩
  · refine ⟨fun j z hz => (get j z hz).elim (hkX.ok j z) (fun e => e ▸ hyo), fun i j a b ha hb hij k e f => ?_⟩
    have hlen : ∀ q z, (X ++ [y])[q]? = some z → (q < X.length ∧ X[q]? = some z) ∨ (q = X.length ∧ z = y) := fun q z hz => by
      rw [List.getElem?_append] at hz
      split at hz
      · rename_i h; exact .inl ⟨h, hz⟩
      · rename_i h
        have h3 := (List.getElem?_eq_some_iff.1 hz).1
        have h4 := List.mem_of_getElem? hz
        simp at h3 h4
        exact .inr ⟨by omega, h4⟩
    rcases hlen i a ha with ⟨_, ha2⟩ | ⟨hi, ea⟩ <;> rcases hlen j b hb with ⟨_, hb2⟩ | ⟨hj, eb⟩
    · exact hkX.apart i j a b ha2 hb2 hij k e f
    · rw [eb] at f; have := (G.ks.ok i a ha2).lt e; have := hya k f; omega
    · rw [ea] at e; have := (G.ks.ok j b hb2).lt f; have := hya k e; omega
    · omega
  · rcases get j z hz with hz | rfl
    · exact G.raw j z hz
    · exact ⟨by rw [hy]; exact ⟨rfl, rfl, rfl⟩, by omega⟩
  · rcases get j z hz with hz | rfl
    · exact ⟨(G.ap j z hz k e).1, fun f => (hI k f.1).elim (G.ap j z hz k e).2.1 (fun h => by have := (G.ks.ok j z hz).lt e; omega), (G.ap j z hz k e).2.2⟩
    · have := hya k e
      exact ⟨by omega, fun f => f.2 (hyo.ty e), fun f => by have := G.wq.ref.lt f; omega⟩
  · rw [List.take_append_of_le_length hn]
    exact Own.kept G.ra hk (fun k e => (G.rp k e).1)
  · have hlo := G.w1
    refine ⟨G.fr.kept.trans hk (fun _ e => e) (fun k hl e => by have := (G.wq.ia k e).1; omega), fun i gg ty cs hi => (G.fr.box i gg ty cs hi).kept hk (G.li i gg ty cs hi).1, G.fr.low, G.fr.inj⟩
  · obtain ⟨a1, a2, a3, a4⟩ := G.li i gg ty cs hi
    have hl := (G.fr.box i gg ty cs hi).lt
    exact ⟨fun f => (hI gg f.1).elim a1 (fun h => by omega), a2, fun j z hz e => (get j z hz).elim (fun h => a3 j z h e) (fun h => by subst h; have := hya gg e; omega), a4⟩
/-- The reference was asked. -/
theorem Lg.ref (G : Lg w w1 W m r g I LV s x X n al l) {s' : RM} (hW3 : Wq w1 W2 I m r g LV' s' x') (hkJ : Kept (Jx r g LV) W W2) (hJ' : ∀ k, Jx r g LV' k → Jx r g LV k ∨ W.heap.size ≤ k) : Lg w w1 W2 m r g I LV' s' x' X n al l := by
  have h0 := G.w1
  refine ⟨hW3, G.ks.kept hkJ (fun j y hy k e => (G.ap j y hy k e).2.2), G.raw, fun j y hy k e => ⟨(G.ap j y hy k e).1, (G.ap j y hy k e).2.1, fun f => (hJ' k f).elim (G.ap j y hy k e).2.2 (fun h => by have := (G.ks.ok j y hy).lt e; omega)⟩, Own.kept G.ra hkJ (fun k e => (G.rp k e).2), fun k e => ⟨(G.rp k e).1, fun f => (hJ' k f).elim (G.rp k e).2 (fun h => by have := Own.lt G.ra e; omega)⟩, ⟨G.fr.kept.trans hkJ (fun _ e => e) (fun k hl e => by have := G.wq.jb k e; omega), fun i gg ty cs hi => (G.fr.box i gg ty cs hi).kept hkJ (G.li i gg ty cs hi).2.1, G.fr.low, G.fr.inj⟩, fun i gg ty cs hi => ?_, G.w1⟩
  obtain ⟨a1, a2, a3, a4⟩ := G.li i gg ty cs hi
  have hl := (G.fr.box i gg ty cs hi).lt
  exact ⟨a1, fun f => (hJ' gg f).elim a2 (fun h => by omega), a3, a4⟩
/-- The list is kept in the row. -/
theorem Lg.keep (G : Lg w w1 W m r g I LV s x (X ++ [y]) X.length al l) (hl : al.l ≤ 1000000) {gb cc : Nat} (hb : Box W gb 57 #[y.v]) :
    ∃ a1 k1 W2, (Builtin.append_ #[56, 56] 56 #[al.v, .slice (some ⟨gb, 0, none⟩) 1 cc]).run Try.prog W = .ok (.slice a1 (al.l + 1) k1) W2 ∧ Lg w w1 W2 m r g I LV s x (X ++ [y]) (X ++ [y]).length ⟨a1, al.l + 1, k1⟩ l ∧ Kept (At al.a) W W2 ∧ ∀ k, At a1 k → At al.a k ∨ k = W.heap.size := by
  obtain ⟨a1, k1, W2, h, ho, hk, hn⟩ := run_appN (w := W) 56 56 57 1 24 (.slice none 0 0) U56 I71 rfl (by decide) w1.heap.size al.l al.k al.a _ G.ra (some ⟨gb, 0, none⟩) 1 cc [y.v] rfl (fun e => by cases e) (fun j u hj => ⟨_, rfl, by rw [addr_add, Nat.zero_add, hb.cell]; simpa using hj⟩) (by simp [It.v, Value.oneCell']) (by omega) (by omega) G.wq.kp.size
  have e1 : ((X ++ [y]).take X.length).map It.v ++ [y.v] = ((X ++ [y]).take (X ++ [y]).length).map It.v := by rw [List.take_length, List.take_left, List.map_append]; rfl
  rw [e1] at ho
  have h0 := G.w1
  have hnew : ∀ k, At a1 k → At al.a k ∨ k = W.heap.size := hn
  refine ⟨a1, k1, W2, h, ⟨G.wq.off hk (fun k e => ⟨Own.base G.ra e, G.rp k e⟩), G.ks.kept hk (fun j z hz k e f => ty_ne' (G.ks.ty hz e) (Own.ty G.ra f)), G.raw, G.ap, ho, fun k e => (hn k e).elim (G.rp k) (fun f => ⟨fun q => by have := (G.wq.ia k q).2.1; omega, fun q => by have := G.wq.ref.lt q; omega⟩), ⟨G.fr.kept.trans hk (fun _ e => e) (fun k hl e => by have := Own.base G.ra e; omega), fun i gg ty cs hi => (G.fr.box i gg ty cs hi).kept hk (G.li i gg ty cs hi).2.2.2, G.fr.low, G.fr.inj⟩, fun i gg ty cs hi => ?_, G.w1⟩, hk, hn⟩
  obtain ⟨a1', a2', a3', a4'⟩ := G.li i gg ty cs hi
  have hl := (G.fr.box i gg ty cs hi).lt
  exact ⟨a1', a2', a3', fun f => (hn gg f).elim a4' (fun h => by omega)⟩
/-- What was told last is let go. -/
theorem Lg.drop (G : Lg w w1 W m r g I LV s x (X ++ [y]) n al l) (hn : n ≤ X.length) : Lg w w1 W m r g I LV s x X n al l := by
  have get : ∀ (j : Nat) z, X[j]? = some z → (X ++ [y])[j]? = some z := fun j z hz => by rw [List.getElem?_append_left (List.getElem?_eq_some_iff.1 hz).1]; exact hz
  exact ⟨G.wq, ⟨fun j z hz => G.ks.ok j z (get j z hz), fun i j a b ha hb => G.ks.apart i j a b (get i a ha) (get j b hb)⟩, fun j z hz => G.raw j z (get j z hz), fun j z hz => G.ap j z (get j z hz), by have := G.ra; rwa [List.take_append_of_le_length hn] at this, G.rp, G.fr, fun i gg ty cs hi => ⟨(G.li i gg ty cs hi).1, (G.li i gg ty cs hi).2.1, fun j z hz => (G.li i gg ty cs hi).2.2.1 j z (get j z hz), (G.li i gg ty cs hi).2.2.2⟩, G.w1⟩
/-- The lists are written full and grown. -/
theorem Lg.grown (G : Lg w w1 W m r g I LV s x X n al l) {S : Nat → Prop} (hk : Kept S W W2) (hS : ∀ k, S k → w1.heap.size ≤ k ∧ ¬ I k ∧ ¬ Jx r g LV k ∧ ∀ (i : Nat) gg ty cs, l[i]? = some (gg, ty, cs) → k ≠ gg) : Lg w w1 W2 m r g I LV s x [] 0 slZ l := by
  have h0 := G.w1
  refine ⟨G.wq.off hk (fun k e => ⟨(hS k e).1, (hS k e).2.1, (hS k e).2.2.1⟩), Ks.nil _ _, (fun j y hy => by simp at hy), (fun j y hy => by simp at hy), Own.nil _ _ _ _, fun k e => absurd e At.none, ⟨G.fr.kept.trans hk (fun _ e => e) (fun k hl e => by have := (hS k e).1; omega), fun i gg ty cs hi => (G.fr.box i gg ty cs hi).kept hk (fun e => (hS gg e).2.2.2 i gg ty cs hi rfl), G.fr.low, G.fr.inj⟩, fun i gg ty cs hi => ⟨(G.li i gg ty cs hi).1, (G.li i gg ty cs hi).2.1, (fun j y hy => by simp at hy), At.none⟩, G.w1⟩
end
theorem beg_tik {s : RM} (hf : s.ph = .fresh) (hnd : s.zs.Nodup) : begP s = ((begP s).1, tikP (begP s).1) := by
  unfold begP
  rw [hf]
  dsimp only
  split
  · unfold tikP
    dsimp only
    rw [missL_new, uq_nd hnd]
  · rfl
end Go.Proofs.Ythnecaejhnojfaa.Md
namespace Go.Proofs.Ythnecaejhnojfaa.Md
open Go.RowKit
set_option linter.unusedVariables false
set_option linter.unusedSimpArgs false

theorem made_any {H : Nat → Prop} (wr : Bool) (cl op : Int) (ky : Ky) (sa : Option Addr) (n sk : Nat) (rd sz : Int) (da : Option Addr) (dl dk : Nat) (gs zs : List Int) (w : World) (hg : RdI w ⟨sa, n, sk⟩ gs) (hg0 : sa = none → sk = 0) (hn : n ≤ 100) (hb : RdB w ⟨da, dl, dk⟩ zs) (hl : dl ≤ 140737488351232) (hoff : zs ≠ [] → ∀ k, At da k → k < w.heap.size ∧ H k) :
    Calls Try.prog 6 #[.agg (Aq.cells ⟨wr, cl, op, ky, ⟨sa, n, sk⟩, rd, sz, ⟨da, dl, dk⟩⟩)] w (MadO H w (newS wr cl op ky gs rd sz zs) (newR wr cl op ky gs rd sz ⟨da, dl, dk⟩)) := by
  cases wr with
  | true => exact made_t cl op ky sa n sk rd sz da dl dk gs zs w hg hg0 hn hb hl hoff
  | false => exact made_f cl op ky sa n sk rd sz da dl dk gs zs w hg hg0 hn hb hl hoff
theorem At.eq {b off k : Nat} (h : At (some ⟨b, off, none⟩) k) : k = b := by
  obtain ⟨ad, e, rfl⟩ := h
  cases e
  rfl
theorem rdB_lt {w : World} {l : Sl} {z : List Int} (h : RdB w l z) : z ≠ [] → ∀ k, At l.a k → k < w.heap.size := fun hne k e => by
  obtain ⟨b, off, ha, hc⟩ := h.row 0 (List.length_pos_iff.2 hne)
  rw [ha] at e
  rw [At.eq e]
  exact World.block_lt_of_cell? _ _ hc
theorem ss_lay (s : RM) (b : Bp) : (layP s b).2.ss.length ≤ s.zs.length := by
  unfold layP
  split
  · simp [toZ]
  · exact Nat.le_refl _
theorem ss_set (s : RM) (l : List Bp) : (setP s l).2.ss.length ≤ s.zs.length := by
  unfold setP
  split
  · split
    · simp [toZ]
    · exact ss_lay _ _
  · split
    · exact ss_lay _ _
    · simp [toZ]
theorem ss_tak (s : RM) (d : Mg) (z : List Int) : (takP s d z).2.ss.length ≤ s.zs.length := by
  unfold takP
  split
  · split
    · split
      · exact ss_set _ _
      · simp [toZ]
    · simp [toZ]
  · split
    · split <;> simp [toZ]
    · simp [toZ]
  · simp [toZ]
theorem ss_beg (s : RM) : (begP s).2.ss.length ≤ s.zs.length := by
  unfold begP
  split
  · split
    · exact Nat.le_refl _
    · simp [toZ]
  · simp [toZ]
theorem ss_tik {w : World} {I : Nat → Prop} {m : Nat} {s : RM} (h : Mch w I m s) : (tikP s).ss.length ≤ s.zs.length := by
  obtain ⟨⟨a, cap, t, v, h1, h2, h3, h4⟩, len⟩ := h
  unfold tikP
  split
  · rename_i X e
    rw [e] at h4
    obtain ⟨q1, r0, r1, ai, av, tb, bb, at', ct, Y, q2, q3, q4, q5, q6, q7⟩ := h4
    have := missL_len X
    rw [q7] at this
    exact this
  · rename_i b U e
    rw [e] at h4
    obtain ⟨q1, pa, pk, da, dc, ub, ubb, ua, ut, q2, q3, q4, q5, q6, q7, q8, q9, q10⟩ := h4
    have := missL_len U
    rw [q10] at this
    exact this
  · simp [toZ]

/-- Blocks in which no bytes that are spoken of lie. -/
def Hx (X : List It) (al : Sl) (l : List (Nat × TypeId × Array Value)) : Nat → Prop := fun k => (∀ (j : Nat) y, X[j]? = some y → ¬ y.at k) ∧ ¬ At al.a k ∧ ∀ (i : Nat) gg ty cs, l[i]? = some (gg, ty, cs) → k ≠ gg
/-- Both machines, and the reference like s. -/
structure Lr (w w1 W : World) (m r : Nat) (g : Sl) (I : Nat → Prop) (LV : Option (Nat × Nat)) (s' s : RM) (x : Rx) (X : List It) (n : Nat) (al : Sl) (l : List (Nat × TypeId × Array Value)) : Prop where
  lg : Lg w w1 W m r g I LV s' x X n al l
  rel : RelW (Hx X al l) W I (Jx r g LV) s x
/-- A list that was told, and what it lies apart from. -/
def Tel (W : World) (r : Nat) (g : Sl) (LV : Option (Nat × Nat)) (X : List It) (y : It) (o : RM × To) : Prop :=
  ∃ N M qs, qs.length = y.ms.length ∧ qs.map Qm.sv = o.2.ss ∧ Msgs W N y.a y.c o.1.x ⟨o.2.k, o.2.st.n, o.2.st.c, o.2.z.length⟩ o.2.z qs ∧ (∀ k, At y.a k → k < M) ∧ (∀ q ∈ qs, ∀ k, At q.ba k → k < M) ∧ (∀ k, N ≤ k → k < M → ¬ Jx r g LV k ∧ ∀ (j : Nat) z, X[j]? = some z → ¬ z.at k) ∧ M ≤ W.heap.size
section
variable {w w1 W W2 : World} {m r : Nat} {g : Sl} {I S : Nat → Prop} {LV LV' : Option (Nat × Nat)} {s s' s0 : RM} {x x' : Rx} {y : It} {X : List It} {n : Nat} {al : Sl} {l l2 : List (Nat × TypeId × Array Value)} {o : RM × To}
theorem Tel.tlm (h : Tel W r g LV X y o) : ∃ N, TlM W N y.a y.ms.length y.c o := by
  obtain ⟨N, M, qs, h1, h2, h3, _⟩ := h
  exact ⟨N, qs, h1, h2, h3⟩
theorem Tel.kept (h : Tel W r g LV X y o) (hk : Kept S W W2) (hS : ∀ k, S k → Jx r g LV k ∨ (∃ (j : Nat) (z : It), X[j]? = some z ∧ z.at k) ∨ W.heap.size ≤ k) : Tel W2 r g LV X y o := by
  obtain ⟨N, M, qs, h1, h2, h3, h4, h5, h6, h7⟩ := h
  have hs := hk.size
  have no : ∀ k, N ≤ k → k < M → ¬ S k := fun k a b e => by
    rcases hS k e with e | ⟨j, z, hz, e⟩ | e
    · exact (h6 k a b).1 e
    · exact (h6 k a b).2 j z hz e
    · omega
  exact ⟨N, M, qs, h1, h2, h3.kept hk (fun k e => no k (Own.base h3.row e) (h4 k e)) (fun q hq k e => no k (Own.base (h3.own q hq) e) (h5 q hq k e)), h4, h5, h6, by omega⟩
theorem Tel.no (h : Tel W r g LV X y o) (hk : Kept No W W2) : Tel W2 r g LV X y o := h.kept hk (fun _ e => e.elim)
theorem Tel.same (h : Tel W r g LV X y o) {I' J H : Nat → Prop} {t : Sl} {ls : List Mg} (ht : RdM W t ls) (hl : LikeT (Bw H W I' J) x' o ls) (hn : ls.length ≤ 1000) : Calls Try.prog 10 #[y.v, t.v] W (fun e w' => e = .returned (.bool true) ∧ Kept No W w') := by
  obtain ⟨N, hT⟩ := h.tlm
  exact sameT hT ht hl hn
theorem Tel.lv (h : Tel W r g LV X y o) (hJ : ∀ k, Jx r g LV' k → Jx r g LV k ∨ W.heap.size ≤ k) : Tel W r g LV' X y o := by
  obtain ⟨N, M, qs, h1, h2, h3, h4, h5, h6, h7⟩ := h
  exact ⟨N, M, qs, h1, h2, h3, h4, h5, fun k a b => ⟨fun e => (hJ k e).elim (h6 k a b).1 (fun e => by omega), (h6 k a b).2⟩, h7⟩
theorem Tel.ref (h : Tel W r g LV X y o) (hk : Kept (Jx r g LV) W W2) (hJ : ∀ k, Jx r g LV' k → Jx r g LV k ∨ W.heap.size ≤ k) : Tel W2 r g LV' X y o :=
  by
  obtain ⟨N, M, qs, h1, h2, h3, h4, h5, h6, h7⟩ := h
  have hs := hk.size
  exact ⟨N, M, qs, h1, h2, h3.kept hk (fun k e => (h6 k (Own.base h3.row e) (h4 k e)).1) (fun q hq k e => (h6 k (Own.base (h3.own q hq) e) (h5 q hq k e)).1), h4, h5, fun k a b => ⟨fun e => (hJ k e).elim (h6 k a b).1 (fun e => by omega), (h6 k a b).2⟩, by omega⟩
theorem Tel.nil (h : Tel W r g LV X y o) : Tel W r g LV [] y o := by
  obtain ⟨N, M, qs, h1, h2, h3, h4, h5, h6, h7⟩ := h
  exact ⟨N, M, qs, h1, h2, h3, h4, h5, fun k a b => ⟨(h6 k a b).1, fun j z hz => by simp at hz⟩, h7⟩
theorem Lr.box (G : Lr w w1 W m r g I LV s' s x X n al l) : ∀ (i : Nat) g T cs, l[i]? = some (g, T, cs) → Box W g T cs := G.lg.box
theorem Lr.no (G : Lr w w1 W m r g I LV s' s x X n al l) (hk : Kept No W W2) : Lr w w1 W2 m r g I LV s' s x X n al l := ⟨G.lg.no hk, G.rel.no hk⟩
theorem Lr.front (G : Lr w w1 W m r g I LV s' s x X n al (l ++ l2)) : Lr w w1 W m r g I LV s' s x X n al l := ⟨G.lg.front, G.rel.wide (fun k _ h => ⟨h.1, h.2.1, fun i gg ty cs hi => h.2.2 i gg ty cs (by rw [List.getElem?_append_left (List.getElem?_eq_some_iff.1 hi).1]; exact hi)⟩)⟩
theorem Lr.alloc (G : Lr w w1 W m r g I LV s' s x X n al l) (ty : TypeId) (cs : Array Value) : Lr w w1 (W.alloc (.cells cs ty)) m r g I LV s' s x X n al (l ++ [(W.heap.size, ty, cs)]) := by
  refine ⟨G.lg.alloc ty cs, (G.rel.wide (fun k hk h => ⟨h.1, h.2.1, fun i gg t' cs' hi => ?_⟩)).no ((Kept.refl No W).alloc _)⟩
  rw [List.getElem?_append] at hi
  split at hi
  · exact h.2.2 i gg t' cs' hi
  · have := List.mem_of_getElem? hi
    simp at this
    omega
theorem Lr.set (G : Lr w w1 W m r g I LV s' s x X n al l) (i : Nat) {gg : Nat} {ty : TypeId} {cs : Array Value} (hi : l[i]? = some (gg, ty, cs)) (cs' : Array Value) (hw1 : w1.heap.size ≤ gg) : Lr w w1 (W.setRow gg cs') m r g I LV s' s x X n al (l.set i (gg, ty, cs')) := by
  refine ⟨G.lg.set i hi cs' hw1, (G.rel.off (Kept.setRow W gg cs') (fun k h e => h.2.2 i gg ty cs hi e)).wide (fun k _ h => ⟨h.1, h.2.1, fun j g1 t1 cs1 hj => ?_⟩)⟩
  rw [List.getElem?_set] at hj
  split at hj
  · split at hj
    · cases hj
      exact h.2.2 i gg ty cs hi
    · cases hj
  · exact h.2.2 j g1 t1 cs1 hj
theorem Lr.lt (G : Lr w w1 W m r g I LV s' s x X n al l) : ∀ k, W.heap.size ≤ k → Hx X al l k := fun k hk =>
  ⟨fun j y hy e => by have := (G.lg.ks.ok j y hy).lt e; omega, fun e => by have := Own.lt G.lg.ra e; omega, fun i gg ty cs hi e => by have := (G.lg.fr.box i gg ty cs hi).lt; omega⟩
theorem Lr.told (G : Lr w w1 W m r g I LV s' s x X n al l) (hs' : s' = s) (hn : n ≤ X.length) (hss : o.2.ss.length ≤ 1000) {e : Ending} (ho : MOut W I m o e W2) :
    ∃ (y : It) (I2 : Nat → Prop), e = .returned y.v ∧ Tel W2 r g LV X y o ∧ Lr w w1 W2 m r g I2 LV o.1 s x (X ++ [y]) n al l := by
  subst hs'
  obtain ⟨y, I2, he, ⟨qs, h1, h2, h3⟩, hG, hR, hy⟩ := G.lg.told (G.rel.wide (H' := fun k => Hx X al l k ∧ k < W.heap.size) (fun k a b => ⟨b, a⟩)) hn hss ho
  refine ⟨y, I2, he, ⟨W.heap.size, W2.heap.size, qs, h1, h2, h3, fun k e => Own.lt h3.row e, fun q hq k e => OwnB.lt (h3.own q hq) e, fun k a _ => ⟨fun e => by have := G.lg.wq.ref.lt e; omega, fun j z hz e => by have := (G.lg.ks.ok j z hz).lt e; omega⟩, Nat.le_refl _⟩, hG, ?_⟩
  refine RelW.wide (hR No W2 (Kept.refl No _) (fun _ e => e.elim)) (fun k _ h => ⟨fun j z hz e => ?_, h.1.2⟩)
  rw [List.getElem?_append] at hz
  split at hz
  · exact h.1.1 j z hz e
  · have := List.mem_of_getElem? hz
    simp at this
    subst this
    have := hy k e
    omega
theorem Lr.ref (G : Lr w w1 W m r g I LV s' s x X n al l) {e : Ending} (ho : RefO (Hx X al l) w1 W I m r g LV s' o e W2) :
    ∃ (t : Sl) (ls : List Mg) (LV' : Option (Nat × Nat)) (x' : Rx), e = .returned t.v ∧ RdM W2 t ls ∧ ls.length ≤ 1000 ∧ LikeT (Bw (Hx X al l) W2 I (Jx r g LV')) x' o ls ∧ Kept (Jx r g LV) W W2 ∧ (∀ k, Jx r g LV' k → Jx r g LV k ∨ W.heap.size ≤ k) ∧ Lr w w1 W2 m r g I LV' s' o.1 x' X n al l := by
  obtain ⟨t, ls, LV', x', h1, h2, h3, h4, h5, h6, h7, h8⟩ := ho
  exact ⟨t, ls, LV', x', h1, h2, h3, h6, h7, h8, G.lg.ref h4 h7 h8, h5⟩
theorem Lr.drop (G : Lr w w1 W m r g I LV s' s x (X ++ [y]) n al l) (hn : n ≤ X.length) : Lr w w1 W m r g I LV s' s x X n al l :=
  ⟨G.lg.drop hn, G.rel.wide (fun k _ h => ⟨fun j z hz => h.1 j z (by rw [List.getElem?_append_left (List.getElem?_eq_some_iff.1 hz).1]; exact hz), h.2⟩)⟩
theorem Lr.start (hW : Wq w1 W I m r g none s x) (hR : RelW (fun k => k < w.heap.size) W I (Jx r g none) s x) (hF : Fq No w W l) (h1 : w.heap.size ≤ w1.heap.size) (hl : ∀ (i : Nat) gg ty cs, l[i]? = some (gg, ty, cs) → ¬ I gg ∧ ¬ Jx r g none gg) : Lr w w1 W m r g I none s s x [] 0 slZ l := by
  refine ⟨⟨hW, Ks.nil _ _, (fun j y hy => by simp at hy), (fun j y hy => by simp at hy), Own.nil _ _ _ _, fun k e => absurd e At.none, hF, fun i gg ty cs hi => ⟨(hl i gg ty cs hi).1, (hl i gg ty cs hi).2, (fun j y hy => by simp at hy), At.none⟩, h1⟩, hR.wide (fun k _ h => ⟨(fun j y hy => by simp at hy), At.none, fun i gg ty cs hi e => ?_⟩)⟩
  have := (hF.low i gg ty cs hi).elim (fun e => e) (fun e => e.elim)
  omega
theorem Lr.keep (G : Lr w w1 W m r g I LV s' s x (X ++ [y]) X.length al l) (hl : al.l ≤ 1000000) {gb cc : Nat} (hb : Box W gb 57 #[y.v]) :
    ∃ a1 k1 W2, (Builtin.append_ #[56, 56] 56 #[al.v, .slice (some ⟨gb, 0, none⟩) 1 cc]).run Try.prog W = .ok (.slice a1 (al.l + 1) k1) W2 ∧ Lr w w1 W2 m r g I LV s' s x (X ++ [y]) (X ++ [y]).length ⟨a1, al.l + 1, k1⟩ l := by
  obtain ⟨a1, k1, W2, h1, h2, hk, ha⟩ := G.lg.keep hl hb
  refine ⟨a1, k1, W2, h1, h2, ?_⟩
  have h := (G.rel.wide (H' := fun k => Hx (X ++ [y]) al l k ∧ k < W.heap.size) (fun k a b => ⟨b, a⟩)).off hk (fun k e f => e.1.2.1 f)
  exact h.wide (fun k _ e => ⟨e.1.1, fun f => (ha k f).elim e.1.2.1 (fun f => by have := e.2; omega), e.1.2.2⟩)
theorem Lr.inp (G : Lr w w1 W m r g I LV s' s x X n al l) {bl : Sl} {z : List Int} (hb : RdB w bl z) (hl : bl.l ≤ 140737488351232) : Bw (Hx X al l) W I (Jx r g LV) bl z := by
  refine ⟨hb.no G.lg.fr.kept, hl, fun hne k e => ?_⟩
  have h1 := rdB_lt hb hne k e
  have h2 := G.lg.fr.kept.size
  have h3 := G.lg.w1
  refine ⟨by omega, fun f => by have := (G.lg.wq.ia k f).1; omega, fun f => by have := G.lg.wq.jb k f; omega, fun j y hy f => by have := (G.lg.ap j y hy k f).1; omega, fun f => by have := Own.base G.lg.ra f; omega, fun i gg ty cs hi f => ?_⟩
  have := (G.lg.fr.low i gg ty cs hi).elim (fun e => e) (fun e => e.elim)
  omega
theorem Lr.grown (G : Lr w w1 W m r g I LV s' s x X n al l) (hk : Kept (fun k => ∃ (j : Nat) (z : It), X[j]? = some z ∧ z.at k) W W2) : Lr w w1 W2 m r g I LV s' s x [] 0 slZ l :=
  ⟨G.lg.grown hk (fun k ⟨j, z, hz, e⟩ => ⟨(G.lg.ap j z hz k e).1, (G.lg.ap j z hz k e).2.1, (G.lg.ap j z hz k e).2.2, fun i gg ty cs hi f => (G.lg.li i gg ty cs hi).2.2.1 j z hz (f ▸ e)⟩), (G.rel.off hk (fun k h ⟨j, z, hz, e⟩ => h.1 j z hz e)).wide (fun k _ h => ⟨(fun j y hy => by simp at hy), At.none, h.2.2⟩)⟩
end
def aqZ : Aq := ⟨false, 0, 0, kyZ, slZ, 0, 0, slZ⟩
theorem Z27 : (Try.prog.info? 27).bind (·.zero) = some (.agg aqZ.cells) := by kernel_rfl

end Go.Proofs.Ythnecaejhnojfaa.Md
