import Derived.Test.YtpabpeppgpeaoaaMda
import Derived.Test.YtpabpeppgpeaoaaZp
namespace Go.Proofs.Ytpabpeppgpeaoaa.Md
open Go.RowKit
set_option linter.unusedVariables false
set_option linter.unusedSimpArgs false

/-- Lists by their places. -/
def tab {α : Type} (n : Nat) (f : Nat → α) : List α := (List.range n).map f
/-- What came in, and marks behind; what is laid up to a place. -/
def lnt {α : Type} (n : Nat) (xs : List α) (z : α) (mk : Nat → α) (j : Nat) : α := if j < n then xs[j]?.getD z else mk j
def mkE (j : Nat) : En := ⟨⟨#[109, 97, 114, 107]⟩, 0, 0, -((j : Nat) : Int)⟩
def mkL (j : Nat) : La := ⟨-((j : Nat) : Int), -7, 0, 0, 0, 0, 0⟩
def mkC (j : Nat) : Cm := ⟨0, 0, -((j : Nat) : Int), ⟨#[109, 97, 114, 107]⟩, 0, 0, 0, 0, 0⟩
def mkB (_ : Nat) : Int := 201
def lntE (n : Nat) (es : List En) : Nat → En := lnt n es enZ mkE
def lntL (n : Nat) (es : List La) : Nat → La := lnt n es laZ mkL
def lntC (n : Nat) (es : List Cm) : Nat → Cm := lnt n es cZ mkC
def lntB (n : Nat) (es : List Int) : Nat → Int := lnt n es 0 mkB
def lent (s : Sl) (g : Nat) : Sl := ⟨some ⟨g, 0, none⟩, s.l, s.l + 67⟩
end Go.Proofs.Ytpabpeppgpeaoaa.Md
namespace Go.Proofs.Ytpabpeppgpeaoaa.Md
open Go.RowKit
set_option linter.unusedVariables false
set_option linter.unusedSimpArgs false

end Go.Proofs.Ytpabpeppgpeaoaa.Md
namespace Go.Proofs.Ytpabpeppgpeaoaa.Md
open Go.RowKit
set_option linter.unusedVariables false
set_option linter.unusedSimpArgs false

end Go.Proofs.Ytpabpeppgpeaoaa.Md
namespace Go.Proofs.Ytpabpeppgpeaoaa.Md
open Go.RowKit
set_option linter.unusedVariables false
set_option linter.unusedSimpArgs false

theorem Fr.ins {S : Nat → Prop} {w0 w : World} {l : List (Nat × TypeId × Array Value)} (h : Fr S w0 w l) {g : Nat} {T : TypeId} {cs : Array Value} (hg : w0.heap.size ≤ g) (hb : Box w g T cs) (hne : ∀ x ∈ l, x.1 ≠ g) : Fr S w0 w (l ++ [(g, T, cs)]) := by
  have key : ∀ (i : Nat) x, (l ++ [(g, T, cs)])[i]? = some x → l[i]? = some x ∨ (i = l.length ∧ x = (g, T, cs)) := by
    intro i x hi
    by_cases h1 : i < l.length
    · rw [List.getElem?_append_left h1] at hi; exact .inl hi
    · rw [List.getElem?_append_right (by omega)] at hi
      have h2 := (List.getElem?_eq_some_iff.1 hi).1
      simp at h2
      have h3 : i = l.length := by omega
      subst h3
      simp at hi
      exact .inr ⟨rfl, hi.symm⟩
  refine ⟨h.kept, fun i g1 T1 cs1 hi => ?_, fun i g1 T1 cs1 hi => ?_, fun i j g1 T1 cs1 T2 cs2 hi hj => ?_⟩
  · rcases key i _ hi with h1 | ⟨_, h1⟩
    · exact h.box i g1 T1 cs1 h1
    · cases h1; exact hb
  · rcases key i _ hi with h1 | ⟨_, h1⟩
    · exact h.low i g1 T1 cs1 h1
    · cases h1; exact hg
  · rcases key i _ hi with h1 | ⟨e1, h1⟩
    · rcases key j _ hj with h2 | ⟨e2, h2⟩
      · exact h.inj i j g1 T1 cs1 T2 cs2 h1 h2
      · cases h2; exact absurd rfl (hne _ (List.mem_of_getElem? h1))
    · rcases key j _ hj with h2 | ⟨e2, h2⟩
      · cases h1; exact absurd rfl (hne _ (List.mem_of_getElem? h2))
      · omega
/-- What is held, in memory; what of it is lent. -/
structure HdAt (w : World) (h : Hd) (bs : List Int) (es : List En) (ls : List La) (ps : List Pl) : Prop where
  b : RdB w h.b.d bs
  e : RdE w h.k.e es
  l : RdL w h.k.l ls
  p : RdP w h.r ps
  nb : h.b.d.l ≤ 140737488351232
  ne : h.k.e.l ≤ 3518437208780
  nl : h.k.l.l ≤ 2513169434843
  np : h.r.l ≤ 1099511627744
theorem HdAt.no {w w' : World} {h : Hd} {bs : List Int} {es : List En} {ls : List La} {ps : List Pl} (H : HdAt w h bs es ls ps) (hk : Kept No w w') : HdAt w' h bs es ls ps := ⟨H.b.no hk, H.e.no hk, H.l.no hk, H.p.no hk, H.nb, H.ne, H.nl, H.np⟩
end Go.Proofs.Ytpabpeppgpeaoaa.Md
namespace Go.Proofs.Ytpabpeppgpeaoaa.Md
open Go.RowKit
set_option linter.unusedVariables false
set_option linter.unusedSimpArgs false

end Go.Proofs.Ytpabpeppgpeaoaa.Md
namespace Go.Proofs.Ytpabpeppgpeaoaa.Md
open Go.RowKit
set_option linter.unusedVariables false
set_option linter.unusedSimpArgs false

theorem _root_.Go.Proofs.Ytpabpeppgpeaoaa.Box.ne {w : World} {g g' : Nat} {t t' : TypeId} {cs cs' : Array Value} (h : Box w g t cs) (h' : Box w g' t' cs') (ht : t ≠ t') : g ≠ g' := by
  intro e
  subst e
  unfold Box at h h'
  rw [h] at h'
  exact ht (by injection (Option.some.inj h'))
end Go.Proofs.Ytpabpeppgpeaoaa.Md
namespace Go.Proofs.Ytpabpeppgpeaoaa.Md
open Go.RowKit
set_option linter.unusedVariables false
set_option linter.unusedSimpArgs false
theorem Fr.of_no {S : Nat → Prop} {w0 w : World} {l : List (Nat × TypeId × Array Value)} (h : Fr No w0 w l) : Fr S w0 w l := ⟨h.kept.of_no, h.box, h.low, h.inj⟩
end Go.Proofs.Ytpabpeppgpeaoaa.Md
namespace Go.Proofs.Ytpabpeppgpeaoaa.Md
open Go.RowKit
set_option linter.unusedVariables false
set_option linter.unusedSimpArgs false

end Go.Proofs.Ytpabpeppgpeaoaa.Md
namespace Go.Proofs.Ytpabpeppgpeaoaa.Md
open Go.RowKit
set_option linter.unusedVariables false
set_option linter.unusedSimpArgs false

/-- A message in memory, and one that is lent. -/
structure MgAt (w : World) (m : Mg) (bs : List Int) (es : List En) (ls : List La) (cs : List Cm) : Prop where
  b : RdB w m.bl bs
  e : RdE w m.bk.e es
  l : RdL w m.bk.l ls
  c : RdC w m.cm cs
  nb : m.bl.l ≤ 140737488351232
  ne : m.bk.e.l ≤ 3518437208780
  nl : m.bk.l.l ≤ 2513169434843
  nc : m.cm.l ≤ 1759218604390
theorem MgAt.no {w w' : World} {m : Mg} {bs : List Int} {es : List En} {ls : List La} {cs : List Cm} (H : MgAt w m bs es ls cs) (hk : Kept No w w') : MgAt w' m bs es ls cs := ⟨H.b.no hk, H.e.no hk, H.l.no hk, H.c.no hk, H.nb, H.ne, H.nl, H.nc⟩
theorem RdC.src {w : World} {s : Sl} {cs : List Cm} (h : RdC w s cs) : ∀ (j : Nat) u, (cmL cs)[j]? = some u → ∃ ad, s.a = some ad ∧ w.cell? (ad.add j) = some u := by
  intro j u hj
  have hlt := (List.getElem?_eq_some_iff.1 hj).1
  rw [cmL_len] at hlt
  have hi : j / 9 < cs.length := by omega
  obtain ⟨b, off, e, hc⟩ := Cs.at h.row hi
  refine ⟨⟨b, off, none⟩, e, ?_⟩
  rw [addr_add]
  have h9 : j = j / 9 * 9 + j % 9 := by omega
  have hx : (cAt cs (j / 9)).cs[j % 9]? = some u := by
    have hl : (cAt cs (j / 9)).cs.length = 9 := rfl
    have h1 := flat_get 9 (cs.map Cm.cs) (cmL_c cs) (j / 9) (cAt cs (j / 9)).cs (by rw [List.getElem?_map, cAt_some hi]; rfl) (j % 9) _ (List.getElem?_eq_getElem (by rw [hl]; omega))
    rw [← h9] at h1
    rw [List.getElem?_eq_getElem (by rw [hl]; omega)]
    have h2 : (cmL cs)[j]? = _ := h1
    rw [hj] at h2
    exact h2.symm
  rw [show off + j = off + j / 9 * 9 + j % 9 by omega]
  exact hc _ _ hx
structure LmAt (W : World) (base : Nat) (m : Mg) (bs : List Int) (es : List En) (ls : List La) (cs : List Cm) (gb ge gl gc : Nat) : Prop where
  b : Box W gb 5 (u8L (tab (m.bl.l + 67) (lntB m.bl.l bs))).toArray
  e : Box W ge 124 (enL (tab (m.bk.e.l + 67) (lntE m.bk.e.l es))).toArray
  l : Box W gl 127 (laL (tab (m.bk.l.l + 67) (lntL m.bk.l.l ls))).toArray
  c : Box W gc 28 (cmL (tab (m.cm.l + 67) (lntC m.cm.l cs))).toArray
  lb : base ≤ gb
  le : base ≤ ge
  ll : base ≤ gl
  lc : base ≤ gc
theorem LmAt.no {W W' : World} {base : Nat} {m : Mg} {bs : List Int} {es : List En} {ls : List La} {cs : List Cm} {gb ge gl gc : Nat} (H : LmAt W base m bs es ls cs gb ge gl gc) (hk : Kept No W W') : LmAt W' base m bs es ls cs gb ge gl gc := ⟨H.b.no hk, H.e.no hk, H.l.no hk, H.c.no hk, H.lb, H.le, H.ll, H.lc⟩
end Go.Proofs.Ytpabpeppgpeaoaa.Md
namespace Go.Proofs.Ytpabpeppgpeaoaa.Md
open Go.RowKit
set_option linter.unusedVariables false
set_option linter.unusedSimpArgs false

end Go.Proofs.Ytpabpeppgpeaoaa.Md
namespace Go.Proofs.Ytpabpeppgpeaoaa.Md
open Go.RowKit
set_option linter.unusedVariables false
set_option linter.unusedSimpArgs false

/-- What a function holds while it runs: blocks of its own, and such that it may write. -/
structure Fq (S : Nat → Prop) (w0 w : World) (l : List (Nat × TypeId × Array Value)) : Prop where
  kept : Kept S w0 w
  box : ∀ (i : Nat) g T cs, l[i]? = some (g, T, cs) → Box w g T cs
  low : ∀ (i : Nat) g T cs, l[i]? = some (g, T, cs) → w0.heap.size ≤ g ∨ S g
  inj : ∀ (i j : Nat) g T cs T' cs', l[i]? = some (g, T, cs) → l[j]? = some (g, T', cs') → i = j
theorem kept_row {S : Nat → Prop} {a w : World} (h : Kept S a w) {g : Nat} (hg : a.heap.size ≤ g ∨ S g) (cs : Array Value) : Kept S a (w.setRow g cs) :=
  hg.elim (fun e => h.newRowS e cs) (fun e => h.inRow e cs)
theorem Fq.start (S : Nat → Prop) (w : World) : Fq S w w [] := ⟨Kept.refl S w, by simp, by simp, by simp⟩
theorem Fq.drew {S : Nat → Prop} {w0 w : World} {l : List (Nat × TypeId × Array Value)} (h : Fq S w0 w l) : Fq S w0 w.drew l := ⟨h.kept.drew, h.box, h.low, h.inj⟩
theorem Fq.alloc {S : Nat → Prop} {w0 w : World} {l : List (Nat × TypeId × Array Value)} (h : Fq S w0 w l) (T : TypeId) (cs : Array Value) : Fq S w0 (w.alloc (.cells cs T)) (l ++ [(w.heap.size, T, cs)]) := by
  refine ⟨h.kept.alloc _, ?_, ?_, ?_⟩
  · intro i g T' cs' hi
    rw [List.getElem?_append] at hi
    split at hi
    · exact (h.box i g T' cs' hi).alloc _
    · obtain ⟨rfl, rfl, rfl⟩ : w.heap.size = g ∧ T = T' ∧ cs = cs' := by
        have := List.mem_of_getElem? hi
        simpa [eq_comm] using this
      exact Box.new _ _ _
  · intro i g T' cs' hi
    rw [List.getElem?_append] at hi
    split at hi
    · exact h.low i g T' cs' hi
    · obtain ⟨rfl, rfl, rfl⟩ : w.heap.size = g ∧ T = T' ∧ cs = cs' := by
        have := List.mem_of_getElem? hi
        simpa [eq_comm] using this
      exact .inl h.kept.size
  · intro i j g T1 cs1 T2 cs2 hi hj
    rw [List.getElem?_append] at hi hj
    split at hi <;> split at hj
    · exact h.inj i j g T1 cs1 T2 cs2 hi hj
    · have h1 := (h.box i g T1 cs1 hi).lt
      have h2 : g = w.heap.size := by have := List.mem_of_getElem? hj; simp at this; exact this.1
      omega
    · have h1 := (h.box j g T2 cs2 hj).lt
      have h2 : g = w.heap.size := by have := List.mem_of_getElem? hi; simp at this; exact this.1
      omega
    · have h1 := (List.getElem?_eq_some_iff.1 hi).1
      have h2 := (List.getElem?_eq_some_iff.1 hj).1
      simp at h1 h2
      omega
theorem Fq.set {S : Nat → Prop} {w0 w : World} {l : List (Nat × TypeId × Array Value)} (h : Fq S w0 w l) (i : Nat) {g : Nat} {T : TypeId} {cs : Array Value} (hi : l[i]? = some (g, T, cs)) (cs' : Array Value) : Fq S w0 (w.setRow g cs') (l.set i (g, T, cs')) := by
  have hlt := (List.getElem?_eq_some_iff.1 hi).1
  have key : ∀ (j : Nat) g1 T1 cs1, (l.set i (g, T, cs'))[j]? = some (g1, T1, cs1) → (j = i ∧ g1 = g ∧ T1 = T ∧ cs1 = cs') ∨ (j ≠ i ∧ l[j]? = some (g1, T1, cs1)) := by
    intro j g1 T1 cs1 hj
    rw [List.getElem?_set] at hj
    by_cases e : i = j
    · subst e
      simp [hlt] at hj
      exact .inl ⟨rfl, hj.1.symm, hj.2.1.symm, hj.2.2.symm⟩
    · simp [e] at hj
      exact .inr ⟨fun h => e h.symm, hj⟩
  refine ⟨kept_row h.kept (h.low i g T cs hi) _, ?_, ?_, ?_⟩
  · intro j g1 T1 cs1 hj
    rcases key j g1 T1 cs1 hj with ⟨rfl, rfl, rfl, rfl⟩ | ⟨hne, hj2⟩
    · exact (h.box _ _ _ _ hi).setRow _
    · refine (h.box j g1 T1 cs1 hj2).rowNe (fun e => hne ?_) _
      subst e
      exact h.inj j i _ _ _ _ _ hj2 hi
  · intro j g1 T1 cs1 hj
    rcases key j g1 T1 cs1 hj with ⟨rfl, rfl, rfl, rfl⟩ | ⟨hne, hj⟩
    · exact h.low _ _ _ _ hi
    · exact h.low j g1 T1 cs1 hj
  · intro j k g1 T1 cs1 T2 cs2 hj hk
    rcases key j g1 T1 cs1 hj with ⟨rfl, rfl, rfl, rfl⟩ | ⟨hne, hj2⟩ <;> rcases key k g1 T2 cs2 hk with ⟨rfl, h1, h2, h3⟩ | ⟨hne', hk2⟩
    · rfl
    · exact h.inj _ _ _ _ _ _ _ hi hk2
    · subst h1; exact h.inj _ _ _ _ _ _ _ hj2 hi
    · exact h.inj _ _ _ _ _ _ _ hj2 hk2
theorem Fq.no {S : Nat → Prop} {w0 w w' : World} {l : List (Nat × TypeId × Array Value)} (h : Fq S w0 w l) (hk : Kept No w w') : Fq S w0 w' l :=
  ⟨h.kept.thenNo hk, fun i g T cs hi => (h.box i g T cs hi).kept hk (fun e => e), h.low, h.inj⟩
theorem Fq.ne {S : Nat → Prop} {w0 w : World} {l : List (Nat × TypeId × Array Value)} (h : Fq S w0 w l) (i j : Nat) {g g' : Nat} {T T' : TypeId} {cs cs' : Array Value} (hi : l[i]? = some (g, T, cs)) (hj : l[j]? = some (g', T', cs')) (hne : i ≠ j) : g ≠ g' := by
  rintro rfl
  exact hne (h.inj i j _ _ _ _ _ hi hj)
theorem Fq.put {S : Nat → Prop} {w0 w w' : World} {l : List (Nat × TypeId × Array Value)} (h : Fq S w0 w l) (i : Nat) {g : Nat} {T : TypeId} {cs cs' : Array Value} (hi : l[i]? = some (g, T, cs)) (hk : Kept (Only g) w w') (hb : Box w' g T cs') : Fq S w0 w' (l.set i (g, T, cs')) := by
  have hlt := (List.getElem?_eq_some_iff.1 hi).1
  have key : ∀ (j : Nat) g1 T1 cs1, (l.set i (g, T, cs'))[j]? = some (g1, T1, cs1) → (j = i ∧ g1 = g ∧ T1 = T ∧ cs1 = cs') ∨ (j ≠ i ∧ l[j]? = some (g1, T1, cs1)) := by
    intro j g1 T1 cs1 hj
    rw [List.getElem?_set] at hj
    by_cases e : i = j
    · subst e
      simp [hlt] at hj
      exact .inl ⟨rfl, hj.1.symm, hj.2.1.symm, hj.2.2.symm⟩
    · simp [e] at hj
      exact .inr ⟨fun h => e h.symm, hj⟩
  refine ⟨h.kept.trans hk (fun _ e => e) (fun k hk' e => by
    have e : k = g := e
    rcases h.low i g T cs hi with h1 | h1
    · omega
    · rw [e]; exact h1), ?_, ?_, ?_⟩
  · intro j g1 T1 cs1 hj
    rcases key j g1 T1 cs1 hj with ⟨rfl, rfl, rfl, rfl⟩ | ⟨hne, hj2⟩
    · exact hb
    · refine (h.box j g1 T1 cs1 hj2).kept hk (fun e => hne ?_)
      have e : g1 = g := e
      subst e
      exact h.inj j i _ _ _ _ _ hj2 hi
  · intro j g1 T1 cs1 hj
    rcases key j g1 T1 cs1 hj with ⟨rfl, rfl, rfl, rfl⟩ | ⟨hne, hj⟩
    · exact h.low _ _ _ _ hi
    · exact h.low j g1 T1 cs1 hj
  · intro j k g1 T1 cs1 T2 cs2 hj hk
    rcases key j g1 T1 cs1 hj with ⟨rfl, rfl, rfl, rfl⟩ | ⟨hne, hj2⟩ <;> rcases key k g1 T2 cs2 hk with ⟨rfl, h1, h2, h3⟩ | ⟨hne', hk2⟩
    · rfl
    · exact h.inj _ _ _ _ _ _ _ hi hk2
    · subst h1; exact h.inj _ _ _ _ _ _ _ hj2 hi
    · exact h.inj _ _ _ _ _ _ _ hj2 hk2
theorem Fq.add {S : Nat → Prop} {w0 w w' : World} {l : List (Nat × TypeId × Array Value)} (h : Fq S w0 w l) {g : Nat} {T : TypeId} {cs : Array Value} (hk : Kept No w w') (hg : w.heap.size ≤ g) (hb : Box w' g T cs) : Fq S w0 w' (l ++ [(g, T, cs)]) := by
  have h1 := h.no hk
  refine ⟨h1.kept, ?_, ?_, ?_⟩
  · intro i g1 T1 cs1 hi
    rw [List.getElem?_append] at hi
    split at hi
    · exact h1.box i g1 T1 cs1 hi
    · obtain ⟨rfl, rfl, rfl⟩ : g = g1 ∧ T = T1 ∧ cs = cs1 := by
        have := List.mem_of_getElem? hi
        simpa [eq_comm] using this
      exact hb
  · intro i g1 T1 cs1 hi
    rw [List.getElem?_append] at hi
    split at hi
    · exact h1.low i g1 T1 cs1 hi
    · obtain ⟨rfl, rfl, rfl⟩ : g = g1 ∧ T = T1 ∧ cs = cs1 := by
        have := List.mem_of_getElem? hi
        simpa [eq_comm] using this
      exact .inl (Nat.le_trans h.kept.size hg)
  · intro i j g1 T1 cs1 T2 cs2 hi hj
    rw [List.getElem?_append] at hi hj
    split at hi <;> split at hj
    · exact h.inj i j g1 T1 cs1 T2 cs2 hi hj
    · have q1 := (h.box i g1 T1 cs1 hi).lt
      have q2 : g1 = g := by have := List.mem_of_getElem? hj; simp at this; exact this.1
      omega
    · have q1 := (h.box j g1 T2 cs2 hj).lt
      have q2 : g1 = g := by have := List.mem_of_getElem? hi; simp at this; exact this.1
      omega
    · have q1 := (List.getElem?_eq_some_iff.1 hi).1
      have q2 := (List.getElem?_eq_some_iff.1 hj).1
      simp at q1 q2
      omega
theorem Fq.front {S : Nat → Prop} {w0 w : World} {l m : List (Nat × TypeId × Array Value)} (h : Fq S w0 w (l ++ m)) : Fq S w0 w l :=
  ⟨h.kept, fun i g T cs hi => h.box i g T cs (List.getElem?_append_left (List.getElem?_eq_some_iff.1 hi).1 ▸ hi), fun i g T cs hi => h.low i g T cs (List.getElem?_append_left (List.getElem?_eq_some_iff.1 hi).1 ▸ hi),
    fun i j g T cs T' cs' hi hj => h.inj i j g T cs T' cs' (List.getElem?_append_left (List.getElem?_eq_some_iff.1 hi).1 ▸ hi) (List.getElem?_append_left (List.getElem?_eq_some_iff.1 hj).1 ▸ hj)⟩
theorem Fq.app {S : Nat → Prop} {w0 w w' : World} {l : List (Nat × TypeId × Array Value)} {T : TypeId} {c cap n : Nat} {sa : Option Addr} {vs : List Value} (h : Fq S w0 w l) (ho : Own T c w w0.heap.size sa cap n vs) (hk : Kept (At sa) w w') (hT : ∀ x ∈ l, x.2.1 ≠ T) : Fq S w0 w' l :=
  ⟨h.kept.trans hk (fun _ e => e) (fun k hk' e => by have := ho.base e; omega), fun i g T' cs hi => (h.box i g T' cs hi).kept hk (fun e => ho.notBox (h.box i g T' cs hi) (fun e => hT _ (List.mem_of_getElem? hi) e.symm) e), h.low, h.inj⟩
/-- The reference's proposer, and its tally. -/
structure Rv where
  cl : Int
  op : Int
  ky : Ky
  g : Sl
  mine : Cm
  ch : Cm
  n : Int
  rd : Int
  nt : Int
  ph : Int
  an : Sl
  co : Sl
  he : Sl
  cm : Sl
  nk : Bool
  de : Bool
  tr : Bool
  wo : Bool
  dc : Cm
  bk : Bv
structure Rt where
  g : Sl
  vs : Sl
  hs : Sl
  nd : Int
def Rv.cs (x : Rv) : List Value := [.int .i64 x.cl, .int .i64 x.op] ++ (x.ky.cs ++ ([x.g.v] ++ (x.mine.cs ++ (x.ch.cs ++ ([.int .i64 x.n, .int .i64 x.rd, .int .i64 x.nt, .int .i64 x.ph, x.an.v, x.co.v, x.he.v, x.cm.v, .bool x.nk, .bool x.de, .bool x.tr, .bool x.wo] ++ (x.dc.cs ++ x.bk.cs))))))
def Rv.cells (x : Rv) : Array Value := x.cs.toArray
def Rt.cs (x : Rt) : List Value := [x.g.v, x.vs.v, x.hs.v, .int .i64 x.nd]
def Rt.cells (x : Rt) : Array Value := x.cs.toArray
theorem Rv.oneL (x : Rv) : ∀ v ∈ x.cs, v.oneCell' = true := by simp [Rv.cs, Ky.cs, Cm.cs, Bv.cs, Value.oneCell', Sl.v]
theorem Rt.oneL (x : Rt) : ∀ v ∈ x.cs, v.oneCell' = true := by simp [Rt.cs, Value.oneCell', Sl.v]
def boL (l : List Bool) : List Value := (l.map (fun b => [Value.bool b])).flatten
def spL (l : List Sp) : List Value := (l.map Sp.cs).flatten
def inL (l : List Int) : List Value := (l.map (fun b => [Value.int .i64 b])).flatten
theorem S3 : (Try.prog.info? 3).map (·.size) = some 1 := by kernel_rfl
theorem S23 : (Try.prog.info? 23).map (·.size) = some 4 := by kernel_rfl
theorem S24 : (Try.prog.info? 24).map (·.size) = some 1 := by kernel_rfl
theorem S28 : (Try.prog.info? 28).map (·.size) = some 9 := by kernel_rfl
theorem S37 : (Try.prog.info? 37).map (·.size) = some 2 := by kernel_rfl
theorem S39 : (Try.prog.info? 39).map (·.size) = some 2 := by kernel_rfl
theorem S45 : (Try.prog.info? 45).map (·.size) = some 1 := by kernel_rfl
theorem S47 : (Try.prog.info? 47).map (·.size) = some 30 := by kernel_rfl
theorem S66 : (Try.prog.info? 66).map (·.size) = some 1 := by kernel_rfl
theorem U23 : Try.prog.underlying 23 = some (.struct (Try.prog.fieldsOf 23)) := by kernel_rfl
theorem U28 : Try.prog.underlying 28 = some (.struct (Try.prog.fieldsOf 28)) := by kernel_rfl
theorem U37 : Try.prog.underlying 37 = some (.struct (Try.prog.fieldsOf 37)) := by kernel_rfl
theorem U39 : Try.prog.underlying 39 = some (.struct (Try.prog.fieldsOf 39)) := by kernel_rfl
theorem U47 : Try.prog.underlying 47 = some (.struct (Try.prog.fieldsOf 47)) := by kernel_rfl
theorem U3 : Try.prog.underlying 3 = some (.int .i64) := by kernel_rfl
theorem U4 : Try.prog.underlying 4 = some .bool := by kernel_rfl
theorem U24 : Try.prog.underlying 24 = some (.slice 3) := by kernel_rfl
theorem E24 : Try.prog.underlying 24 = some (.slice (Try.prog.elem 24)) := by kernel_rfl
theorem F24 : (Try.prog.info? (Try.prog.elem 24)).map (·.size) = some 1 := by kernel_rfl
theorem U45 : Try.prog.underlying 45 = some (.slice 28) := by kernel_rfl
theorem E45 : Try.prog.underlying 45 = some (.slice (Try.prog.elem 45)) := by kernel_rfl
theorem F45 : (Try.prog.info? (Try.prog.elem 45)).map (·.size) = some 9 := by kernel_rfl
theorem U66 : Try.prog.underlying 66 = some (.slice 47) := by kernel_rfl
theorem E66 : Try.prog.underlying 66 = some (.slice (Try.prog.elem 66)) := by kernel_rfl
theorem F66 : (Try.prog.info? (Try.prog.elem 66)).map (·.size) = some 30 := by kernel_rfl
theorem Z28 : (Try.prog.info? 28).bind (·.zero) = some (.agg cZ.cells) := by kernel_rfl
theorem Z37 : (Try.prog.info? 37).bind (·.zero) = some (.agg adZ.cells) := by kernel_rfl
theorem Z47 : (Try.prog.info? 47).bind (·.zero) = some (.agg mgZ.cells) := by kernel_rfl
theorem I3 : (Try.prog.info? 3).map (fun i => (i.zero, i.size, i.bytes)) = some (some (.int .i64 0), 1, 8) := by kernel_rfl
theorem I47 : (Try.prog.info? 47).map (fun i => (i.zero, i.size, i.bytes)) = some (some (.agg mgZ.cells), 30, 312) := by kernel_rfl
theorem make_in (w : World) (n : Nat) (hb : n ≤ 100000000) : (Instr.makeSlice 24 (.int .i64 (n : Int)) (.int .i64 (n : Int))).run Try.prog w = .ok (.slice (some ⟨w.heap.size, 0, none⟩) n n) (w.alloc (.cells (inL (List.replicate n 0)).toArray 3)) := by
  cases hq : Try.prog.info? 3 with
  | none => have := I3; simp [hq] at this
  | some i =>
    have h1 := I3
    simp only [hq, Option.map_some, Option.some.injEq, Prod.mk.injEq] at h1
    obtain ⟨hz, hs, hby⟩ := h1
    have h := run_make (P := Try.prog) w 24 3 i (.int .i64 0) U24 hq hz .i64 .i64 (n : Int) (n : Int) (by omega) (by omega) (by rw [hby]; omega) (by omega)
    rw [h, hs, show inL (List.replicate n 0) = ((List.replicate n [Value.int .i64 0]).flatten) by simp [inL]]
    simp only [Int.toNat_natCast]
    have hm := made_row 1 [Value.int .i64 0] rfl (by omega) n
    rw [← hm]
    rfl

/-- A list of numbers of one's own. -/
structure OwI (w : World) (base : Nat) (s : Sl) (zs : List Int) : Prop where
  own : Own 3 1 w base s.a s.k s.l (zs.map (Value.int .i64))
  len : zs.length = s.l
theorem OwI.kept {S : Nat → Prop} {w w' : World} {base : Nat} {s : Sl} {es : List Int} (h : OwI w base s es) (hk : Kept S w w') (hS : ∀ k, At s.a k → ¬ S k) : OwI w' base s es := ⟨h.own.kept hk hS, h.len⟩
theorem OwI.no {w w' : World} {base : Nat} {s : Sl} {es : List Int} (h : OwI w base s es) (hk : Kept No w w') : OwI w' base s es := h.kept hk (fun _ _ e => e)
theorem OwI.at {w : World} {base : Nat} {s : Sl} {zs : List Int} (h : OwI w base s zs) {i : Nat} (hi : i < s.l) : ∃ g, s.a = some ⟨g, 0, none⟩ ∧ w.cell? ⟨g, 0 + i * 1, none⟩ = some (.int .i64 (zs[i]?.getD 0)) := by
  obtain ⟨b, off, e, hc⟩ := h.own.nums h.len i (by rw [h.len]; exact hi)
  rcases Own.cases h.own (by simp [h.len]) with ⟨ha, _⟩ | ⟨g, ha, _⟩
  · rw [ha] at e; cases e
  · rw [ha] at e
    cases e
    exact ⟨b, ha, by rw [Nat.mul_one]; exact hc⟩

end Go.Proofs.Ytpabpeppgpeaoaa.Md
namespace Go.Proofs.Ytpabpeppgpeaoaa.Md
open Go.RowKit
set_option linter.unusedVariables false
set_option linter.unusedSimpArgs false

/-- The reference's proposer. -/
structure Rs where
  cl : Int
  op : Int
  ky : Ky
  zs : List Int
  mine : Cm
  ch : Cm
  n : Int
  rd : Int
  nt : Int
  ph : Int
  qa : List Bool
  qc : List Bool
  qh : List Sp
  qm : List Cm
  nk : Bool
  de : Bool
  tr : Bool
  wo : Bool
  dc : Cm
  bk : Bv
def rvOf (x : Rs) (g : Sl) (ba bc bh bm : Nat) : Rv := ⟨x.cl, x.op, x.ky, g, x.mine, x.ch, x.n, x.rd, x.nt, x.ph, ⟨some ⟨ba, 0, none⟩, g.l, g.l⟩, ⟨some ⟨bc, 0, none⟩, g.l, g.l⟩, ⟨some ⟨bh, 0, none⟩, g.l, g.l⟩, ⟨some ⟨bm, 0, none⟩, g.l, g.l⟩, x.nk, x.de, x.tr, x.wo, x.dc, x.bk⟩
structure RfB (w : World) (J : Nat → Prop) (r : Nat) (x : Rs) (g : Sl) (ba bc bh bm : Nat) : Prop where
  fq : Fq J w w [(r, 56, (rvOf x g ba bc bh bm).cells), (ba, 4, (boL x.qa).toArray), (bc, 4, (boL x.qc).toArray), (bh, 39, (spL x.qh).toArray), (bm, 28, (cmL x.qm).toArray)]
  gr : OwI w 0 g x.zs
  gj : ∀ k, At g.a k → J k
  la : x.qa.length = g.l
  lc : x.qc.length = g.l
  lh : x.qh.length = g.l
  lm : x.qm.length = g.l
  hn : g.l ≤ 2000000
/-- It in memory, its blocks within J. -/
def RfAt (w : World) (J : Nat → Prop) (r : Nat) (x : Rs) : Prop := ∃ g ba bc bh bm, RfB w J r x g ba bc bh bm
theorem Fq.again {S S' : Nat → Prop} {w0 w : World} {l : List (Nat × TypeId × Array Value)} (h : Fq S w0 w l) (hS : ∀ k, S k ∨ w0.heap.size ≤ k → S' k) : Fq S' w w l :=
  ⟨Kept.refl _ _, h.box, fun i g T cs hi => .inr (hS g (h.low i g T cs hi).symm), h.inj⟩
theorem Fq.sub {S : Nat → Prop} {w0 w : World} {l l' : List (Nat × TypeId × Array Value)} (h : Fq S w0 w l) (f : Nat → Nat) (hl : ∀ (i : Nat) x, l'[i]? = some x → l[f i]? = some x) (hf : ∀ i j, i < l'.length → j < l'.length → f i = f j → i = j) : Fq S w0 w l' :=
  ⟨h.kept, fun i g T cs hi => h.box _ g T cs (hl i _ hi), fun i g T cs hi => h.low _ g T cs (hl i _ hi), fun i j g T cs T' cs' hi hj => hf i j (List.getElem?_eq_some_iff.1 hi).1 (List.getElem?_eq_some_iff.1 hj).1 (h.inj _ _ _ _ _ _ _ (hl i _ hi) (hl j _ hj))⟩
end Go.Proofs.Ytpabpeppgpeaoaa.Md
namespace Go.Proofs.Ytpabpeppgpeaoaa.Md
open Go.RowKit
set_option linter.unusedVariables false
set_option linter.unusedSimpArgs false

def Jn (J : Nat → Prop) (w : World) : Nat → Prop := fun k => J k ∨ w.heap.size ≤ k
theorem RfB.mk' {J : Nat → Prop} {w w' : World} {r : Nat} {x : Rs} {g : Sl} {ba bc bh bm : Nat} (hf : Fq J w w' [(r, 56, (rvOf x g ba bc bh bm).cells), (ba, 4, (boL x.qa).toArray), (bc, 4, (boL x.qc).toArray), (bh, 39, (spL x.qh).toArray), (bm, 28, (cmL x.qm).toArray)]) (hg : OwI w' 0 g x.zs) (hj : ∀ k, At g.a k → J k) (la : x.qa.length = g.l) (lc : x.qc.length = g.l) (lh : x.qh.length = g.l) (lm : x.qm.length = g.l) (hn : g.l ≤ 2000000) : RfAt w' (Jn J w) r x :=
  ⟨g, ba, bc, bh, bm, hf.again (fun k e => e), hg, fun k e => .inl (hj k e), la, lc, lh, lm, hn⟩
def cntB (l : List Bool) : Nat := l.countP (fun b => b)
end Go.Proofs.Ytpabpeppgpeaoaa.Md
namespace Go.Proofs.Ytpabpeppgpeaoaa.Md
open Go.RowKit
set_option linter.unusedVariables false
set_option linter.unusedSimpArgs false

section
variable {ops : Array Oper} {rest : List Oper} {o : Oper} {a : Act} {w : World} {Q : Exit → Act → World → Prop} {md : Region.Mode} {S : World → Prop}
end
theorem RfB.no {w w' : World} {J : Nat → Prop} {r : Nat} {x : Rs} {g : Sl} {ba bc bh bm : Nat} (h : RfB w J r x g ba bc bh bm) (hk : Kept No w w') : RfB w' J r x g ba bc bh bm :=
  ⟨⟨Kept.refl _ _, fun i g T cs hi => (h.fq.box i g T cs hi).kept hk (fun e => e), fun i g T cs hi => .inr ((h.fq.low i g T cs hi).elim (fun e => absurd (h.fq.box i g T cs hi).lt (by omega)) id), h.fq.inj⟩, h.gr.no hk, h.gj, h.la, h.lc, h.lh, h.lm, h.hn⟩
def mgL (l : List Mg) : List Value := (l.map Mg.cs).flatten
theorem mgL_app (a b : List Mg) : mgL (a ++ b) = mgL a ++ mgL b := by simp [mgL]
theorem mgL_1 (a : Mg) : mgL [a] = a.cs := by simp [mgL]
/-- Messages told: new memory. -/
structure OwM (w : World) (base : Nat) (s : Sl) (l : List Mg) : Prop where
  own : Own 47 30 w base s.a s.k s.l (mgL l)
  len : l.length = s.l
theorem OwM.kept {S : Nat → Prop} {w w' : World} {base : Nat} {s : Sl} {es : List Mg} (h : OwM w base s es) (hk : Kept S w w') (hS : ∀ k, At s.a k → ¬ S k) : OwM w' base s es := ⟨h.own.kept hk hS, h.len⟩
theorem OwM.no {w w' : World} {base : Nat} {s : Sl} {es : List Mg} (h : OwM w base s es) (hk : Kept No w w') : OwM w' base s es := h.kept hk (fun _ _ e => e)
theorem OwM.nil (w : World) (base : Nat) : OwM w base slZ [] := ⟨Own.nil _ _ _ _, rfl⟩
end Go.Proofs.Ytpabpeppgpeaoaa.Md
namespace Go.Proofs.Ytpabpeppgpeaoaa.Md
open Go.RowKit
set_option linter.unusedVariables false
set_option linter.unusedSimpArgs false

theorem RfAt.wide {J J' : Nat → Prop} {w : World} {r : Nat} {x : Rs} (h : RfAt w J r x) (hS : ∀ k, J k → J' k) : RfAt w J' r x := by
  obtain ⟨g, ba, bc, bh, bm, h⟩ := h
  exact ⟨g, ba, bc, bh, bm, ⟨Kept.refl _ _, h.fq.box, fun i g T cs hi => .inr ((h.fq.low i g T cs hi).elim (fun e => absurd (h.fq.box i g T cs hi).lt (by omega)) (hS g)), h.fq.inj⟩, h.gr, fun k e => hS k (h.gj k e), h.la, h.lc, h.lh, h.lm, h.hn⟩
theorem Jn.sub {J : Nat → Prop} {w W : World} (h : w.heap.size ≤ W.heap.size) {k : Nat} (e : Jn (Jn J w) W k) : Jn J w k := by
  rcases e with e | e
  · exact e
  · exact .inr (Nat.le_trans h e)
theorem kept_jn {J : Nat → Prop} {w W w' : World} (h : Kept J w W) (k : Kept (Jn J w) W w') : Kept J w w' :=
  h.trans k (fun _ e => e) (fun i hi e => e.elim id (fun l => absurd hi (by omega)))
/-- What a call of the reference tells and leaves. -/
def RfOut (w : World) (J : Nat → Prop) (r : Nat) (y : Rs × List Mg) (e : Ending) (w' : World) : Prop := ∃ s : Sl, e = .returned s.v ∧ OwM w' w.heap.size s y.2 ∧ RfAt w' (Jn J w) r y.1 ∧ Kept J w w'
theorem RfOut.behind {J : Nat → Prop} {w W w' : World} {r : Nat} {y : Rs × List Mg} {e : Ending} (hk : Kept J w W) (h : RfOut W (Jn J w) r y e w') : RfOut w J r y e w' := by
  obtain ⟨s, he, hO, hR, hk'⟩ := h
  exact ⟨s, he, ⟨hO.own.lower hk.size, hO.len⟩, hR.wide (fun k e => Jn.sub hk.size e), kept_jn hk hk'⟩
theorem b_gtr (a b : Int) (w : World) : (binOp .gtr 3 (.int .i64 a) (.int .i64 b)).run Try.prog w = .ok (.bool (decide (b < a))) w := rfl
end Go.Proofs.Ytpabpeppgpeaoaa.Md
namespace Go.Proofs.Ytpabpeppgpeaoaa.Md
open Go.RowKit
set_option linter.unusedVariables false
set_option linter.unusedSimpArgs false

theorem RfB.frame {J : Nat → Prop} {w W : World} {r : Nat} {x : Rs} {g : Sl} {ba bc bh bm : Nat} (h : RfB W (Jn J w) r x g ba bc bh bm) (hk : Kept J w W) : Fq J w W [(r, 56, (rvOf x g ba bc bh bm).cells), (ba, 4, (boL x.qa).toArray), (bc, 4, (boL x.qc).toArray), (bh, 39, (spL x.qh).toArray), (bm, 28, (cmL x.qm).toArray)] :=
  ⟨hk, h.fq.box, fun i g T cs hi => (h.fq.low i g T cs hi).elim (fun e => absurd (h.fq.box i g T cs hi).lt (by omega)) (fun e => e.symm), h.fq.inj⟩
end Go.Proofs.Ytpabpeppgpeaoaa.Md
namespace Go.Proofs.Ytpabpeppgpeaoaa.Md
open Go.RowKit
set_option linter.unusedVariables false
set_option linter.unusedSimpArgs false

structure RdI (w : World) (s : Sl) (zs : List Int) : Prop where
  nums : Nums .i64 w s.a zs
  len : zs.length = s.l
theorem RdI.at {w : World} {s : Sl} {zs : List Int} (h : RdI w s zs) {i : Nat} (hi : i < s.l) : ∃ gb go, s.a = some ⟨gb, go, none⟩ ∧ w.cell? ⟨gb, go + i * 1, none⟩ = some (.int .i64 (zs[i]?.getD 0)) := by
  obtain ⟨b, off, e, hc⟩ := h.nums i (by rw [h.len]; exact hi)
  exact ⟨b, off, e, by rw [Nat.mul_one]; exact hc⟩
theorem RdI.no {w w' : World} {s : Sl} {zs : List Int} (h : RdI w s zs) (hk : Kept No w w') : RdI w' s zs := ⟨h.nums.no hk, h.len⟩
theorem OwI.rd {w : World} {b : Nat} {s : Sl} {zs : List Int} (h : OwI w b s zs) : RdI w s zs := ⟨h.own.nums h.len, h.len⟩
end Go.Proofs.Ytpabpeppgpeaoaa.Md
namespace Go.Proofs.Ytpabpeppgpeaoaa
open Go.RowKit Gt
set_option linter.unusedVariables false
set_option linter.unusedSimpArgs false

/-- A list without doubles. -/
theorem lit_nodup (l : List Int) (h : l.Nodup) (i j : Nat) (z : Int) (hi : l[i]? = some z) (hj : l[j]? = some z) : i = j :=
  (List.getElem?_inj (List.getElem?_eq_some_iff.1 hi).1 h).1 (hi.trans hj.symm)
theorem uq_self_gen : ∀ (l acc : List Int), (acc ++ l).Nodup → l.foldl (fun acc n => if n ∈ acc then acc else acc ++ [n]) acc = acc ++ l
  | [], acc, _ => by simp
  | z :: l, acc, h => by
    have hz : z ∉ acc := by
      intro e
      have := List.nodup_append.1 h
      exact this.2.2 z e z (by simp) rfl
    rw [List.foldl_cons, if_neg hz, uq_self_gen l (acc ++ [z]) (by simpa using h)]
    simp
theorem uq_self {l : List Int} (h : l.Nodup) : uq l = l := by
  unfold uq
  rw [uq_self_gen l [] (by simpa using h)]
  rfl
theorem cnt_lt {zs : List Int} {X : TS Unit} (gx : X.g = zs) {z : Int} (hz : z ∈ zs) (hv : (X.v z).isSome = false) : cnt X < zs.length := by
  unfold cnt
  rw [gx]
  rcases Nat.lt_or_ge (zs.countP fun n => (X.v n).isSome) zs.length with h | h
  · exact h
  · have h1 := List.countP_le_length (p := fun n => (X.v n).isSome) (l := zs)
    have h2 := (List.countP_eq_length.1 (Nat.le_antisymm h1 h)) z hz
    rw [hv] at h2
    cases h2

end Go.Proofs.Ytpabpeppgpeaoaa
