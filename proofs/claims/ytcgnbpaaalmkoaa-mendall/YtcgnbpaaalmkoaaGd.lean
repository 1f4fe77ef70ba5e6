import Derived.Test.YtcgnbpaaalmkoaaGc
namespace Go.Proofs.Ytcgnbpaaalmkoaa
open Go.RowKit
set_option linter.unusedVariables false
set_option linter.unusedSimpArgs false


theorem less_irr (s : Sp) : lessB s s = false := by unfold lessB; simp
theorem less_as {a b : Sp} (h : lessB a b = true) : lessB b a = false := by
  unfold lessB at h ⊢
  by_cases e : a.n = b.n
  · rw [if_pos (by simpa using e)] at h
    rw [if_pos (by simpa using e.symm)]
    have := of_decide_eq_true h
    exact decide_eq_false (by omega)
  · rw [if_neg (by simpa using e)] at h
    rw [if_neg (by simpa using fun h => e h.symm)]
    have := of_decide_eq_true h
    exact decide_eq_false (by omega)
/-- What stands behind j of the changes of a turn. -/
structure InW (a : Hd) (ap : List Pl) (Y : List Ch) (n : Nat) (bs : List Int) (es : List En) (ls : List La) (j : Nat) (a2 : Hd) (ap2 : List Pl) : Prop where
  kn : ∀ i, knowB a ap i = true → knowB a2 ap2 i = true
  ch : ∀ i', i' < j → ∀ i, ChK (hAt Y i') i → knowB a2 ap2 i = true
  ok : ∀ i, j ≤ i → i < n → ChW a2.k.up a2.b.s (hAt Y i) bs es ls
  one : (∃ i, i < n ∧ ((hAt Y i).ky.k == 1 || (hAt Y i).ky.k == 2) = true) → n = 1
  st : a2.b.s = a.b.s ∨ (∃ i', i' < j ∧ ((hAt Y i').ky.k == 1) = true ∧ a2.b.s = (hAt Y i').b.s ∧ lessB a.b.s (hAt Y i').b.s = true)
  sb : ∀ i', i' < j → ((hAt Y i').ky.k == 1) = true → a2.b.s = (hAt Y i').b.s
theorem InW.start {a : Hd} {ap : List Pl} {Y : List Ch} {n : Nat} {bs : List Int} {es : List En} {ls : List La} (h : LsW a.k.up a.b.s Y n bs es ls) : InW a ap Y n bs es ls 0 a ap :=
  ⟨fun i h => h, fun i' h => by omega, fun i _ hi => h.1 i hi, h.2, .inl rfl, fun i' h => by omega⟩
theorem InW.next {a a2 a3 : Hd} {ap ap2 ap3 : List Pl} {Y : List Ch} {n j : Nat} {bs : List Int} {es : List En} {ls : List La} (h : InW a ap Y n bs es ls j a2 ap2) (hj : j < n) (hl : LaR a2 (hAt Y j) ap2 a3 ap3) : InW a ap Y n bs es ls (j + 1) a3 ap3 := by
  cases hb : ((hAt Y j).ky.k == 1 || (hAt Y j).ky.k == 2) with
  | true =>
    have n1 : n = 1 := h.one ⟨j, hj, hb⟩
    have j0 : j = 0 := by omega
    subst j0
    refine ⟨fun i hi => hl.kn i (h.kn i hi), fun i' hi i hc => ?_, fun i hi hn => by omega, h.one, ?_, fun i' hi hc => ?_⟩
    · have : i' = 0 := by omega
      subst this
      exact hl.ch i hc
    · cases hk : ((hAt Y 0).ky.k == 1) with
      | true =>
        have hs : a2.b.s = a.b.s := by
          rcases h.st with e | ⟨i', hi, _⟩
          · exact e
          · omega
        refine .inr ⟨0, by omega, hk, hl.st hk, ?_⟩
        rw [← hs]
        rcases h.ok 0 (Nat.le_refl _) hj with e | e | e
        · exact e.2.1
        · rw [hk] at e; exact absurd e.1 (by decide)
        · rw [hk] at e; exact absurd e.1 (by decide)
      | false =>
        have hs : a2.b.s = a.b.s := by
          rcases h.st with e | ⟨i', hi, _⟩
          · exact e
          · omega
        exact .inl ((hl.sn hk).trans hs)
    · have : i' = 0 := by omega
      subst this
      exact hl.st hc
  | false =>
    have hk : ((hAt Y j).ky.k == 1) = false := (Bool.or_eq_false_iff.1 hb).1
    have es := hl.sn hk
    have eu := hl.up hb
    refine ⟨fun i hi => hl.kn i (h.kn i hi), fun i' hi i hc => ?_, fun i hi hn => ?_, h.one, ?_, fun i' hi hc => ?_⟩
    · by_cases e : i' = j
      · subst e; exact hl.ch i hc
      · exact hl.kn i (h.ch i' (by omega) i hc)
    · rw [es, eu]; exact h.ok i (by omega) hn
    · rw [es]
      rcases h.st with e | ⟨i', hi, e⟩
      · exact .inl e
      · exact .inr ⟨i', by omega, e⟩
    · by_cases e : i' = j
      · subst e; rw [hk] at hc; cases hc
      · rw [es]; exact h.sb i' (by omega) hc
theorem InW.less {a a2 : Hd} {ap ap2 : List Pl} {Y : List Ch} {n j : Nat} {bs : List Int} {es : List En} {ls : List La} (h : InW a ap Y n bs es ls j a2 ap2) : lessB a2.b.s a.b.s = false := by
  rcases h.st with e | ⟨i', _, _, e, f⟩
  · rw [e]; exact less_irr _
  · rw [e]; exact less_as f
/-- What stands ahead of a turn. -/
structure RowQ (kk e0 : Int) (q : Mg) (a0 a b : Hd) (ap0 ap bp : List Pl) (t : Nat) : Prop where
  k : q.k = 21
  y : q.ky.k = kk
  n : kk = 1 ∨ (kk = 2 ∧ 1 ≤ q.st.n ∧ q.st.n ≤ 1048577)
  cv : kk = 2 → ∀ i, i < q.st.n → knowB b bp i = true → knowB a ap i = true
  t1 : 1 ≤ t
  tt : (t = 1 ∧ (kk = 2 → q.st.n = e0 + 1)) ∨ (kk = 2 ∧ 2 ≤ t ∧ b.k.up < q.st.n ∧ e0 + 2 + 64 * (((t : Nat) : Int) - 2) ≤ q.st.n ∧ q.st.n ≤ topF b.k.up (decd bp))
  kn : ∀ i, knowB a0 ap0 i = true → knowB a ap i = true
  st : a.b.s = a0.b.s
/-- What a mend has come to. -/
structure RowE (kk e0 : Int) (a0 a b : Hd) (ap0 ap bp : List Pl) (t : Nat) : Prop where
  kn : ∀ i, knowB a0 ap0 i = true → knowB a ap i = true
  kb : kk = 2 → ∀ i, knowB b bp i = true → knowB a ap i = true
  t1 : 1 ≤ t
  tt : t = 1 ∨ (2 ≤ t ∧ e0 + 2 + 64 * (((t : Nat) : Int) - 2) ≤ topF b.k.up (decd bp))
  st : a.b.s = a0.b.s ∨ (kk = 1 ∧ a.b.s = b.b.s ∧ lessB a0.b.s b.b.s = true)
  sl : kk = 1 → lessB a.b.s b.b.s = false
theorem RowQ.lt {kk e0 : Int} {q : Mg} {a0 a b : Hd} {ap0 ap bp : List Pl} {t : Nat} (h : RowQ kk e0 q a0 a b ap0 ap bp t) (h0 : 0 ≤ e0) (ht : topF b.k.up (decd bp) ≤ 10000) : t < 300 := by
  rcases h.tt with e | e
  · omega
  · omega
theorem top_hi {b : Hd} {bbs : List Int} {bes : List En} {bls : List La} {bp : List Pl} (h : Wl b bbs bes bls bp) : topF b.k.up (decd bp) ≤ 10000 := by
  rcases topF_in (decd bp) b.k.up with e | ⟨x, hx, e⟩
  · rw [e]; exact h.hi.1
  · rw [e]
    obtain ⟨i, hi, _, ex⟩ := decd_mem hx
    rw [ex]
    exact h.hi.2 _ (List.mem_of_getElem? (pAt_some hi))
theorem InW.cov {a a2 : Hd} {ap ap2 : List Pl} {Y : List Ch} {n : Nat} {bs : List Int} {es : List En} {ls : List La} (h : InW a ap Y n bs es ls n a2 ap2) {i : Int} (hc : Cov a ap Y n i) : knowB a2 ap2 i = true := by
  rcases hc with e | ⟨j, hj, e⟩
  · exact h.kn i e
  · exact h.ch j hj i e
theorem RowQ.next {kk e0 : Int} {q : Mg} {a0 a a2 b : Hd} {ap0 ap ap2 bp : List Pl} {t : Nat} {s : Sl} {Y : List Ch} {T : Tw} (h : RowQ kk e0 q a0 a b ap0 ap bp t) (hs : StepW q a b ap bp s Y T) (hi : InW a ap Y s.l T.b T.e T.l s.l a2 ap2) (ho : T.o = true) : RowQ kk e0 T.m a0 a2 b ap0 ap2 bp (t + 1) := by
  obtain ⟨k2, ⟨x1, x2, x3, x4, x5, x6, x7⟩, hcv⟩ := hs.nx ho
  have kk2 : kk = 2 := by rw [← h.y]; exact k2
  refine ⟨x1, by rw [x2, kk2], .inr ⟨kk2, x3⟩, fun _ i hi2 hb => hi.cov (hcv i hi2 hb), by omega, .inr ⟨kk2, by have := h.t1; omega, x4, ?_, x7⟩, fun i hi2 => hi.kn i (h.kn i hi2), ?_⟩
  · rcases h.tt with ⟨e1, e2⟩ | ⟨_, e1, e2, e3, _⟩
    · have := e2 kk2
      subst e1
      omega
    · have := x6 e2
      omega
  · rw [← h.st]
    rcases hi.st with e | ⟨j, hj, e, _⟩
    · exact e
    · rw [hs.nb k2 j hj] at e; cases e
theorem RowQ.done {kk e0 : Int} {q : Mg} {a0 a a2 b : Hd} {ap0 ap ap2 bp : List Pl} {t : Nat} {s : Sl} {Y : List Ch} {T : Tw} (h : RowQ kk e0 q a0 a b ap0 ap bp t) (hs : StepW q a b ap bp s Y T) (hi : InW a ap Y s.l T.b T.e T.l s.l a2 ap2) (ho : T.o = false) : RowE kk e0 a0 a2 b ap0 ap2 bp t := by
  refine ⟨fun i hi2 => hi.kn i (h.kn i hi2), fun kk2 i hb => hi.cov (hs.en ho (by rw [h.y]; exact kk2) i hb), h.t1, ?_, ?_, fun kk1 => ?_⟩
  · rcases h.tt with ⟨e1, _⟩ | ⟨_, e1, e2, e3, e4⟩
    · exact .inl e1
    · exact .inr ⟨e1, by omega⟩
  · rcases h.n with k1 | ⟨k2, _⟩
    · rcases hi.st with e | ⟨j, hj, e1, e2, e3⟩
      · exact .inl (e.trans h.st)
      · rcases hs.bl (by rw [h.y]; exact k1) with ⟨j', hj', f1, f2⟩ | f
        · have := hi.sb j' hj' f1
          have e4 := this.trans f2
          refine .inr ⟨k1, e4, ?_⟩
          rw [← h.st, ← e4, e2]; exact e3
        · have n1 := hi.one ⟨j, hj, by rw [e1]; rfl⟩
          rw [hs.bq (by rw [h.y]; exact k1) j hj, f] at e3; cases e3
    · rcases hi.st with e | ⟨j, hj, e, _⟩
      · exact .inl (e.trans h.st)
      · rw [hs.nb (by rw [h.y]; exact k2) j hj] at e; cases e
  · rcases hs.bl (by rw [h.y]; exact kk1) with ⟨j', hj', f1, f2⟩ | f
    · rw [hi.sb j' hj' f1, f2]; exact less_irr _
    · rcases hi.st with e | ⟨j, hj, e1, e2, e3⟩
      · rw [e]; exact f
      · rw [hs.bq (by rw [h.y]; exact kk1) j hj, f] at e3; cases e3
theorem RowQ.start {kk e0 : Int} {k : Ky} {fr ta : Int} {a0 b : Hd} {ap0 bp : List Pl} (hk : k.k = kk) (h12 : kk = 1 ∨ kk = 2) (he : e0 = edgeF a0.k.up (decd ap0)) (H : MayP a0 ap0) : RowQ kk e0 (askS fr ta k a0 ap0) a0 a0 b ap0 ap0 bp 1 := by
  have hle := H.edge_le
  rcases h12 with e | e
  · have e1 : askS fr ta k a0 ap0 = askM ⟨false, fr⟩ ⟨false, ta⟩ k 0 := by unfold askS; rw [if_pos (by rw [hk, e]; rfl)]
    rw [e1]
    exact ⟨rfl, hk, .inl e, fun h => by omega, Nat.le_refl _, .inl ⟨rfl, fun h => by omega⟩, fun i h => h, rfl⟩
  · have e1 : askS fr ta k a0 ap0 = askM ⟨false, fr⟩ ⟨false, ta⟩ k (edgeF a0.k.up (decd ap0) + 1) := by unfold askS; rw [if_neg (by rw [hk, e]; decide), if_pos (by rw [hk, e]; rfl)]
    rw [e1]
    exact ⟨rfl, hk, .inr ⟨e, by show 1 ≤ edgeF a0.k.up (decd ap0) + 1; omega, by show edgeF a0.k.up (decd ap0) + 1 ≤ _; omega⟩, fun _ i hi _ => know_edge H i (by have hi : i < edgeF a0.k.up (decd ap0) + 1 := hi; omega), Nat.le_refl _, .inl ⟨rfl, fun _ => by show edgeF a0.k.up (decd ap0) + 1 = _; omega⟩, fun i h => h, rfl⟩

end Go.Proofs.Ytcgnbpaaalmkoaa
