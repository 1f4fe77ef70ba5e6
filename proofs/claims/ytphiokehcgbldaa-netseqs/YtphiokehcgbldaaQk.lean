import Derived.Test.YtphiokehcgbldaaQj
namespace Go.Proofs.Ytphiokehcgbldaa
open Go.RowKit Go.Shelf
set_option linter.unusedVariables false
set_option linter.unusedSimpArgs false

section
variable {X X' : Nat → Prop} {w0 w w1 w' : World} {n r d d' : Nat} {s : Ns} {ys : List Tp} {ss : List Ad} {e : Ending}
theorem StO.from (h : StO w0 w1 n r s ss X d e w') (hk : Kept No w w1) (hX : ∀ k, X k → X' k) (hl : ∀ k, X' k → w0.heap.size ≤ k) (h0 : Kept No w0 w) (hd : d ≤ d') : StO w0 w n r s ss X' d' e w' := by
  obtain ⟨he, s', ys', ss', hW, hK, h1, h2⟩ := h
  refine ⟨he, s', ys', ss', hW.kept' (Kept.refl No _) (fun k e _ => ⟨fun f => f, e.imp (hX k) (fun f => Nat.le_trans hk.size f)⟩) (fun _ _ e => e) (fun k e => ?_), W5.trans (I := No) hk.of_no hK (fun _ e => e.elim) (fun i _ e => hX i e), by omega, by omega⟩
  rcases e with e | e
  · exact hl k e
  · exact Nat.le_trans h0.size e
theorem StO.same (h : Wd w0 w n r s ys ss X) (hk : Kept No w w') : StO w0 w n r s ss X d (.returned (.bool true)) w' := by
  refine ⟨rfl, s, ys, ss, (h.no hk).kept' (Kept.refl No _) (fun k e _ => ⟨fun f => f, .inl e⟩) (fun _ _ e => e) (fun k e => ?_), hk.of_no, by omega, by omega⟩
  rcases e with e | e
  · exact h.low k e
  · exact Nat.le_trans h.kept.size e
end
/-- What step holds while it runs. -/
structure Sp (w0 w w1 : World) (n r : Nat) (x : St) (bW bX : Nat) (W : World) : Prop where
  bw : Box W bW 31 #[.pointer (some ⟨n, 0, none⟩), .pointer (some ⟨r, 0, none⟩)]
  bx : Box W bX 37 x.cs.toArray
theorem Sp.no {w0 w w1 W W' : World} {n r bW bX : Nat} {x : St} (h : Sp w0 w w1 n r x bW bX W) (hk : Kept No W W') : Sp w0 w w1 n r x bW bX W' := ⟨h.bw.kept hk (fun e => e), h.bx.kept hk (fun e => e)⟩
theorem Sp.off {S : Nat → Prop} {w0 w w1 W W' : World} {n r bW bX : Nat} {x : St} (h : Sp w0 w w1 n r x bW bX W) (hk : Kept S W W') (h1 : ¬ S bW) (h2 : ¬ S bX) : Sp w0 w w1 n r x bW bX W' := ⟨h.bw.kept hk h1, h.bx.kept hk h2⟩
/-- Lost or delivered: both nets behind. -/
theorem rm_st {X : Nat → Prop} {w0 w w1 w2 w3 w4 : World} {n r i sc lc lc' : Nat} {s : Ns} {ys : List Tp} {ss : List Ad} {I : Nat → Prop} {la la' sa : Option Addr} {k : Nm} (h : Wd w0 w n r s ys ss X) (hk1 : Kept No w w1)
    (hN : NetM w2 n ⟨s.sent, rmN k s.L, s.came⟩ (fun j => I j ∨ w1.heap.size ≤ j)) (hk2 : Kept (W5 w1 I) w1 w2) (hI : ∀ k, I k → X k ∧ k < w.heap.size) (hB : ∀ k, RfB r la sa k → (X k ∧ k < w.heap.size) ∧ ¬ I k) (hR0 : RfM w r ys ss la lc sa sc w0.heap.size)
    (hR : RfM w3 r (ys.eraseIdx i) ss la' lc' sa sc w0.heap.size) (hk3 : Kept (Only r) w2 w3) (hla : ∀ j, At la' j → w2.heap.size ≤ j) (hk4 : Kept No w3 w4) (hrm : rmN k s.L = (ys.eraseIdx i).map Tp.q) : StO w0 w n r s ss X 0 (.returned (.bool true)) w4 := by
  have s1 := hk1.size
  have s2 := hk2.size
  have hr := hB r (.inl rfl)
  have hR2 : RfM w2 r ys ss la lc sa sc w0.heap.size := (hR0.no hk1).kept hk2 (fun k e f => (hB k e).2 f.1)
  have K2 : Kept (W5 w X) w w2 := W5.trans (I := No) hk1.of_no hk2 (fun _ e => e.elim) (fun i _ e => (hI i e).1)
  have K3 : Kept (W5 w X) w w3 := W5.trans (J := X) K2 (hk3.mono (fun k _ e => by have e : k = r := e; rw [e]; exact hR2.w5 (.inl rfl) hr.1.1)) (fun _ e => e) (fun _ _ e => e)
  have K4 : Kept (W5 w X) w w4 := K3.then hk4.of_no
  have hN4 : NetM w4 n ⟨s.sent, rmN k s.L, s.came⟩ (fun j => (I j ∨ w1.heap.size ≤ j) ∧ j < w2.heap.size) := ((hN.cut.kept hk3 (fun k e _ => ⟨fun f => by
    have f : k = r := f
    rw [f] at e
    rcases e.1 with e | e
    · exact hr.2 e
    · have := hr.1.2; omega, e⟩))).no hk4
  refine ⟨rfl, _, ys.eraseIdx i, ss, h.off (I := I) (la := la) (lc := lc) (w' := w4) hN4 (hR.no hk4) K4 (fun k e => ?_) (fun k e => ?_) hrm.symm erase_sub rfl, K4, Nat.le_refl _, Nat.le_refl _⟩
  · rcases e.1 with e | e
    · exact .inl (hI k e).1
    · exact .inr (by omega)
  · rcases e with e | e | e
    · have h1 := hB k (.inl e)
      exact ⟨.inl h1.1.1, fun f => by rcases f.1 with f | f; exact h1.2 f; have := h1.1.2; omega⟩
    · have := hla k e
      exact ⟨.inr (by omega), fun f => by have := f.2; omega⟩
    · have h1 := hB k (.inr (.inr e))
      exact ⟨.inl h1.1.1, fun f => by rcases f.1 with f | f; exact h1.2 f; have := h1.1.2; omega⟩
/-- Doubled: both nets behind. -/
theorem db_st {X : Nat → Prop} {w0 w w1 w2 w3 : World} {n r sc lc lc' : Nat} {s : Ns} {ys : List Tp} {ss : List Ad} {I : Nat → Prop} {la la' sa : Option Addr} {y : Tp} (h : Wd w0 w n r s ys ss X) (hk1 : Kept No w w1)
    (hN : NetM w2 n (addS s { y.q with pl := s.came + 1 }) (fun j => I j ∨ w1.heap.size ≤ j)) (hk2 : Kept (W5 w1 I) w1 w2) (hI : ∀ k, I k → X k ∧ k < w.heap.size) (hB : ∀ k, RfB r la sa k → (X k ∧ k < w.heap.size) ∧ ¬ I k) (hR0 : RfM w r ys ss la lc sa sc w0.heap.size)
    (hR : RfM w3 r (rfAdd ys (y.at (s.came + 1))) ss la' lc' sa sc w0.heap.size) (hk3 : Kept (RfB r la sa) w2 w3) (hla : ∀ j, At la' j → At la j ∨ w2.heap.size ≤ j) (hy : y ∈ ys) : StO w0 w n r s ss X 1 (.returned (.bool true)) w3 := by
  have s1 := hk1.size
  have s2 := hk2.size
  have hR2 : RfM w2 r ys ss la lc sa sc w0.heap.size := (hR0.no hk1).kept hk2 (fun k e f => (hB k e).2 f.1)
  have K2 : Kept (W5 w X) w w2 := W5.trans (I := No) hk1.of_no hk2 (fun _ e => e.elim) (fun i _ e => (hI i e).1)
  have K3 : Kept (W5 w X) w w3 := W5.trans (J := X) K2 (hk3.mono (fun k _ e => hR2.w5 e (hB k e).1.1)) (fun _ e => e) (fun _ _ e => e)
  have hN3 : NetM w3 n (addS s { y.q with pl := s.came + 1 }) (fun j => (I j ∨ w1.heap.size ≤ j) ∧ j < w2.heap.size) := hN.cut.kept hk3 (fun k e _ => ⟨fun f => by
    rcases e.1 with e | e
    · exact (hB k f).2 e
    · have := (hB k f).1.2; omega, e⟩)
  refine ⟨rfl, _, rfAdd ys (y.at (s.came + 1)), ss, h.off (I := I) (la := la) (lc := lc) (w' := w3) hN3 hR K3 (fun k e => ?_) (fun k e => ?_) (add_eq h.eq rfl) (add_dat (fun z hz => ⟨z, hz, rfl, rfl⟩) ⟨y, hy, rfl, rfl⟩) (addS_sent _), K3, addS_came _, Nat.le_succ _⟩
  · rcases e.1 with e | e
    · exact .inl (hI k e).1
    · exact .inr (by omega)
  · have hold : ∀ k, RfB r la sa k → (X k ∨ w.heap.size ≤ k) ∧ ¬ ((I k ∨ w1.heap.size ≤ k) ∧ k < w2.heap.size) := fun k e => by
      have h1 := hB k e
      exact ⟨.inl h1.1.1, fun f => by rcases f.1 with f | f; exact h1.2 f; have := h1.1.2; omega⟩
    rcases e with e | e | e
    · exact hold k (.inl e)
    · rcases hla k e with e | e
      · exact hold k (.inr (.inl e))
      · exact ⟨.inr (by omega), fun f => by have := f.2; omega⟩
    · exact hold k (.inr (.inr e))
/-- Cleared. -/
theorem clr_st {X : Nat → Prop} {w0 w w1 w2 w3 : World} {n r sc lc : Nat} {s : Ns} {ys : List Tp} {ss : List Ad} {I : Nat → Prop} {la sa : Option Addr} (h : Wd w0 w n r s ys ss X) (hk1 : Kept No w w1)
    (hN : NetM w2 n ⟨s.sent, [], s.came⟩ I) (hk2 : Kept (W5 w1 I) w1 w2) (hI : ∀ k, I k → X k ∧ k < w.heap.size) (hB : ∀ k, RfB r la sa k → (X k ∧ k < w.heap.size) ∧ ¬ I k) (hR0 : RfM w r ys ss la lc sa sc w0.heap.size)
    (hbx : Box w3 r 29 #[.slice none 0 0, .slice sa ss.length sc]) (hk3 : Kept (Only r) w2 w3) : StO w0 w n r s ss X 0 (.returned (.bool true)) w3 := by
  have hR2 : RfM w2 r ys ss la lc sa sc w0.heap.size := (hR0.no hk1).kept hk2 (fun k e f => (hB k e).2 f.1)
  have hr := hB r (.inl rfl)
  have K2 : Kept (W5 w X) w w2 := W5.trans (I := No) hk1.of_no hk2 (fun _ e => e.elim) (fun i _ e => (hI i e).1)
  have K3 : Kept (W5 w X) w w3 := W5.trans (J := X) K2 (hk3.mono (fun k _ e => by have e : k = r := e; rw [e]; exact hR2.w5 (.inl rfl) hr.1.1)) (fun _ e => e) (fun _ _ e => e)
  have hN3 : NetM w3 n ⟨s.sent, [], s.came⟩ I := hN.kept hk3 (fun k e _ => ⟨fun f => by have f : k = r := f; rw [f] at e; exact hr.2 e, e⟩)
  refine ⟨rfl, _, [], ss, h.off (I := I) (la := la) (lc := lc) (lc' := 0) (la' := none) (w' := w3) hN3 ⟨hbx, Own.nil _ _ _ _, hR2.snt.kept hk3 (fun k e f => by have f : k = r := f; rw [f] at e; exact hR2.sr e), hR2.lo⟩ K3 (fun k e => .inl (hI k e).1) (fun k e => ?_) rfl (fun y hy => by cases hy) rfl, K3, Nat.le_refl _, Nat.le_refl _⟩
  rcases e with e | e | e
  · have h1 := hB k (.inl e); exact ⟨.inl h1.1.1, h1.2⟩
  · exact (At.none e).elim
  · have h1 := hB k (.inr (.inr e)); exact ⟨.inl h1.1.1, h1.2⟩
end Go.Proofs.Ytphiokehcgbldaa
