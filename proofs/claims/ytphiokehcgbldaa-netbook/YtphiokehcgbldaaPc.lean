import Derived.Test.YtphiokehcgbldaaPb
namespace Go.Proofs.Ytphiokehcgbldaa
open Go.RowKit Go.Shelf
set_option linter.unusedVariables false
set_option linter.unusedSimpArgs false

/-- What is under way when each of some bytes has been sent, doubled twice, and delivered once. -/
def dbl : List (List Int) → Nat → List (Nm × List Int)
  | [], _ => []
  | z :: r, k => (((false, 1), ((k + 1 : Nat) : Int)), z) :: (((false, 1), ((k + 1 : Nat) : Int)), z) :: dbl r (k + 1)
theorem dbl_app : ∀ (l : List (List Int)) (k : Nat) (z : List Int), dbl (l ++ [z]) k = dbl l k ++ [(((false, 1), ((k + l.length + 1 : Nat) : Int)), z), (((false, 1), ((k + l.length + 1 : Nat) : Int)), z)]
  | [], k, z => rfl
  | y :: l, k, z => by
    simp only [List.cons_append, dbl]
    rw [dbl_app l (k + 1) z]
    simp only [List.length_cons, show k + 1 + l.length + 1 = k + (l.length + 1) + 1 by omega, List.cons_append]
theorem dbl_le : ∀ (l : List (List Int)) (k : Nat) (x), x ∈ dbl l k → x.1.2 ≤ ((k + l.length : Nat) : Int)
  | [], k, x, h => by simp [dbl] at h
  | y :: l, k, x, h => by
    simp only [dbl, List.mem_cons] at h
    rcases h with rfl | rfl | h
    · simp; omega
    · simp; omega
    · have := dbl_le l (k + 1) x h; simp at this ⊢; omega
theorem dbl_len : ∀ (l : List (List Int)) (k : Nat), (dbl l k).length = 2 * l.length
  | [], k => rfl
  | y :: l, k => by simp only [dbl, List.length_cons, dbl_len l (k + 1)]; omega
theorem dbl_at : ∀ (l : List (List Int)) (k i : Nat) (x), (dbl l k)[i]? = some x → x.1.1 = (false, 1) ∧ (l.flatMap (fun z => [z, z]))[i]? = some x.2
  | [], k, i, x, h => by simp [dbl] at h
  | y :: l, k, 0, x, h => by simp [dbl] at h; subst h; simp
  | y :: l, k, 1, x, h => by simp [dbl] at h; subst h; simp
  | y :: l, k, i + 2, x, h => by
    simp only [dbl, List.getElem?_cons_succ] at h
    have := dbl_at l (k + 1) i x h
    simpa using this
theorem fnd {k : Nm} {L : List Pq} (hL : ∀ q ∈ L, q.nm ≠ k) (q : Pq) (hq : q.nm = k) (R : List Pq) : (L ++ q :: R).find? (isN k) = some q ∧ rmN k (L ++ q :: R) = L ++ R := by
  have hn : L.find? (isN k) = none := List.find?_eq_none.2 (fun p hp e => hL p hp (isN_iff.1 e))
  refine ⟨?_, ?_⟩
  · rw [List.find?_append, hn, List.find?_cons_of_pos (isN_iff.2 hq)]; rfl
  · unfold rmN
    rw [List.eraseP_append_right _ (fun p hp e => hL p hp (isN_iff.1 e)), List.eraseP_cons_of_pos (isN_iff.2 hq)]
theorem cnP_le (L : List Pq) (p : Pr) : cnP L p ≤ L.length := List.length_filter_le _ _
def nz (q : Pq) : Nm × List Int := (q.nm, q.zs)

/-- A list of bytes that came in. -/
structure Dt where
  a : Option Addr
  l : Nat
  c : Nat
  bs : List Int
instance : Inhabited Dt := ⟨⟨none, 0, 0, []⟩⟩
structure DtOk (w : World) (x : Dt) : Prop where
  nums : Bytes w x.a x.bs
  len : x.bs.length = x.l
  big : x.l ≤ 140737488351232
def Dts (w : World) (a : Option Addr) (xs : List Dt) : Prop :=
  ∀ (i : Nat) x, xs[i]? = some x → ∃ b off, a = some ⟨b, off, none⟩ ∧ w.cell? ⟨b, off + i, none⟩ = some (.slice x.a x.l x.c) ∧ b < w.heap.size
theorem Dts.no {w w' : World} {a : Option Addr} {xs : List Dt} (h : Dts w a xs) (hk : Kept No w w') : Dts w' a xs := by
  intro i x hi
  obtain ⟨b, off, e, hc, hl⟩ := h i x hi
  exact ⟨b, off, e, hk.cell hc (fun e => e), Nat.lt_of_lt_of_le hl hk.size⟩
def Dt.en (x : Dt) : Gx.Ent := ⟨x.a, x.l, x.c⟩
/-- What the walker of NetBook holds of its own. -/
def XB (ab bb : Nat) (ra wa : Option Addr) (K : List Gx.Ent) (T : Nat → Prop) : Nat → Prop := fun k => k = ab ∨ k = bb ∨ At ra k ∨ At wa k ∨ Gx.EB K k ∨ T k
structure Bx (w0 w : World) (n : Nat) (s : Ns) (ab bb : Nat) (ra : Option Addr) (rc : Nat) (K : List Gx.Ent) (wa : Option Addr) (wc : Nat) (KW : List Gx.Ent) (T : Nat → Prop) : Prop where
  nb : Nbs w0 w n s (XB ab bb ra wa K T)
  bA : Box w ab 34 #[.bool false, .int .i64 1]
  bB : Box w bb 34 #[.bool true, .int .i64 2]
  row : Gx.Rw w w0.heap.size ra rc K
  ent : ∃ Z, Gx.Erow w w0.heap.size K Z
  wnt : Gx.Rw w w0.heap.size wa wc KW
  ap : ∀ k, At ra k → ¬ At wa k
  lo : w0.heap.size ≤ ab ∧ w0.heap.size ≤ bb
  tf : ∀ k, T k → w0.heap.size ≤ k ∧ k ≠ ab ∧ k ≠ bb ∧ ¬ At ra k ∧ ¬ At wa k ∧ ¬ Gx.EB K k
section
variable {w0 w w' : World} {n : Nat} {s s' : Ns} {ab bb : Nat} {ra : Option Addr} {rc : Nat} {K : List Gx.Ent} {wa : Option Addr} {wc : Nat} {KW : List Gx.Ent} {T T' : Nat → Prop}
theorem Bx.low (h : Bx w0 w n s ab bb ra rc K wa wc KW T) {k : Nat} (hk : XB ab bb ra wa K T k) : w0.heap.size ≤ k := by
  rcases hk with rfl | rfl | hk | hk | hk | hk
  · exact h.lo.1
  · exact h.lo.2
  · exact h.row.base hk
  · exact h.wnt.base hk
  · obtain ⟨Z, hZ⟩ := h.ent; exact (hZ.lo hk).1
  · exact (h.tf k hk).1
/-- Behind a step of the net's, or of one that writes what is laid by. -/
theorem Bx.op {S : Nat → Prop} (h : Bx w0 w n s ab bb ra rc K wa wc KW T) (hk : Kept S w w') (hS : ∀ k, S k → ¬ (k = ab ∨ k = bb ∨ At ra k ∨ At wa k ∨ Gx.EB K k)) (hN : Nbs w0 w' n s' (XB ab bb ra wa K T')) (hT : ∀ k, T' k → T k ∨ w.heap.size ≤ k) : Bx w0 w' n s' ab bb ra rc K wa wc KW T' where
  nb := hN
  bA := h.bA.kept hk (fun e => hS _ e (.inl rfl))
  bB := h.bB.kept hk (fun e => hS _ e (.inr (.inl rfl)))
  row := h.row.kept hk (fun k e f => hS k f (.inr (.inr (.inl e))))
  ent := by obtain ⟨Z, hZ⟩ := h.ent; exact ⟨Z, hZ.kept hk (fun k e f => hS k f (.inr (.inr (.inr (.inr e)))))⟩
  wnt := h.wnt.kept hk (fun k e f => hS k f (.inr (.inr (.inr (.inl e)))))
  ap := h.ap
  lo := h.lo
  tf := fun k e => by
    rcases hT k e with e | e
    · exact h.tf k e
    · have hx : ∀ j, XB ab bb ra wa K T j → j < w.heap.size := h.nb.lt
      have hne : ∀ j, XB ab bb ra wa K T j → k ≠ j := fun j hj f => by have := hx j hj; omega
      exact ⟨Nat.le_trans h.nb.kept.size e, hne _ (.inl rfl), hne _ (.inr (.inl rfl)), fun f => hne k (.inr (.inr (.inl f))) rfl, fun f => hne k (.inr (.inr (.inr (.inl f)))) rfl, fun f => hne k (.inr (.inr (.inr (.inr (.inl f))))) rfl⟩
theorem Bx.no (h : Bx w0 w n s ab bb ra rc K wa wc KW T) (hk : Kept No w w') : Bx w0 w' n s ab bb ra rc K wa wc KW T := h.op hk (fun k e => e.elim) (h.nb.no hk) (fun k e => .inl e)
/-- A step of the net's. -/
theorem Bx.net (h : Bx w0 w n s ab bb ra rc K wa wc KW T) (hk : Kept (OfX w0 (XB ab bb ra wa K T)) w w') (hN : Nbs w0 w' n s' (XB ab bb ra wa K T)) : Bx w0 w' n s' ab bb ra rc K wa wc KW T :=
  h.op hk (fun k e f => e.2 (by rcases f with f | f | f | f | f; exact .inl f; exact .inr (.inl f); exact .inr (.inr (.inl f)); exact .inr (.inr (.inr (.inl f))); exact .inr (.inr (.inr (.inr (.inl f)))))) hN (fun k e => .inl e)
/-- Something new is laid by, or what was laid by is written. -/
theorem Bx.tmp {S : Nat → Prop} (h : Bx w0 w n s ab bb ra rc K wa wc KW T) (hk : Kept S w w') (hS : ∀ k, S k → T k) (hT : ∀ k, T' k → (T k ∨ w.heap.size ≤ k) ∧ k < w'.heap.size) : Bx w0 w' n s ab bb ra rc K wa wc KW T' := by
  refine h.op hk (fun k e f => ?_) (h.nb.own hk (fun k e => .inr (.inr (.inr (.inr (.inr (hS k e)))))) (fun k e => (h.tf k (hS k e)).1) (fun k e => ?_) (fun k e => ?_)) (fun k e => (hT k e).1)
  · have := h.tf k (hS k e)
    rcases f with f | f | f | f | f
    · exact this.2.1 f
    · exact this.2.2.1 f
    · exact this.2.2.2.1 f
    · exact this.2.2.2.2.1 f
    · exact this.2.2.2.2.2 f
  · rcases e with e | e | e | e | e | e
    · exact .inl (.inl e)
    · exact .inl (.inr (.inl e))
    · exact .inl (.inr (.inr (.inl e)))
    · exact .inl (.inr (.inr (.inr (.inl e))))
    · exact .inl (.inr (.inr (.inr (.inr (.inl e)))))
    · rcases (hT k e).1 with e | e
      · exact .inl (.inr (.inr (.inr (.inr (.inr e)))))
      · exact .inr e
  · rcases e with e | e | e | e | e | e
    · exact Nat.lt_of_lt_of_le (h.nb.lt k (.inl e)) hk.size
    · exact Nat.lt_of_lt_of_le (h.nb.lt k (.inr (.inl e))) hk.size
    · exact Nat.lt_of_lt_of_le (h.nb.lt k (.inr (.inr (.inl e)))) hk.size
    · exact Nat.lt_of_lt_of_le (h.nb.lt k (.inr (.inr (.inr (.inl e))))) hk.size
    · exact Nat.lt_of_lt_of_le (h.nb.lt k (.inr (.inr (.inr (.inr (.inl e)))))) hk.size
    · exact (hT k e).2
/-- What was told, and lies by, goes into the row of all. -/
theorem Bx.all {ra' : Option Addr} {rc' : Nat} {pa : Option Addr} {pc : Nat} {zs : List Int} (h : Bx w0 w n s ab bb ra rc K wa wc KW T) (hO : OwnB w w0.heap.size pa pc zs) (hz : zs.length ≤ 140737488351232) (hpT : ∀ k, At pa k → T k) (hk : Kept (At ra) w w') (hR : Gx.Rw w' w0.heap.size ra' rc' (K ++ [⟨pa, zs.length, pc⟩])) (hg : ∀ k, At ra' k → At ra k ∨ w.heap.size ≤ k) :
    Bx w0 w' n s ab bb ra' rc' (K ++ [⟨pa, zs.length, pc⟩]) wa wc KW (fun _ => False) := by
  have hx : ∀ j, XB ab bb ra wa K T j → j < w.heap.size := h.nb.lt
  have hra' : ∀ k, At ra' k → k < w'.heap.size := fun k e => by
    obtain ⟨c, h1⟩ := hR.typ e
    exact (Array.getElem?_eq_some_iff.1 h1).1
  obtain ⟨Z, hZ⟩ := h.ent
  have hEB : ∀ k, Gx.EB (K ++ [⟨pa, zs.length, pc⟩]) k → Gx.EB K k ∨ At pa k := fun k ⟨e, he, ha⟩ => by
    rcases List.mem_append.1 he with he | he
    · exact .inl ⟨e, he, ha⟩
    · rw [List.mem_singleton.1 he] at ha; exact .inr ha
  have nra : ∀ k, (k = ab ∨ k = bb ∨ At wa k ∨ Gx.EB K k ∨ At pa k) → ¬ At ra k := fun k e f => by
    obtain ⟨c, hc⟩ := h.row.typ f
    rcases e with rfl | rfl | e | e | e
    · have hb : w.heap[k]? = some (.cells _ 34 (0, 0)) := h.bA
      rw [hc] at hb; cases hb
    · have hb : w.heap[k]? = some (.cells _ 34 (0, 0)) := h.bB
      rw [hc] at hb; cases hb
    · exact h.ap k f e
    · exact h.row.apart hZ f e
    · exact (h.tf k (hpT k e)).2.2.2.1 f
  refine ⟨h.nb.own hk (fun k e => .inr (.inr (.inl e))) (fun k e => h.row.base e) (fun k e => ?_) (fun k e => ?_), h.bA.kept hk (nra _ (.inl rfl)), h.bB.kept hk (nra _ (.inr (.inl rfl))), hR, ⟨_, Gx.Erow.add (hZ.kept hk (fun k e => nra k (.inr (.inr (.inr (.inl e)))))) rfl (Own.kept hO hk (fun k e => nra k (.inr (.inr (.inr (.inr e)))))) hz (fun k e f => (h.tf k (hpT k e)).2.2.2.2.2 f)⟩, h.wnt.kept hk (fun k e => nra k (.inr (.inr (.inl e)))), fun k e f => ?_, h.lo, fun k e => e.elim⟩
  · rcases e with e | e | e | e | e | e
    · exact .inl (.inl e)
    · exact .inl (.inr (.inl e))
    · rcases hg k e with e | e
      · exact .inl (.inr (.inr (.inl e)))
      · exact .inr e
    · exact .inl (.inr (.inr (.inr (.inl e))))
    · rcases hEB k e with e | e
      · exact .inl (.inr (.inr (.inr (.inr (.inl e)))))
      · exact .inl (.inr (.inr (.inr (.inr (.inr (hpT k e))))))
    · exact e.elim
  · rcases e with e | e | e | e | e | e
    · exact Nat.lt_of_lt_of_le (hx k (.inl e)) hk.size
    · exact Nat.lt_of_lt_of_le (hx k (.inr (.inl e))) hk.size
    · exact hra' k e
    · exact Nat.lt_of_lt_of_le (hx k (.inr (.inr (.inr (.inl e))))) hk.size
    · rcases hEB k e with e | e
      · exact Nat.lt_of_lt_of_le (hx k (.inr (.inr (.inr (.inr (.inl e)))))) hk.size
      · exact Nat.lt_of_lt_of_le (hx k (.inr (.inr (.inr (.inr (.inr (hpT k e))))))) hk.size
    · exact e.elim
  · rcases hg k e with e | e
    · exact h.ap k e f
    · have := hx k (.inr (.inr (.inr (.inl f)))); omega
/-- The row of what is wanted grows. -/
theorem Bx.want {wa' : Option Addr} {wc' : Nat} {KW' : List Gx.Ent} (h : Bx w0 w n s ab bb ra rc K wa wc KW T) (hk : Kept (At wa) w w') (hR : Gx.Rw w' w0.heap.size wa' wc' KW') (hg : ∀ k, At wa' k → At wa k ∨ w.heap.size ≤ k) :
    Bx w0 w' n s ab bb ra rc K wa' wc' KW' (fun _ => False) := by
  have hx : ∀ j, XB ab bb ra wa K T j → j < w.heap.size := h.nb.lt
  have hra' : ∀ k, At wa' k → k < w'.heap.size := fun k e => by
    obtain ⟨c, h1⟩ := hR.typ e
    exact (Array.getElem?_eq_some_iff.1 h1).1
  obtain ⟨Z, hZ⟩ := h.ent
  have nra : ∀ k, (k = ab ∨ k = bb ∨ At ra k ∨ Gx.EB K k) → ¬ At wa k := fun k e f => by
    obtain ⟨c, hc⟩ := h.wnt.typ f
    rcases e with rfl | rfl | e | e
    · have hb : w.heap[k]? = some (.cells _ 34 (0, 0)) := h.bA
      rw [hc] at hb; cases hb
    · have hb : w.heap[k]? = some (.cells _ 34 (0, 0)) := h.bB
      rw [hc] at hb; cases hb
    · exact h.ap k e f
    · exact h.wnt.apart hZ f e
  refine ⟨h.nb.own hk (fun k e => .inr (.inr (.inr (.inl e)))) (fun k e => h.wnt.base e) (fun k e => ?_) (fun k e => ?_), h.bA.kept hk (nra _ (.inl rfl)), h.bB.kept hk (nra _ (.inr (.inl rfl))), h.row.kept hk (fun k e => nra k (.inr (.inr (.inl e)))), ⟨Z, hZ.kept hk (fun k e => nra k (.inr (.inr (.inr e))))⟩, hR, fun k e f => ?_, h.lo, fun k e => e.elim⟩
  · rcases e with e | e | e | e | e | e
    · exact .inl (.inl e)
    · exact .inl (.inr (.inl e))
    · exact .inl (.inr (.inr (.inl e)))
    · rcases hg k e with e | e
      · exact .inl (.inr (.inr (.inr (.inl e))))
      · exact .inr e
    · exact .inl (.inr (.inr (.inr (.inr (.inl e)))))
    · exact e.elim
  · rcases e with e | e | e | e | e | e
    · exact Nat.lt_of_lt_of_le (hx k (.inl e)) hk.size
    · exact Nat.lt_of_lt_of_le (hx k (.inr (.inl e))) hk.size
    · exact Nat.lt_of_lt_of_le (hx k (.inr (.inr (.inl e)))) hk.size
    · exact hra' k e
    · exact Nat.lt_of_lt_of_le (hx k (.inr (.inr (.inr (.inr (.inl e)))))) hk.size
    · exact e.elim
  · rcases hg k f with f | f
    · exact h.ap k e f
    · have := hx k (.inr (.inr (.inl e))); omega
end
end Go.Proofs.Ytphiokehcgbldaa
