import Derived.Test.YtmhjbkpojndhkaaPm
import Derived.Test.YtmhjbkpojndhkaaOc
namespace Go.Proofs.Ytmhjbkpojndhkaa
open Go.RowKit
set_option linter.unusedVariables false
set_option linter.unusedSimpArgs false

/-- What TallyWalks holds while it runs: the numbers of the blocks, the sequence that it goes over. -/
structure Wp where
  w : World
  vs : Value
  stop : Int
  b4 : Nat
  b5 : Nat
  b6 : Nat
  b7 : Nat
  b9 : Nat
  b10 : Nat
  b12 : Nat
  b13 : Nat
  t : Nat
  bm : Nat
  ax : Option Addr
  cx : Nat
  ra : Option Addr
  ca : Nat
  rb : Option Addr
  cb : Nat
  lb : Nat
  sa : Option Addr
  sc : Nat
  m : Nat
  ps : List (Int × Int)

/-- How the blocks lie. -/
structure Wd (p : Wp) : Prop where
  o0 : p.w.heap.size ≤ p.b4
  o1 : p.b4 < p.b5
  o2 : p.b5 < p.b6
  o3 : p.b6 < p.bm
  o4 : ∀ k, TB p.t p.bm p.ax k → p.bm ≤ k ∧ k < p.b7
  o5 : ∀ k, At p.ra k ∨ At p.rb k → p.b7 < k ∧ k < p.b9
  o5' : p.b7 < p.b9
  o6 : p.b9 < p.b10
  o7 : ∀ k, SB p.lb p.sa k → p.b10 < k ∧ k < p.b12
  o8 : p.b12 < p.b13
  len : p.ps.length = p.m
  big : p.m ≤ 8796093022208

/-- What lies in them. -/
structure Wa (p : Wp) (n : Int) (W : World) : Prop where
  v : Box W p.b4 23 #[p.vs]
  s : Box W p.b5 3 #[.int .i64 p.stop]
  r : Box W p.b6 4 #[.bool false]
  q : Box W p.b7 26 #[.pointer (some ⟨p.t, 0, none⟩)]
  a : Box W p.b9 22 #[.slice p.ra p.m p.ca]
  b : Box W p.b10 22 #[.slice p.rb p.m p.cb]
  f : Box W p.b12 56 #[.func (.func 37) #[] #[.pointer (some ⟨p.lb, 0, none⟩)]]
  n : Box W p.b13 3 #[.int .i64 n]
  an : Nums .i64 W p.ra (p.ps.map Prod.fst)
  bn : Nums .i64 W p.rb (p.ps.map Prod.snd)
  sq : SeqAt W p.lb p.sa p.sc p.ps
  tal : ∃ X, Tal W p.t p.bm p.ax p.cx X
  k : Kept No p.w W

theorem Wd.n7 {p : Wp} (d : Wd p) : p.bm < p.b7 := (d.o4 p.bm (.inr (.inl rfl))).2
theorem Wd.nt {p : Wp} (d : Wd p) : p.bm ≤ p.t ∧ p.t < p.b7 := d.o4 p.t (.inl rfl)
theorem Wd.n12 {p : Wp} (d : Wd p) : p.b10 < p.b12 := by have := d.o7 p.lb (.inl rfl); omega

theorem at_of {a : Option Addr} {b off : Nat} (e : a = some ⟨b, off, none⟩) : At a b := ⟨_, e, rfl⟩

/-- A change elsewhere leaves it. -/
theorem Wa.kept {S : Nat → Prop} {p : Wp} {n : Int} {W W' : World} (d : Wd p) (h : Wa p n W) (hk : Kept S W W') (hS : ∀ k, p.w.heap.size ≤ k → k ≤ p.b13 → ¬ S k) (hw : ∀ k, k < p.w.heap.size → ¬ S k) : Wa p n W' := by
  have a0 := d.o0; have a1 := d.o1; have a2 := d.o2; have a3 := d.o3; have a5 := d.o5'; have a6 := d.o6; have a8 := d.o8
  have a7 := d.n7; have a12 := d.n12
  refine ⟨h.v.kept hk (hS _ ?_ ?_), h.s.kept hk (hS _ ?_ ?_), h.r.kept hk (hS _ ?_ ?_), h.q.kept hk (hS _ ?_ ?_), h.a.kept hk (hS _ ?_ ?_), h.b.kept hk (hS _ ?_ ?_), h.f.kept hk (hS _ ?_ ?_), h.n.kept hk (hS _ ?_ ?_), h.an.kept hk (fun b off e => hS b ?_ ?_), h.bn.kept hk (fun b off e => hS b ?_ ?_), h.sq.kept hk (fun k hb => hS k ?_ ?_), ?_, h.k.trans hk (fun _ e => e) (fun i hi e => hw i hi e)⟩
  all_goals first | omega | skip
  · have := d.o5 b (.inl (at_of e)); omega
  · have := d.o5 b (.inl (at_of e)); omega
  · have := d.o5 b (.inr (at_of e)); omega
  · have := d.o5 b (.inr (at_of e)); omega
  · have := d.o7 k hb; omega
  · have := d.o7 k hb; omega
  · obtain ⟨X, hX⟩ := h.tal
    exact ⟨X, hX.kept hk (fun k e => by have := d.o4 k e; exact hS k (by omega) (by omega))⟩

theorem Wa.above {p : Wp} {n : Int} {B : Nat} {W W' : World} (d : Wd p) (h : Wa p n W) (hB : p.b13 < B) (hk : Kept (fun k => B ≤ k) W W') : Wa p n W' :=
  h.kept d hk (fun k _ _ => by omega) (fun k _ => by have := d.o0; have := d.o1; have := d.o2; have := d.o3; have := d.o5'; have := d.o6; have := d.o8; have := d.n7; have := d.n12; omega)
theorem Wa.no {p : Wp} {n : Int} {W W' : World} (d : Wd p) (h : Wa p n W) (hk : Kept No W W') : Wa p n W' := h.kept d hk (fun _ _ _ e => e) (fun _ _ e => e)

/-- An answer is taken. -/
theorem Wa.take {p : Wp} {n : Int} {W W' : World} {X : TS} (d : Wd p) (h : Wa p n W) (hk : Kept (Tb2 p.t p.bm) W W') (hT : Tal W' p.t p.bm p.ax p.cx X) : Wa p n W' := by
  have a0 := d.o0; have a1 := d.o1; have a2 := d.o2; have a3 := d.o3; have a5 := d.o5'; have a6 := d.o6; have a8 := d.o8
  have a7 := d.n7; have a12 := d.n12; have at' := d.nt
  have ne : ∀ k, k < p.bm ∨ p.b7 ≤ k → ¬ Tb2 p.t p.bm k := by
    intro k h e
    rcases e with rfl | rfl <;> omega
  refine ⟨h.v.kept hk (ne _ ?_), h.s.kept hk (ne _ ?_), h.r.kept hk (ne _ ?_), h.q.kept hk (ne _ ?_), h.a.kept hk (ne _ ?_), h.b.kept hk (ne _ ?_), h.f.kept hk (ne _ ?_), h.n.kept hk (ne _ ?_), h.an.kept hk (fun b off e => ne b ?_), h.bn.kept hk (fun b off e => ne b ?_), h.sq.kept hk (fun k hb => ne k ?_), ⟨X, hT⟩, h.k.trans hk (fun _ e => e) (fun i hi e => ne i (by omega) e)⟩
  all_goals first | omega | skip
  · have := d.o5 b (.inl (at_of e)); omega
  · have := d.o5 b (.inr (at_of e)); omega
  · have := d.o7 k hb; omega

/-- The count goes on. -/
theorem Wa.num {p : Wp} {n : Int} {W : World} (d : Wd p) (h : Wa p n W) (n' : Int) : Wa p n' (W.setCell ⟨p.b13, 0, none⟩ (.int .i64 n')) := by
  have a0 := d.o0; have a1 := d.o1; have a2 := d.o2; have a3 := d.o3; have a5 := d.o5'; have a6 := d.o6; have a8 := d.o8
  have a7 := d.n7; have a12 := d.n12; have at' := d.nt
  have hk : Kept (Only p.b13) W (W.setCell ⟨p.b13, 0, none⟩ (.int .i64 n')) := (Kept.refl (Only p.b13) W).setCell (p := ⟨p.b13, 0, none⟩) (fun _ => rfl) _
  have ne : ∀ k, k < p.b13 → ¬ Only p.b13 k := by
    intro k h e
    have e : k = p.b13 := e
    omega
  refine ⟨h.v.kept hk (ne _ ?_), h.s.kept hk (ne _ ?_), h.r.kept hk (ne _ ?_), h.q.kept hk (ne _ ?_), h.a.kept hk (ne _ ?_), h.b.kept hk (ne _ ?_), h.f.kept hk (ne _ ?_), h.n.set 0 _, h.an.kept hk (fun b off e => ne b ?_), h.bn.kept hk (fun b off e => ne b ?_), h.sq.kept hk (fun k hb => ne k ?_), ?_, h.k.trans hk (fun _ e => e) (fun i hi e => ne i (by omega) e)⟩
  all_goals first | omega | skip
  · have := d.o5 b (.inl (at_of e)); omega
  · have := d.o5 b (.inr (at_of e)); omega
  · have := d.o7 k hb; omega
  · obtain ⟨X, hX⟩ := h.tal
    exact ⟨X, hX.kept hk (fun k e => ne k (by have := d.o4 k e; omega))⟩

theorem wa_own {β : Type} {p : Wp} (d : Wd p) {B : Nat} (hB : p.b13 < B) (n : β → Int) : OwnFrom B (fun (s : β) W => Wa p (n s) W) :=
  fun s W W' row hs hg hr => hs.above d hB ((Kept.refl _ W).grown hg (fun k e _ => (hr k e).1))
theorem kept_own {β : Type} {S : Nat → Prop} {B : Nat} {w : World} (hB : w.heap.size ≤ B) : OwnFrom B (fun (_ : β) W => Kept S w W) :=
  fun _ _ _ row hs hg hr => hs.grown hg (fun k e hk => by have := (hr k e).1; omega)
theorem box_own {β : Type} {B g t : Nat} (hB : g < B) (cs : β → Array Value) : OwnFrom B (fun (s : β) W => Box W g t (cs s)) :=
  fun s W W' row hs hg hr => hs.kept ((Kept.refl (fun k => B ≤ k) W).grown hg (fun k e _ => (hr k e).1)) (by omega)
theorem obj_own {β : Type} {B g : Nat} {o : Obj} (hB : g < B) : OwnFrom B (fun (_ : β) W => W.heap[g]? = some o) :=
  fun _ W W' row hs hg hr => (hg.block g (Array.getElem?_eq_some_iff.1 hs).1 (fun e => by have := (hr g e.symm).1; omega)).trans hs

theorem kf_kept {S : Nat → Prop} {B : Nat} {W W' : World} (hk : Kept S W W') (hS : ∀ k, S k → k < B) : KeepsFrom B W W' :=
  ⟨hk.size, fun k o hB h _ => (hk.block k (Array.getElem?_eq_some_iff.1 h).1 (fun e => by have := hS k e; omega)).trans h⟩

/-- What the next answer is, if it is the right one. -/
theorem pre_next {pre ps : List (Int × Int)} {x : Int × Int} (h : pre ++ [x] <+: ps) : ps[pre.length]? = some x := by
  obtain ⟨r, rfl⟩ := h
  simp

/-- The cells that are read. -/
theorem Wa.cells {w : World} {vs : Value} {stop : Int} {b4 b5 b6 b7 b9 b10 b12 b13 t bm cx ca cb lb sc m : Nat} {ax ra rb sa : Option Addr} {ps : List (Int × Int)} {n : Int} {W : World} (h : Wa ⟨w, vs, stop, b4, b5, b6, b7, b9, b10, b12, b13, t, bm, ax, cx, ra, ca, rb, cb, lb, sa, sc, m, ps⟩ n W) :
    (W.cell? ⟨b4, 0, none⟩ = some vs ∧ W.cell? ⟨b5, 0, none⟩ = some (.int .i64 stop)) ∧ (W.cell? ⟨b6, 0, none⟩ = some (.bool false) ∧ W.frozen? ⟨b6, 0, none⟩ = false) ∧ W.cell? ⟨b7, 0, none⟩ = some (.pointer (some ⟨t, 0, none⟩)) ∧
    (W.cell? ⟨b9, 0, none⟩ = some (.slice ra m ca) ∧ W.cell? ⟨b10, 0, none⟩ = some (.slice rb m cb)) ∧ W.cell? ⟨b12, 0, none⟩ = some (.func (.func 37) #[] #[.pointer (some ⟨lb, 0, none⟩)]) ∧ (W.cell? ⟨b13, 0, none⟩ = some (.int .i64 n) ∧ W.frozen? ⟨b13, 0, none⟩ = false) := by
  refine ⟨⟨?_, ?_⟩, ⟨?_, h.r.frozen 0⟩, ?_, ⟨?_, ?_⟩, ?_, ?_, h.n.frozen 0⟩
  · exact h.v.cell 0
  · exact h.s.cell 0
  · exact h.r.cell 0
  · exact h.q.cell 0
  · exact h.a.cell 0
  · exact h.b.cell 0
  · exact h.f.cell 0
  · exact h.n.cell 0

/-- What the next answer is held against. -/
theorem Wa.row {p : Wp} {n : Int} {W : World} (h : Wa p n W) (hl : p.ps.length = p.m) {j : Nat} (hj : j < p.m) :
    ∃ ga oa gb ob y1 y2, p.ra = some ⟨ga, oa, none⟩ ∧ p.rb = some ⟨gb, ob, none⟩ ∧ W.cell? ⟨ga, oa + j, none⟩ = some (.int .i64 y1) ∧ W.cell? ⟨gb, ob + j, none⟩ = some (.int .i64 y2) ∧ p.ps[j]? = some (y1, y2) := by
  obtain ⟨ga, oa, e1, c1⟩ := h.an j (by rw [List.length_map, hl]; exact hj)
  obtain ⟨gb, ob, e2, c2⟩ := h.bn j (by rw [List.length_map, hl]; exact hj)
  have hj' : j < p.ps.length := by omega
  refine ⟨ga, oa, gb, ob, _, _, e1, e2, c1, c2, ?_⟩
  simp [List.getElem?_eq_getElem hj']

variable {F : Fence} {n : Nat} {P : Program}

/-- The library's law, with the frame behind the assignments as a function. -/
theorem rf_H {α : Type} {g : Operand} {ps : Array Tmp} {assign body : Code} {Q : Exit → Act → World → Prop} {a : Act} {w : World}
    (hro : F.round = none) (h1 : 1 ≤ n) {gf : Nat} {lb : Array Value} (hg : a.eval g = .func (.func gf) #[] lb) (hFg : F.fn gf) (eg : ∀ args w, (callFunc gf args).run P w = .ok (.enter gf args) w)
    {encs : α → Array Value} {Kp : World → World → Prop} {S Sp : List α → Prop} {N : Nat} {w0 : World} (hseq : SeqStopsK F (n - 1) P gf lb encs Kp S Sp N w0)
    (hKt : ∀ {A B C : World}, Kp A B → Kp B C → Kp A C) (hKb : ∀ (W : World) (l : Nat) (o o' : Obj), w.heap.size ≤ l → W.heap[l]? = some o → o.isCells = false → o.isWalk = false → Kp W (W.putObj l o')) (hb0 : Below w0.heap.size w0 w) (hps : ∀ x, (encs x).size = ps.size)
    (I : List α → World → Prop) (Ix : Code → List α → World → Prop) (hI : OwnFrom w.heap.size I) (hIx : ∀ c, OwnFrom w.heap.size (Ix c)) (h0 : I [] w) (hKr : ∀ W, Kp W W) (a₁ : α → Act)
    (hassign : ∀ (l : Nat) (x : α) (W : World) (K : Act → World → Prop), K (a₁ x) W →
      assign.wpIn (F.inRound l) (n - 1 - 1) P (Exit.then K (fun _ _ _ => False)) { tmps := (ps.zip (encs x)).foldl (fun t (p, v) => t.setIfInBounds p v) a.tmps, defers := [] } W)
    (hbody : ∀ (l : Nat) (pre : List α) (x : α) (W : World), w.heap.size ≤ l → (∃ r, W.heap[l]? = some (.loop r)) → I pre W → pre.length < N → body.wpIn (F.inRound l) (n - 1 - 1) P (ownPostG w.heap.size Kp I Ix (pre ++ [x]) W) (a₁ x) W)
    (hdone : ∀ (D : Nat) (xs : List α) (W : World), w.heap.size ≤ D → S xs → I xs W → W.heap[D]? = some (.deferred (some [])) → Q .normal { a with defers := { target := .collected D, args := #[] } :: a.defers } W)
    (hstop : ∀ (D : Nat) (c : Code) (pre : List α) (W : World), w.heap.size ≤ D → Sp pre → Ix c pre W → W.heap[D]? = some (.deferred (some [])) → c.wpIn F n P Q { a with defers := { target := .collected D, args := #[] } :: a.defers } W) :
    (Code.rangeFunc g ps assign body).wpIn F n P Q a w :=
  wpIn_rangeFunc_ownH hro h1 hg hFg eg hseq (fun h k => hKt h k) hKb hb0 hps I Ix hI hIx h0 (fun x a' _ => a' = a₁ x) (fun _ _ _ _ _ _ hs _ _ => hs)
    (fun l pre x W K hi hK => hassign l x W K (hK _ _ (KeepsFrom.refl _ _) (hKr W) hi rfl)) (fun l pre x a' W h1 h2 hi e => by subst e; exact hbody l pre x W h1 h2 hi) hdone hstop

theorem rf_N {α : Type} {g : Operand} {ps : Array Tmp} {assign body : Code} {Q : Exit → Act → World → Prop} {a : Act} {w : World}
    {l₀ : Nat} {r₀ : Loop} (hro : F.round = some l₀) (hl₀ : w.heap[l₀]? = some (.loop r₀)) (h1 : 1 ≤ n) {gf : Nat} {lb : Array Value} (hg : a.eval g = .func (.func gf) #[] lb) (hFg : F.fn gf) (eg : ∀ args w, (callFunc gf args).run P w = .ok (.enter gf args) w)
    {encs : α → Array Value} {Kp : World → World → Prop} {S Sp : List α → Prop} {N : Nat} {w0 : World} (hseq : SeqStopsK F (n - 1) P gf lb encs Kp S Sp N w0)
    (hKt : ∀ {A B C : World}, Kp A B → Kp B C → Kp A C) (hKb : ∀ (W : World) (l : Nat) (o o' : Obj), w.heap.size ≤ l → W.heap[l]? = some o → o.isCells = false → o.isWalk = false → Kp W (W.putObj l o')) (hb0 : Below w0.heap.size w0 w) (hps : ∀ x, (encs x).size = ps.size)
    (I : List α → World → Prop) (Ix : Code → List α → World → Prop) (hI : OwnFrom w.heap.size I) (hIx : ∀ c, OwnFrom w.heap.size (Ix c)) (h0 : I [] w) (hKr : ∀ W, Kp W W) (a₁ : α → Act)
    (hassign : ∀ (l : Nat) (x : α) (W : World) (K : Act → World → Prop), K (a₁ x) W →
      assign.wpIn (F.inRound l) (n - 1 - 1) P (Exit.then K (fun _ _ _ => False)) { tmps := (ps.zip (encs x)).foldl (fun t (p, v) => t.setIfInBounds p v) a.tmps, defers := [] } W)
    (hbody : ∀ (l : Nat) (pre : List α) (x : α) (W : World), w.heap.size ≤ l → (∃ r, W.heap[l]? = some (.loop r)) → I pre W → pre.length < N → body.wpIn (F.inRound l) (n - 1 - 1) P (ownPostG w.heap.size Kp I Ix (pre ++ [x]) W) (a₁ x) W)
    (hdone : ∀ (xs : List α) (W : World), S xs → I xs W → Q .normal a W)
    (hstop : ∀ (c : Code) (pre : List α) (W : World), Sp pre → Ix c pre W → c.wpIn F n P Q a W) :
    (Code.rangeFunc g ps assign body).wpIn F n P Q a w :=
  wpIn_rangeFunc_ownN hro hl₀ h1 hg hFg eg hseq (fun h k => hKt h k) hKb hb0 hps I Ix hI hIx h0 (fun x a' _ => a' = a₁ x) (fun _ _ _ _ _ _ hs _ _ => hs)
    (fun l pre x W K hi hK => hassign l x W K (hK _ _ (KeepsFrom.refl _ _) (hKr W) hi rfl)) (fun l pre x a' W h1 h2 hi e => by subst e; exact hbody l pre x W h1 h2 hi) hdone hstop

end Go.Proofs.Ytmhjbkpojndhkaa
