import Derived.Test.YtmhjbkpojndhkabGk
namespace Go.Proofs.Ytmhjbkpojndhkab
open Go.RowKit Go.Shelf
set_option linter.unusedVariables false
set_option linter.unusedSimpArgs false
namespace Gt

/-- The numbers of the blocks. -/
structure Kp where
  w : World
  b4 : Nat
  b5 : Nat
  b8 : Nat
  b9 : Nat
  N0 : Nat
  ts : Nat
  ms : Nat
  tp : Nat
  mp : Nat
  tz : Nat
  mz : Nat
  a1 : Option Addr
  a2 : Option Addr
  a3 : Option Addr
  c1 : Nat
  c2 : Nat
  c3 : Nat
structure Kd (p : Kp) : Prop where
  m12 : p.ms ≠ p.mp
  m13 : p.ms ≠ p.mz
  m23 : p.mp ≠ p.mz
  t1 : ∀ k, TB p.ts p.ms p.a1 k → p.w.heap.size ≤ k ∧ k < p.N0
  t2 : ∀ k, TB p.tp p.mp p.a2 k → p.w.heap.size ≤ k ∧ k < p.N0
  t3 : ∀ k, TB p.tz p.mz p.a3 k → p.w.heap.size ≤ k ∧ k < p.N0
  o4 : p.w.heap.size ≤ p.b4 ∧ p.b4 < p.N0
  o5 : p.w.heap.size ≤ p.b5 ∧ p.b5 < p.N0
  o8 : p.w.heap.size ≤ p.b8 ∧ p.b8 < p.N0
  o9 : p.w.heap.size ≤ p.b9 ∧ p.b9 < p.N0
theorem Kd.n0 {p : Kp} (d : Kd p) : p.w.heap.size < p.N0 := by have := d.o4; omega

def liveB (N0 : Nat) (wa : Option Addr) (W : World) (b : Nat) : Prop := N0 ≤ b ∧ (∃ v i : Int, Box W b 3 #[.int .i64 v, .int .i64 i]) ∧ ¬ At wa b

structure Km (p : Kp) (who : List Int) (ls bs : List Nat) (X : TS ByteArray) (Y : TS P.Pr) (Z : TS (Option Addr)) (wa : Option Addr) (wc : Nat) (la : Option Addr) (lc : Nat) (W : World) : Prop where
  r : Box W p.b4 4 #[.bool false]
  s : Box W p.b5 25 #[.pointer (some ⟨p.ts, 0, none⟩)]
  tS : Tal 64 S.ans W p.ts p.ms p.a1 p.c1 X
  tP : Tal 70 P.ans W p.tp p.mp p.a2 p.c2 Y
  tZ : Tal 76 Gt.Z.ans W p.tz p.mz p.a3 p.c3 Z
  hw : Box W p.b8 22 #[.slice wa who.length wc]
  ow : Own 3 1 W p.N0 wa wc who.length (who.map (Value.int .i64))
  hl : Box W p.b9 33 #[.slice la ls.length lc]
  ol : Own 22 1 W p.N0 la lc ls.length (ls.map slV)
  lb : ∀ b ∈ bs, liveB p.N0 wa W b
  sub : ∀ b ∈ ls, b ∈ bs
  k : Kept No p.w W
  sz : p.N0 ≤ W.heap.size

section
variable {p : Kp} {who : List Int} {ls bs : List Nat} {X : TS ByteArray} {Y : TS P.Pr} {Z : TS (Option Addr)} {wa la : Option Addr} {wc lc : Nat} {W W' : World}

theorem liveB.kept {S : Nat → Prop} {N0 b : Nat} (h : liveB N0 wa W b) (hk : Kept S W W') (hS : ¬ S b) : liveB N0 wa W' b :=
  ⟨h.1, by obtain ⟨v, i, hb⟩ := h.2.1; exact ⟨v, i, hb.kept hk hS⟩, h.2.2⟩
theorem Km.no (h : Km p who ls bs X Y Z wa wc la lc W) (hk : Kept No W W') : Km p who ls bs X Y Z wa wc la lc W' :=
  ⟨h.r.kept hk (fun e => e), h.s.kept hk (fun e => e), h.tS.no hk, h.tP.no hk, h.tZ.no hk, h.hw.kept hk (fun e => e), h.ow.no hk, h.hl.kept hk (fun e => e), h.ol.no hk, fun b hb => (h.lb b hb).kept hk (fun e => e), h.sub, h.k.then hk, Nat.le_trans h.sz hk.size⟩
theorem Km.new (h : Km p who ls bs X Y Z wa wc la lc W) (v i : Int) : Km p who ls (bs ++ [W.heap.size]) X Y Z wa wc la lc (W.alloc (.cells #[.int .i64 v, .int .i64 i] 3)) := by
  have hk : Kept No W (W.alloc (.cells #[.int .i64 v, .int .i64 i] 3)) := (Kept.refl No W).alloc _
  have h' := h.no hk
  refine ⟨h'.r, h'.s, h'.tS, h'.tP, h'.tZ, h'.hw, h'.ow, h'.hl, h'.ol, ?_, fun b hb => by simp [h.sub b hb], h'.k, h'.sz⟩
  intro b hb
  rcases List.mem_append.1 hb with hb | hb
  · exact h'.lb b hb
  · obtain rfl : b = W.heap.size := by simpa using hb
    exact ⟨h.sz, ⟨v, i, Box.new _ _ _⟩, fun e => by have := (at_lt h.ow e).2; omega⟩

theorem low {S : Nat → Prop} {a w w' : World} (h : Kept No a w) (hk : Kept S w w') (hS : ∀ k, k < a.heap.size → ¬ S k) : Kept No a w' :=
  h.trans hk (fun _ e => e) (fun i hi e => hS i hi e)
theorem live_far {α : Type} {f : Option α → Value} {T : TypeId} {t b cap N0 q : Nat} {a : Option Addr} {x : TS α} (h : Tal T f W t b a cap x) (hl : liveB N0 wa W q) : ¬ Tb2 t b q := by
  obtain ⟨v, i, hb⟩ := hl.2.1
  exact box_far h hb (fun e => h.ty e.symm)

theorem Km.takeS {X' : TS ByteArray} (d : Kd p) (h : Km p who ls bs X Y Z wa wc la lc W) (hk : Kept (Tb2 p.ts p.ms) W W') (hT : Tal 64 S.ans W' p.ts p.ms p.a1 p.c1 X') : Km p who ls bs X' Y Z wa wc la lc W' := by
  have t := h.tS
  refine ⟨h.r.kept hk (box_far t h.r (by decide)), h.s.kept hk (box_far t h.s (by decide)), hT, h.tP.kept hk (fun k e => tal_far t h.tP (by decide) (Ne.symm d.m12) e), h.tZ.kept hk (fun k e => tal_far t h.tZ (by decide) (Ne.symm d.m13) e), h.hw.kept hk (box_far t h.hw (by decide)), h.ow.kept hk (fun k e => own_far t h.ow (by decide) e), h.hl.kept hk (box_far t h.hl (by decide)), h.ol.kept hk (fun k e => own_far t h.ol (by decide) e), fun b hb => (h.lb b hb).kept hk (live_far t (h.lb b hb)), h.sub, low h.k hk (fun k hk' e => ?_), Nat.le_trans h.sz hk.size⟩
  have := d.t1 k (by rcases e with e | e; exact .inl e; exact .inr (.inl e)); omega
theorem Km.takeP {Y' : TS P.Pr} (d : Kd p) (h : Km p who ls bs X Y Z wa wc la lc W) (hk : Kept (Tb2 p.tp p.mp) W W') (hT : Tal 70 P.ans W' p.tp p.mp p.a2 p.c2 Y') : Km p who ls bs X Y' Z wa wc la lc W' := by
  have t := h.tP
  refine ⟨h.r.kept hk (box_far t h.r (by decide)), h.s.kept hk (box_far t h.s (by decide)), h.tS.kept hk (fun k e => tal_far t h.tS (by decide) d.m12 e), hT, h.tZ.kept hk (fun k e => tal_far t h.tZ (by decide) (Ne.symm d.m23) e), h.hw.kept hk (box_far t h.hw (by decide)), h.ow.kept hk (fun k e => own_far t h.ow (by decide) e), h.hl.kept hk (box_far t h.hl (by decide)), h.ol.kept hk (fun k e => own_far t h.ol (by decide) e), fun b hb => (h.lb b hb).kept hk (live_far t (h.lb b hb)), h.sub, low h.k hk (fun k hk' e => ?_), Nat.le_trans h.sz hk.size⟩
  have := d.t2 k (by rcases e with e | e; exact .inl e; exact .inr (.inl e)); omega
theorem Km.takeZ {Z' : TS (Option Addr)} (d : Kd p) (h : Km p who ls bs X Y Z wa wc la lc W) (hk : Kept (Tb2 p.tz p.mz) W W') (hT : Tal 76 Gt.Z.ans W' p.tz p.mz p.a3 p.c3 Z') : Km p who ls bs X Y Z' wa wc la lc W' := by
  have t := h.tZ
  refine ⟨h.r.kept hk (box_far t h.r (by decide)), h.s.kept hk (box_far t h.s (by decide)), h.tS.kept hk (fun k e => tal_far t h.tS (by decide) d.m13 e), h.tP.kept hk (fun k e => tal_far t h.tP (by decide) d.m23 e), hT, h.hw.kept hk (box_far t h.hw (by decide)), h.ow.kept hk (fun k e => own_far t h.ow (by decide) e), h.hl.kept hk (box_far t h.hl (by decide)), h.ol.kept hk (fun k e => own_far t h.ol (by decide) e), fun b hb => (h.lb b hb).kept hk (live_far t (h.lb b hb)), h.sub, low h.k hk (fun k hk' e => ?_), Nat.le_trans h.sz hk.size⟩
  have := d.t3 k (by rcases e with e | e; exact .inl e; exact .inr (.inl e)); omega

/-- One more who has answered. -/
theorem Km.app1 (d : Kd p) (h : Km p who ls bs X Y Z wa wc la lc W) {s : Int} {n g' cap' : Nat} (hk : Kept (At wa) W W') (ho : Own 3 1 W' p.N0 (some ⟨g', 0, none⟩) cap' n (who.map (Value.int .i64) ++ [.int .i64 s])) (hn : n = who.length + 1) (hat : At wa g' ∨ W.heap.size ≤ g') :
    Box W' p.b8 22 #[.slice wa who.length wc] ∧ Km p (who ++ [s]) ls bs X Y Z (some ⟨g', 0, none⟩) cap' la lc (W'.setCell ⟨p.b8, 0, none⟩ (.slice (some ⟨g', 0, none⟩) n cap')) := by
  subst hn
  have b1 : ∀ {b ty : Nat} {cs : Array Value}, Box W b ty cs → ty ≠ 3 → ¬ At wa b := fun hb ht e => box_row hb ht h.ow e rfl
  have hb8 : Box W' p.b8 22 #[.slice wa who.length wc] := h.hw.kept hk (b1 h.hw (by decide))
  have ks : Kept (Only p.b8) W' (W'.setCell ⟨p.b8, 0, none⟩ (.slice (some ⟨g', 0, none⟩) (who.length + 1) cap')) := (Kept.refl (Only p.b8) W').setCell (p := ⟨p.b8, 0, none⟩) (fun _ => rfl) _
  have kk : Kept (fun k => At wa k ∨ k = p.b8) W (W'.setCell ⟨p.b8, 0, none⟩ (.slice (some ⟨g', 0, none⟩) (who.length + 1) cap')) := hk.trans ks (fun _ e => .inl e) (fun _ _ e => .inr e)
  have far : ∀ {b ty : Nat} {cs : Array Value}, Box W b ty cs → ty ≠ 3 → b ≠ p.b8 → ¬ (At wa b ∨ b = p.b8) := fun hb ht hne e => e.elim (b1 hb ht) hne
  have ne : ∀ {b ty : Nat} {cs : Array Value}, Box W b ty cs → ty ≠ 22 → b ≠ p.b8 := fun hb ht e => by
    rw [e] at hb
    have := h.hw
    unfold Box at hb this
    rw [this] at hb
    simp at hb
    exact ht hb.2.symm
  have tf : ∀ {α : Type} {f : Option α → Value} {T : TypeId} {t b cap : Nat} {a : Option Addr} {x : TS α}, Tal T f W t b a cap x → T ≠ 22 → (∀ k, TB t b a k → p.w.heap.size ≤ k ∧ k < p.N0) → ∀ k, TB t b a k → ¬ (At wa k ∨ k = p.b8) := by
    intro α f T t b cap a x ht hT ho k hk e
    rcases e with e | e
    · have h1 := (at_lt h.ow e).1; have h2 := ho k hk; omega
    · have hne : ¬ Tb2 t b p.b8 := box_far ht h.hw (Ne.symm hT)
      rcases hk with rfl | rfl | hk
      · exact hne (.inl e.symm)
      · exact hne (.inr e.symm)
      · exact box_row h.hw (by decide) ht.row hk e
  have hsz := Nat.le_trans h.sz kk.size
  refine ⟨hb8, h.r.kept kk (far h.r (by decide) (ne h.r (by decide))), h.s.kept kk (far h.s (by decide) (ne h.s (by decide))), h.tS.kept kk (tf h.tS (by decide) d.t1), h.tP.kept kk (tf h.tP (by decide) d.t2), h.tZ.kept kk (tf h.tZ (by decide) d.t3), ?_, ?_, h.hl.kept kk (far h.hl (by decide) (ne h.hl (by decide))), h.ol.kept kk (fun k e f => ?_), fun b hb => ?_, h.sub, low h.k kk (fun k hk' e => ?_), hsz⟩
  · have := hb8.set 0 (.slice (some ⟨g', 0, none⟩) (who.length + 1) cap')
    simpa using this
  · have := ho.kept ks (fun k e f => by have f : k = p.b8 := f; exact box_row hb8 (by decide) ho e f)
    simpa using this
  · rcases f with f | f
    · exact own_ne h.ol h.ow (by decide) e f
    · have h1 := (at_lt h.ol e).1; have := d.o8; omega
  · obtain ⟨h1, ⟨v, i, h2⟩, h3⟩ := h.lb b hb
    refine ⟨h1, ⟨v, i, h2.kept kk (fun e => e.elim h3 (fun e => ne h2 (by decide) e))⟩, ?_⟩
    rintro ⟨ad, e, rfl⟩
    cases e
    rcases hat with e | e
    · exact h3 e
    · have h5 : g' < W.heap.size := h2.lt
      omega
  · have h0 := d.n0
    rcases e with e | e
    · have := (at_lt h.ow e).1; omega
    · have := d.o8; omega

/-- One more list. -/
theorem Km.app2 (d : Kd p) (h : Km p who ls bs X Y Z wa wc la lc W) {b n g' cap' : Nat} (hb0 : b ∈ bs) (hk : Kept (At la) W W') (ho : Own 22 1 W' p.N0 (some ⟨g', 0, none⟩) cap' n (ls.map slV ++ [slV b])) (hn : n = ls.length + 1) :
    Box W' p.b9 33 #[.slice la ls.length lc] ∧ Km p who (ls ++ [b]) bs X Y Z wa wc (some ⟨g', 0, none⟩) cap' (W'.setCell ⟨p.b9, 0, none⟩ (.slice (some ⟨g', 0, none⟩) n cap')) := by
  subst hn
  have b1 : ∀ {b ty : Nat} {cs : Array Value}, Box W b ty cs → ty ≠ 22 → ¬ At la b := fun hb ht e => box_row hb ht h.ol e rfl
  have hb9 : Box W' p.b9 33 #[.slice la ls.length lc] := h.hl.kept hk (b1 h.hl (by decide))
  have ks : Kept (Only p.b9) W' (W'.setCell ⟨p.b9, 0, none⟩ (.slice (some ⟨g', 0, none⟩) (ls.length + 1) cap')) := (Kept.refl (Only p.b9) W').setCell (p := ⟨p.b9, 0, none⟩) (fun _ => rfl) _
  have kk : Kept (fun k => At la k ∨ k = p.b9) W (W'.setCell ⟨p.b9, 0, none⟩ (.slice (some ⟨g', 0, none⟩) (ls.length + 1) cap')) := hk.trans ks (fun _ e => .inl e) (fun _ _ e => .inr e)
  have ne : ∀ {b ty : Nat} {cs : Array Value}, Box W b ty cs → ty ≠ 33 → b ≠ p.b9 := fun hb ht e => by
    rw [e] at hb
    have := h.hl
    unfold Box at hb this
    rw [this] at hb
    simp at hb
    exact ht hb.2.symm
  have far : ∀ {b ty : Nat} {cs : Array Value}, Box W b ty cs → ty ≠ 22 → ty ≠ 33 → ¬ (At la b ∨ b = p.b9) := fun hb ht ht' e => e.elim (b1 hb ht) (ne hb ht')
  have tf : ∀ {α : Type} {f : Option α → Value} {T : TypeId} {t b cap : Nat} {a : Option Addr} {x : TS α}, Tal T f W t b a cap x → T ≠ 33 → (∀ k, TB t b a k → p.w.heap.size ≤ k ∧ k < p.N0) → ∀ k, TB t b a k → ¬ (At la k ∨ k = p.b9) := by
    intro α f T t b cap a x ht hT ho k hk e
    rcases e with e | e
    · have h1 := (at_lt h.ol e).1; have h2 := ho k hk; omega
    · have hne : ¬ Tb2 t b p.b9 := box_far ht h.hl (Ne.symm hT)
      rcases hk with rfl | rfl | hk
      · exact hne (.inl e.symm)
      · exact hne (.inr e.symm)
      · exact box_row h.hl (by decide) ht.row hk e
  have hsz := Nat.le_trans h.sz kk.size
  refine ⟨hb9, h.r.kept kk (far h.r (by decide) (by decide)), h.s.kept kk (far h.s (by decide) (by decide)), h.tS.kept kk (tf h.tS (by decide) d.t1), h.tP.kept kk (tf h.tP (by decide) d.t2), h.tZ.kept kk (tf h.tZ (by decide) d.t3), h.hw.kept kk (fun e => ?_), h.ow.kept kk (fun k e f => ?_), ?_, ?_, fun b hb => ?_, fun q hq => ?_, low h.k kk (fun k hk' e => ?_), hsz⟩
  · rcases e with e | e
    · have h1 := (at_lt h.ol e).1; have := d.o8; omega
    · exact ne h.hw (by decide) e
  · rcases f with f | f
    · exact own_ne h.ow h.ol (by decide) e f
    · have h1 := (at_lt h.ow e).1; have := d.o9; omega
  · have := hb9.set 0 (.slice (some ⟨g', 0, none⟩) (ls.length + 1) cap')
    simpa using this
  · have := ho.kept ks (fun k e f => by have f : k = p.b9 := f; exact box_row hb9 (by decide) ho e f)
    simpa using this
  · obtain ⟨h1, ⟨v, i, h2⟩, h3⟩ := h.lb b hb
    exact ⟨h1, ⟨v, i, h2.kept kk (far h2 (by decide) (by decide))⟩, h3⟩
  · rcases List.mem_append.1 hq with hq | hq
    · exact h.sub q hq
    · obtain rfl : q = b := by simpa using hq
      exact hb0
  · have h0 := d.n0
    rcases e with e | e
    · have := (at_lt h.ol e).1; omega
    · have := d.o9; omega
end
end Gt
end Go.Proofs.Ytmhjbkpojndhkab
