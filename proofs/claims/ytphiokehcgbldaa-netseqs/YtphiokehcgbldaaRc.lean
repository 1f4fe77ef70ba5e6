import Derived.Test.YtphiokehcgbldaaRb
namespace Go.Proofs.Ytphiokehcgbldaa
open Go.RowKit Go.Shelf
set_option linter.unusedVariables false
set_option linter.unusedSimpArgs false

/-- Both nets, off what the walker holds (O). -/
def We (w0 W : World) (n r : Nat) (O : Nat → Prop) (d : Nat) : Prop :=
  ∃ s ys ss X, Wd w0 W n r s ys ss X ∧ (∀ k, X k → ¬ O k) ∧ s.came ≤ d ∧ ss.length ≤ d ∧ ∀ k, O k → k < W.heap.size ∧ w0.heap.size ≤ k
/-- What a step may write. -/
def Wst (w0 W : World) (O : Nat → Prop) : Nat → Prop := fun k => ¬ O k ∧ (∀ cs fr, W.heap[k]? ≠ some (.cells cs 5 fr)) ∧ w0.heap.size ≤ k ∧ k < W.heap.size
section
variable {w0 W W' : World} {n r d d' : Nat} {O O' S : Nat → Prop}
theorem We.kept0 (h : We w0 W n r O d) : Kept No w0 W := by obtain ⟨_, _, _, _, h1, _⟩ := h; exact h1.kept
theorem We.lt (h : We w0 W n r O d) {k : Nat} (hk : O k) : k < W.heap.size ∧ w0.heap.size ≤ k := by obtain ⟨_, _, _, _, _, _, _, _, h1⟩ := h; exact h1 k hk
/-- The walker writes its own, or what is new. -/
theorem We.own (h : We w0 W n r O d) (hk : Kept S W W') (hS : ∀ k, S k → O k ∨ W.heap.size ≤ k) (hO : ∀ k, O' k → (O k ∨ W.heap.size ≤ k) ∧ k < W'.heap.size) : We w0 W' n r O' d := by
  obtain ⟨s, ys, ss, X, h1, h2, h3, h4, h5⟩ := h
  have hS0 : ∀ k, S k → w0.heap.size ≤ k := fun k e => by
    rcases hS k e with e | e
    · exact (h5 k e).2
    · exact Nat.le_trans h1.kept.size e
  refine ⟨s, ys, ss, fun k => X k ∧ k < W.heap.size, h1.kept' hk (fun k e l => ⟨fun f => ?_, e, l⟩) (fun k e f => by have := hS0 k f; omega) (fun k e => h1.low k e.1), fun k e f => ?_, h3, h4, fun k e => ⟨(hO k e).2, ?_⟩⟩
  · rcases hS k f with f | f
    · exact h2 k e f
    · omega
  · rcases (hO k f).1 with f | f
    · exact h2 k e.1 f
    · have := e.2; omega
  · rcases (hO k e).1 with e | e
    · exact (h5 k e).2
    · exact Nat.le_trans h1.kept.size e
theorem We.no (h : We w0 W n r O d) (hk : Kept No W W') : We w0 W' n r O d := h.own hk (fun k e => e.elim) (fun k e => ⟨.inl e, Nat.lt_of_lt_of_le (h.lt e).1 hk.size⟩)
theorem We.step (h : We w0 W n r O d) (hd : d ≤ 800000000) {x : St} (hx : StOk w0 x) :
    Calls Try.prog 9 #[.agg #[.pointer (some ⟨n, 0, none⟩), .pointer (some ⟨r, 0, none⟩)], .agg x.cs.toArray] W (fun e w' => e = .returned (.bool true) ∧ We w0 w' n r O (d + 70) ∧ Kept (Wst w0 W O) W w') := by
  obtain ⟨s, ys, ss, X, h1, h2, h3, h4, h5⟩ := h
  refine (wstep_any x W h1.cut hx (by omega) (by omega)).mono ?_
  rintro e w' ⟨rfl, s', ys', ss', g1, g2, g3, g4⟩
  refine ⟨rfl, ⟨s', ys', ss', _, g1, fun k e f => ?_, by omega, by omega, fun k e => ⟨Nat.lt_of_lt_of_le (h5 k e).1 g2.size, (h5 k e).2⟩⟩, g2.mono (fun k _ e => ⟨h2 k e.1.1, e.2, h1.low k e.1.1, e.1.2⟩)⟩
  rcases e with e | e
  · exact h2 k e.1 f
  · have := (h5 k f).1; omega
theorem We.under (h : We w0 W n r O d) (hd : d ≤ 800000000) : Calls Try.prog 10 #[.agg #[.pointer (some ⟨n, 0, none⟩), .pointer (some ⟨r, 0, none⟩)]] W (fun e w' => e = .returned (.bool true) ∧ Kept No W w') := by
  obtain ⟨s, ys, ss, X, h1, _, h3, _⟩ := h
  exact wunder_any W h1 (by omega)
end
/-- Where the walker's things lie. -/
structure Wh where
  bM : Nat
  bS : Nat
  bR : Nat
  bW : Nat
  bV : Nat
  bF : Nat
  lb : Nat
  sa : Option Addr
  wa : Option Addr
  wc : Nat
def Wh.B (h : Wh) : Nat → Prop := fun k => k = h.bM ∨ k = h.bS ∨ k = h.bR ∨ k = h.bW ∨ k = h.bV ∨ k = h.bF ∨ At h.wa k
/-- .. and all that the nets must be off. -/
def Wh.O (h : Wh) (E : Nat → Prop) : Nat → Prop := fun k => h.B k ∨ k = h.lb ∨ At h.sa k ∨ E k
/-- What the walker of NetSeqs holds. -/
structure Wk (w0 W : World) (h : Wh) (n r : Nat) (mv : Value) (stop : Int) (ys0 : List Tp) : Prop where
  fm : Box W h.bM 22 #[mv]
  fs : Box W h.bS 3 #[.int .i64 stop]
  fr : Box W h.bR 4 #[.bool false]
  fw : Box W h.bW 31 #[.pointer (some ⟨n, 0, none⟩), .pointer (some ⟨r, 0, none⟩)]
  fv : Box W h.bV 26 #[.slice h.wa ys0.length h.wc]
  ff : Box W h.bF 53 #[.func (.func 39) #[] #[.pointer (some ⟨h.lb, 0, none⟩)]]
  row : Own 44 6 W w0.heap.size h.wa h.wc ys0.length (ys0.flatMap pkL)
section
variable {w0 W W' : World} {h : Wh} {n r d : Nat} {mv : Value} {stop : Int} {ys0 : List Tp} {S E E' : Nat → Prop}
theorem Wk.kept (k : Wk w0 W h n r mv stop ys0) (hk : Kept S W W') (hS : ∀ k, h.B k → ¬ S k) : Wk w0 W' h n r mv stop ys0 :=
  ⟨k.fm.kept hk (hS _ (.inl rfl)), k.fs.kept hk (hS _ (.inr (.inl rfl))), k.fr.kept hk (hS _ (.inr (.inr (.inl rfl)))), k.fw.kept hk (hS _ (.inr (.inr (.inr (.inl rfl))))), k.fv.kept hk (hS _ (.inr (.inr (.inr (.inr (.inl rfl)))))), k.ff.kept hk (hS _ (.inr (.inr (.inr (.inr (.inr (.inl rfl))))))), k.row.kept hk (fun b e => hS b (.inr (.inr (.inr (.inr (.inr (.inr e)))))))⟩
theorem Wk.no (k : Wk w0 W h n r mv stop ys0) (hk : Kept No W W') : Wk w0 W' h n r mv stop ys0 := k.kept hk (fun _ _ e => e)
theorem Wk.lt (k : Wk w0 W h n r mv stop ys0) {b : Nat} (hb : h.B b) : b < W.heap.size := by
  rcases hb with e | e | e | e | e | e | e
  · rw [e]; exact k.fm.lt
  · rw [e]; exact k.fs.lt
  · rw [e]; exact k.fr.lt
  · rw [e]; exact k.fw.lt
  · rw [e]; exact k.fv.lt
  · rw [e]; exact k.ff.lt
  · exact Own.ltA k.row e
/-- All that stands within the turns: the walker's, a turn's number in its box, how many were seen. -/
structure Tn (w0 W : World) (h : Wh) (n r : Nat) (mv : Value) (stop : Int) (ys0 : List Tp) (E : Nat → Prop) (bT t bN c d : Nat) : Prop where
  wk : Wk w0 W h n r mv stop ys0
  bt : Box W bT 3 #[.int .i64 (t : Nat)]
  bn : Box W bN 3 #[.int .i64 (c : Nat)]
  we : We w0 W n r (h.O E) d
  et : E bT ∧ E bN
  eo : ∀ k, E k → ¬ h.B k ∧ k ≠ h.lb ∧ ¬ At h.sa k
  ne : bT ≠ bN
variable {bT t bN c c' : Nat}
/-- What is written is the walker's own and not in its boxes, or new. -/
theorem Tn.own (k : Tn w0 W h n r mv stop ys0 E bT t bN c d) (hk : Kept S W W') (hS : ∀ b, S b → (E b ∧ b ≠ bT ∧ b ≠ bN) ∨ W.heap.size ≤ b) (hE : ∀ b, E' b → (E b ∨ W.heap.size ≤ b) ∧ b < W'.heap.size) (hE2 : E' bT ∧ E' bN) : Tn w0 W' h n r mv stop ys0 E' bT t bN c d := by
  have hB : ∀ b, h.B b → ¬ S b := fun b e f => by
    rcases hS b f with f | f
    · exact (k.eo b f.1).1 e
    · have := k.wk.lt e; omega
  refine ⟨k.wk.kept hk hB, k.bt.kept hk (fun f => ?_), k.bn.kept hk (fun f => ?_), k.we.own hk (fun b f => ?_) (fun b e => ?_), hE2, fun b e => ?_, k.ne⟩
  · rcases hS _ f with f | f
    · exact f.2.1 rfl
    · have := k.bt.lt; omega
  · rcases hS _ f with f | f
    · exact f.2.2 rfl
    · have := k.bn.lt; omega
  · rcases hS b f with f | f
    · exact .inl (.inr (.inr (.inr f.1)))
    · exact .inr f
  · rcases e with e | e | e | e
    · exact ⟨.inl (.inl e), Nat.lt_of_lt_of_le (k.wk.lt e) hk.size⟩
    · have := k.we.lt (k := b) (.inr (.inl e)); exact ⟨.inl (.inr (.inl e)), Nat.lt_of_lt_of_le this.1 hk.size⟩
    · have := k.we.lt (k := b) (.inr (.inr (.inl e))); exact ⟨.inl (.inr (.inr (.inl e))), Nat.lt_of_lt_of_le this.1 hk.size⟩
    · have := hE b e
      exact ⟨this.1.imp (fun f => .inr (.inr (.inr f))) id, this.2⟩
  · rcases (hE b e).1 with f | f
    · exact k.eo b f
    · have h1 : b = h.lb → b < W.heap.size := fun e => (k.we.lt (k := b) (.inr (.inl e))).1
      have h2 : At h.sa b → b < W.heap.size := fun e => (k.we.lt (k := b) (.inr (.inr (.inl e)))).1
      exact ⟨fun g => by have := k.wk.lt g; omega, fun g => by have := h1 g; omega, fun g => by have := h2 g; omega⟩
theorem Tn.no (k : Tn w0 W h n r mv stop ys0 E bT t bN c d) (hk : Kept No W W') : Tn w0 W' h n r mv stop ys0 E bT t bN c d := k.own hk (fun b e => e.elim) (fun b e => ⟨.inl e, Nat.lt_of_lt_of_le (k.we.lt (.inr (.inr (.inr e)))).1 hk.size⟩) k.et
/-- The count goes on. -/
theorem Tn.cnt (k : Tn w0 W h n r mv stop ys0 E bT t bN c d) : Tn w0 (W.setCell ⟨bN, 0, none⟩ (.int .i64 ((c : Int) + 1))) h n r mv stop ys0 E bT t bN (c + 1) d ∧ Kept (Only bN) W (W.setCell ⟨bN, 0, none⟩ (.int .i64 ((c : Int) + 1))) := by
  have hk : Kept (Only bN) W (W.setCell ⟨bN, 0, none⟩ (.int .i64 ((c : Int) + 1))) := (Kept.refl (Only bN) W).setCell (p := ⟨bN, 0, none⟩) (fun _ => rfl) _
  have hb := k.bn.set 0 (.int .i64 ((c : Int) + 1))
  refine ⟨⟨k.wk.kept hk (fun b e f => ?_), k.bt.kept hk (fun f => k.ne f), by simpa using hb, k.we.own hk (fun b f => ?_) (fun b e => ⟨.inl e, Nat.lt_of_lt_of_le (k.we.lt e).1 hk.size⟩), k.et, k.eo, k.ne⟩, hk⟩
  · have f : b = bN := f
    rw [f] at e
    exact (k.eo bN k.et.2).1 e
  · have f : b = bN := f
    rw [f]; exact .inl (.inr (.inr (.inr k.et.2)))
/-- A step. -/
theorem Tn.step (k : Tn w0 W h n r mv stop ys0 E bT t bN c d) (hd : d ≤ 800000000) {x : St} (hx : StOk w0 x) :
    Calls Try.prog 9 #[.agg #[.pointer (some ⟨n, 0, none⟩), .pointer (some ⟨r, 0, none⟩)], .agg x.cs.toArray] W (fun e w' => e = .returned (.bool true) ∧ Tn w0 w' h n r mv stop ys0 E bT t bN c (d + 70) ∧ Kept (Wst w0 W (h.O E)) W w') := by
  refine (k.we.step hd hx).mono ?_
  rintro e w' ⟨rfl, hw, hk⟩
  exact ⟨rfl, ⟨k.wk.kept hk (fun b e f => f.1 (.inl e)), k.bt.kept hk (fun f => f.1 (.inr (.inr (.inr k.et.1)))), k.bn.kept hk (fun f => f.1 (.inr (.inr (.inr k.et.2)))), hw, k.et, k.eo, k.ne⟩, hk⟩
end
end Go.Proofs.Ytphiokehcgbldaa
