import Derived.Test.YtphiokehcgbldaaRb
namespace Go.Proofs.Ytphiokehcgbldaa
open Go.RowKit Go.Shelf
set_option linter.unusedVariables false
set_option linter.unusedSimpArgs false
/-- Both nets, off what the walker holds (O). -/
def We (w0 W : World) (n r : Nat) (O : Nat → Prop) (d : Nat) : Prop :=
  ∃ s ys ss X, Wd w0 W n r s ys ss X ∧ (∀ k, X k → ¬ O k) ∧ s.came ≤ d ∧ ss.length ≤ d ∧ ∀ k, O k → k < W.heap.size ∧ w0.heap.size ≤ k
/-- What a step may write. -/
def Wst (w0 W : World) (O : Nat → Prop) : Nat → Prop := fun k => ¬ O k ∧ (∀ cs fr, W.heap[k]? ≠ some (.cells cs 5 fr)) ∧ w0.heap.size ≤ k ∧ k < W.heap.size
section
variable {w0 W W' : World} {n r d d' : Nat} {O O' S : Nat → Prop}
theorem We.kept0 (h : We w0 W n r O d) : Kept No w0 W := by obtain ⟨_, _, _, _, h1, _⟩ := h; exact h1.kept
theorem We.lt (h : We w0 W n r O d) {k : Nat} (hk : O k) : k < W.heap.size ∧ w0.heap.size ≤ k := by obtain ⟨_, _, _, _, _, _, _, _, h1⟩ := h; exact h1 k hk
/-- The walker writes its own, or what is new. -/
theorem We.own (h : We w0 W n r O d) (hk : Kept S W W') (hS : ∀ k, S k → O k ∨ W.heap.size ≤ k) (hO : ∀ k, O' k → (O k ∨ W.heap.size ≤ k) ∧ k < W'.heap.size) : We w0 W' n r O' d := by
  obtain ⟨s, ys, ss, X, h1, h2, h3, h4, h5⟩ := h
  have hS0 : ∀ k, S k → w0.heap.size ≤ k := fun k e => by
    rcases hS k e with e | e
    · exact (h5 k e).2
    · exact Nat.le_trans h1.kept.size e
  refine ⟨s, ys, ss, fun k => X k ∧ k < W.heap.size, h1.kept' hk (fun k e l => ⟨fun f => ?_, e, l⟩) (fun k e f => by have := hS0 k f; omega) (fun k e => h1.low k e.1), fun k e f => ?_, h3, h4, fun k e => ⟨(hO k e).2, ?_⟩⟩
  · rcases hS k f with f | f
    · exact h2 k e f
    · omega
  · rcases (hO k f).1 with f | f
    · exact h2 k e.1 f
    · have := e.2; omega
  · rcases (hO k e).1 with e | e
    · exact (h5 k e).2
    · exact Nat.le_trans h1.kept.size e
theorem We.no (h : We w0 W n r O d) (hk : Kept No W W') : We w0 W' n r O d := h.own hk (fun k e => e.elim) (fun k e => ⟨.inl e, Nat.lt_of_lt_of_le (h.lt e).1 hk.size⟩)
theorem We.step (h : We w0 W n r O d) (hd : d ≤ 800000000) {x : St} (hx : StOk w0 x) :
    Calls Try.prog 9 #[.agg #[.pointer (some ⟨n, 0, none⟩), .pointer (some ⟨r, 0, none⟩)], .agg x.cs.toArray] W (fun e w' => e = .returned (.bool true) ∧ We w0 w' n r O (d + 70) ∧ Kept (Wst w0 W O) W w') := by
  obtain ⟨s, ys, ss, X, h1, h2, h3, h4, h5⟩ := h
  refine (wstep_any x W h1.cut hx (by omega) (by omega)).mono ?_
  rintro e w' ⟨rfl, s', ys', ss', g1, g2, g3, g4⟩
  refine ⟨rfl, ⟨s', ys', ss', _, g1, fun k e f => ?_, by omega, by omega, fun k e => ⟨Nat.lt_of_lt_of_le (h5 k e).1 g2.size, (h5 k e).2⟩⟩, g2.mono (fun k _ e => ⟨h2 k e.1.1, e.2, h1.low k e.1.1, e.1.2⟩)⟩
  rcases e with e | e
  · exact h2 k e.1 f
  · have := (h5 k f).1; omega
theorem We.under (h : We w0 W n r O d) (hd : d ≤ 800000000) : Calls Try.prog 10 #[.agg #[.pointer (some ⟨n, 0, none⟩), .pointer (some ⟨r, 0, none⟩)]] W (fun e w' => e = .returned (.bool true) ∧ Kept No W w') := by
  obtain ⟨s, ys, ss, X, h1, _, h3, _⟩ := h
  exact wunder_any W h1 (by omega)
end
/-- Where the walker's things lie. -/
structure Wh where
  bM : Nat
  bS : Nat
  bR : Nat
  bW : Nat
  bV : Nat
  bF : Nat
  lb : Nat
  sa : Option Addr
  wa : Option Addr
  wc : Nat
def Wh.B (h : Wh) : Nat → Prop := fun k => k = h.bM ∨ k = h.bS ∨ k = h.bR ∨ k = h.bW ∨ k = h.bV ∨ k = h.bF ∨ At h.wa k
/-- .. and all that the nets must be off. -/
def Wh.O (h : Wh) (E : Nat → Prop) : Nat → Prop := fun k => h.B k ∨ k = h.lb ∨ At h.sa k ∨ E k
/-- What the walker of NetSeqs holds. -/
structure Wk (w0 W : World) (h : Wh) (n r : Nat) (mv : Value) (stop : Int) (ys0 : List Tp) : Prop where
  fm : Box W h.bM 22 #[mv]
  fs : Box W h.bS 3 #[.int .i64 stop]
  fr : Box W h.bR 4 #[.bool false]
  fw : Box W h.bW 31 #[.pointer (some ⟨n, 0, none⟩), .pointer (some ⟨r, 0, none⟩)]
  fv : Box W h.bV 26 #[.slice h.wa ys0.length h.wc]
  ff : Box W h.bF 53 #[.func (.func 39) #[] #[.pointer (some ⟨h.lb, 0, none⟩)]]
  row : Own 44 6 W w0.heap.size h.wa h.wc ys0.length (ys0.flatMap pkL)
section
variable {w0 W W' : World} {h : Wh} {n r d : Nat} {mv : Value} {stop : Int} {ys0 : List Tp} {S E E' : Nat → Prop}
theorem Wk.kept (k : Wk w0 W h n r mv stop ys0) (hk : Kept S W W') (hS : ∀ k, h.B k → ¬ S k) : Wk w0 W' h n r mv stop ys0 :=
  ⟨k.fm.kept hk (hS _ (.inl rfl)), k.fs.kept hk (hS _ (.inr (.inl rfl))), k.fr.kept hk (hS _ (.inr (.inr (.inl rfl)))), k.fw.kept hk (hS _ (.inr (.inr (.inr (.inl rfl))))), k.fv.kept hk (hS _ (.inr (.inr (.inr (.inr (.inl rfl)))))), k.ff.kept hk (hS _ (.inr (.inr (.inr (.inr (.inr (.inl rfl))))))), k.row.kept hk (fun b e => hS b (.inr (.inr (.inr (.inr (.inr (.inr e)))))))⟩
theorem Wk.no (k : Wk w0 W h n r mv stop ys0) (hk : Kept No W W') : Wk w0 W' h n r mv stop ys0 := k.kept hk (fun _ _ e => e)
theorem Wk.lt (k : Wk w0 W h n r mv stop ys0) {b : Nat} (hb : h.B b) : b < W.heap.size := by
  rcases hb with e | e | e | e | e | e | e
  · rw [e]; exact k.fm.lt
  · rw [e]; exact k.fs.lt
  · rw [e]; exact k.fr.lt
  · rw [e]; exact k.fw.lt
  · rw [e]; exact k.fv.lt
  · rw [e]; exact k.ff.lt
  · exact Own.ltA k.row e
/-- All that stands within the turns: the walker's, a turn's number in its box, how many were seen. -/
structure Tn (w0 W : World) (h : Wh) (n r : Nat) (mv : Value) (stop : Int) (ys0 : List Tp) (E : Nat → Prop) (bT t bN c d : Nat) : Prop where
  wk : Wk w0 W h n r mv stop ys0
  bt : Box W bT 3 #[.int .i64 (t : Nat)]
  bn : Box W bN 3 #[.int .i64 (c : Nat)]
  we : We w0 W n r (h.O E) d
  et : E bT ∧ E bN
  eo : ∀ k, E k → ¬ h.B k ∧ k ≠ h.lb ∧ ¬ At h.sa k
  ne : bT ≠ bN
variable {bT t bN c c' : Nat}
/-- What is written is the walker's own and not in its boxes, or new. -/
theorem Tn.own (k : Tn w0 W h n r mv stop ys0 E bT t bN c d) (hk : Kept S W W') (hS : ∀ b, S b → (E b ∧ b ≠ bT ∧ b ≠ bN) ∨ W.heap.size ≤ b) (hE : ∀ b, E' b → (E b ∨ W.heap.size ≤ b) ∧ b < W'.heap.size) (hE2 : E' bT ∧ E' bN) : Tn w0 W' h n r mv stop ys0 E' bT t bN c d := by
  have hB : ∀ b, h.B b → ¬ S b := fun b e f => by
    rcases hS b f with f | f
    · exact (k.eo b f.1).1 e
    · have := k.wk.lt e; omega
  refine ⟨k.wk.kept hk hB, k.bt.kept hk (fun f => ?_), k.bn.kept hk (fun f => ?_), k.we.own hk (fun b f => ?_) (fun b e => ?_), hE2, fun b e => ?_, k.ne⟩
  · rcases hS _ f with f | f
    · exact f.2.1 rfl
    · have := k.bt.lt; omega
  · rcases hS _ f with f | f
    · exact f.2.2 rfl
    · have := k.bn.lt; omega
  · rcases hS b f with f | f
    · exact .inl (.inr (.inr (.inr f.1)))
    · exact .inr f
  · rcases e with e | e | e | e
    · exact ⟨.inl (.inl e), Nat.lt_of_lt_of_le (k.wk.lt e) hk.size⟩
    · have := k.we.lt (k := b) (.inr (.inl e)); exact ⟨.inl (.inr (.inl e)), Nat.lt_of_lt_of_le this.1 hk.size⟩
    · have := k.we.lt (k := b) (.inr (.inr (.inl e))); exact ⟨.inl (.inr (.inr (.inl e))), Nat.lt_of_lt_of_le this.1 hk.size⟩
    · have := hE b e
      exact ⟨this.1.imp (fun f => .inr (.inr (.inr f))) id, this.2⟩
  · rcases (hE b e).1 with f | f
    · exact k.eo b f
    · have h1 : b = h.lb → b < W.heap.size := fun e => (k.we.lt (k := b) (.inr (.inl e))).1
      have h2 : At h.sa b → b < W.heap.size := fun e => (k.we.lt (k := b) (.inr (.inr (.inl e)))).1
      exact ⟨fun g => by have := k.wk.lt g; omega, fun g => by have := h1 g; omega, fun g => by have := h2 g; omega⟩
theorem Tn.no (k : Tn w0 W h n r mv stop ys0 E bT t bN c d) (hk : Kept No W W') : Tn w0 W' h n r mv stop ys0 E bT t bN c d := k.own hk (fun b e => e.elim) (fun b e => ⟨.inl e, Nat.lt_of_lt_of_le (k.we.lt (.inr (.inr (.inr e)))).1 hk.size⟩) k.et
/-- The count goes on. -/
theorem Tn.cnt (k : Tn w0 W h n r mv stop ys0 E bT t bN c d) : Tn w0 (W.setCell ⟨bN, 0, none⟩ (.int .i64 ((c : Int) + 1))) h n r mv stop ys0 E bT t bN (c + 1) d ∧ Kept (Only bN) W (W.setCell ⟨bN, 0, none⟩ (.int .i64 ((c : Int) + 1))) := by
  have hk : Kept (Only bN) W (W.setCell ⟨bN, 0, none⟩ (.int .i64 ((c : Int) + 1))) := (Kept.refl (Only bN) W).setCell (p := ⟨bN, 0, none⟩) (fun _ => rfl) _
  have hb := k.bn.set 0 (.int .i64 ((c : Int) + 1))
  refine ⟨⟨k.wk.kept hk (fun b e f => ?_), k.bt.kept hk (fun f => k.ne f), by simpa using hb, k.we.own hk (fun b f => ?_) (fun b e => ⟨.inl e, Nat.lt_of_lt_of_le (k.we.lt e).1 hk.size⟩), k.et, k.eo, k.ne⟩, hk⟩
  · have f : b = bN := f
    rw [f] at e
    exact (k.eo bN k.et.2).1 e
  · have f : b = bN := f
    rw [f]; exact .inl (.inr (.inr (.inr k.et.2)))
/-- A step. -/
theorem Tn.step (k : Tn w0 W h n r mv stop ys0 E bT t bN c d) (hd : d ≤ 800000000) {x : St} (hx : StOk w0 x) :
    Calls Try.prog 9 #[.agg #[.pointer (some ⟨n, 0, none⟩), .pointer (some ⟨r, 0, none⟩)], .agg x.cs.toArray] W (fun e w' => e = .returned (.bool true) ∧ Tn w0 w' h n r mv stop ys0 E bT t bN c (d + 70) ∧ Kept (Wst w0 W (h.O E)) W w') := by
  refine (k.we.step hd hx).mono ?_
  rintro e w' ⟨rfl, hw, hk⟩
  exact ⟨rfl, ⟨k.wk.kept hk (fun b e f => f.1 (.inl e)), k.bt.kept hk (fun f => f.1 (.inr (.inr (.inr k.et.1)))), k.bn.kept hk (fun f => f.1 (.inr (.inr (.inr k.et.2)))), hw, k.et, k.eo, k.ne⟩, hk⟩
end

/-- The four boxes that the walker has from the start. -/
def O4 (bM bS bR bW : Nat) : Nat → Prop := fun k => k = bM ∨ k = bS ∨ k = bR ∨ k = bW
structure Sc (w0 W : World) (n r bM bS bR bW : Nat) (mv : Value) (stop : Int) (d : Nat) : Prop where
  fm : Box W bM 22 #[mv]
  fs : Box W bS 3 #[.int .i64 stop]
  fr : Box W bR 4 #[.bool false]
  fw : Box W bW 31 #[.pointer (some ⟨n, 0, none⟩), .pointer (some ⟨r, 0, none⟩)]
  we : We w0 W n r (O4 bM bS bR bW) d
section
variable {w0 W W' : World} {n r bM bS bR bW d d' : Nat} {mv : Value} {stop : Int} {S : Nat → Prop}
theorem Sc.off (h : Sc w0 W n r bM bS bR bW mv stop d) (hk : Kept S W W') (hS : ∀ k, O4 bM bS bR bW k → ¬ S k) (hw : We w0 W' n r (O4 bM bS bR bW) d') : Sc w0 W' n r bM bS bR bW mv stop d' :=
  ⟨h.fm.kept hk (hS _ (.inl rfl)), h.fs.kept hk (hS _ (.inr (.inl rfl))), h.fr.kept hk (hS _ (.inr (.inr (.inl rfl)))), h.fw.kept hk (hS _ (.inr (.inr (.inr rfl)))), hw⟩
theorem Sc.no (h : Sc w0 W n r bM bS bR bW mv stop d) (hk : Kept No W W') : Sc w0 W' n r bM bS bR bW mv stop d := h.off hk (fun _ _ e => e) (h.we.no hk)
theorem Sc.step (h : Sc w0 W n r bM bS bR bW mv stop d) {x : St} (hx : StOk w0 x) (hd : d ≤ 800000000) {D p : Nat} (hr : w0.rangeAt D p x.cs) (V : World) (hV : V = W.drew) :
    Calls Try.prog 9 #[.agg #[.pointer (some ⟨n, 0, none⟩), .pointer (some ⟨r, 0, none⟩)], .agg x.cs.toArray] V (fun e w' => e = .returned (.bool true) ∧ Sc w0 w' n r bM bS bR bW mv stop (d + 70) ∧ Box w' bW 31 #[.pointer (some ⟨n, 0, none⟩), .pointer (some ⟨r, 0, none⟩)] ∧ w'.rangeAt D p x.cs) := by
  have hk : Kept No W V := by rw [hV]; exact (Kept.refl No W).drew
  have h1 := h.no hk
  refine (h1.we.step hd hx).mono ?_
  rintro e w' ⟨rfl, hw, hk'⟩
  have h2 := h1.off hk' (fun k e f => f.1 e) hw
  exact ⟨rfl, h2, h2.fw, fun j v hv => hw.kept0.cell (hr j v hv) (fun e => e)⟩
end
def CutD (a : Act) (J : Nat → World → Prop) : Exit → Act → World → Prop := fun e a' W => e = .normal ∧ ∃ D, a' = { a with defers := { target := .collected D, args := #[] } :: a.defers } ∧ J D W
theorem cut_defer {c : Code} {K : Exit → Act → World → Prop} {a : Act} {w : World} (J : Nat → World → Prop) (h1 : c.wp Try.prog (CutD a J) a w) (h2 : ∀ D W, J D W → K .normal { a with defers := { target := .collected D, args := #[] } :: a.defers } W) : c.wp Try.prog K a w :=
  Code.wp_mono (fun e a' W ⟨e1, D, e2, hj⟩ => by subst e1; subst e2; exact h2 D W hj) h1
/-- The walk comes out at the same frame. -/
def CutN (a : Act) (J : World → Prop) : Exit → Act → World → Prop := fun e a' W => e = .normal ∧ a' = a ∧ J W
theorem cut_blk {c : Code} {F : Fence} {n id : Nat} {K : Exit → Act → World → Prop} {a : Act} {w : World} (J : World → Prop) (h1 : c.wpIn F n Try.prog (Exit.inBlock id (CutN a J)) a w) (h2 : ∀ W, J W → K .normal a W) : c.wpIn F n Try.prog (Exit.inBlock id K) a w := by
  refine wpIn_mono h1 (fun e a' W h => ?_)
  cases e with
  | exit i =>
    have h : (if i = id then CutN a J .normal a' W else CutN a J (.exit i) a' W) := h
    show (if i = id then K .normal a' W else K (.exit i) a' W)
    by_cases hi : i = id
    · rw [if_pos hi] at h ⊢
      obtain ⟨_, e2, hj⟩ := h
      rw [e2]; exact h2 W hj
    · rw [if_neg hi] at h
      obtain ⟨e1, _⟩ := h
      cases e1
  | normal =>
    obtain ⟨_, e2, hj⟩ : CutN a J .normal a' W := h
    rw [e2]; exact h2 W hj
  | ret => obtain ⟨e1, _⟩ : CutN a J .ret a' W := h; cases e1
  | goto t => obtain ⟨e1, _⟩ : CutN a J (.goto t) a' W := h; cases e1
  | panic ch => obtain ⟨e1, _⟩ : CutN a J (.panic ch) a' W := h; cases e1
  | outgrown => obtain ⟨e1, _⟩ : CutN a J .outgrown a' W := h; cases e1
theorem own_cellA {t : TypeId} {c : Nat} {w : World} {base cap n : Nat} {ad : Addr} {vs : List Value} (h : Own t c w base (some ad) cap n vs) (j : Nat) (u : Value) (hj : vs[j]? = some u) : w.cell? (ad.add j) = some u := by
  rcases h.2 with ⟨hv, _⟩ | ⟨g, cap', cur, hv, hb, hg, _, _, _, ht⟩
  · simp at hv
  · simp only [Value.slice.injEq, Option.some.injEq] at hv
    rw [hv.1, addr_add, Nat.zero_add]
    have hbx : Box w g t cur := hg
    rw [hbx.cell j]
    rw [← ht, List.getElem?_take] at hj
    split at hj
    · simpa using hj
    · cases hj
theorem pk_call {w0 W : World} {x y : Tp} {lo : Nat} (hy : Bytes w0 y.a y.q.zs) (hl : y.q.zs.length ≤ 140737488351232) (hq : y.q = x.q) (hk : Kept No w0 W) (hO : OwnB W lo x.a x.c x.q.zs) :
    Calls Try.prog 22 #[.agg #[.bool x.q.nm.1.1, .int .i64 x.q.nm.1.2, .int .i64 x.q.nm.2, .bool x.q.to'.1, .int .i64 x.q.to'.2, .slice x.a x.q.zs.length x.c], .agg (pkL y).toArray] W (fun e w' => e = .returned (.bool true) ∧ Kept No W w') := by
  have hz : x.q.zs.length ≤ 140737488355328 := by rw [← hq]; omega
  refine (same_pk x.q.nm.1 y.q.nm.1 x.q.to' y.q.to' x.q.nm.2 y.q.nm.2 x.a y.a x.c y.c x.q.zs y.q.zs W hz (by rw [hq]; exact hz) (OwnB.bytes hO) (hy.no hk)).mono ?_
  rintro e w' ⟨rfl, hk'⟩
  refine ⟨?_, hk'⟩
  rw [hq]
  simp [eqB_refl]
theorem y_of {ys : List Tp} {L : List Pq} {i : Nat} {q : Pq} (he : ys.map Tp.q = L) (h : L[i]? = some q) : ∃ y, ys[i]? = some y ∧ y.q = q := by
  rw [← he, List.getElem?_map] at h
  cases hy : ys[i]? with
  | none => rw [hy] at h; cases h
  | some y => rw [hy] at h; exact ⟨y, rfl, by simpa using h⟩
/-- The walker's own within a turn: its boxes, and the loop's two blocks. -/
def EB (bT bN B : Nat) (W : World) : Nat → Prop := fun k => (k = bT ∨ k = bN) ∨ (Bk2 B k ∧ k < W.heap.size)
section
variable {w0 wq W W' : World} {h : Wh} {n r d d' : Nat} {mv : Value} {stop : Int} {ys : List Tp} {S E : Nat → Prop} {bT t bN c B : Nat}
theorem Tn.mono (k : Tn w0 W h n r mv stop ys E bT t bN c d) (hd : d ≤ d') : Tn w0 W h n r mv stop ys E bT t bN c d' := by
  obtain ⟨s, zs, ss, X, h1, h2, h3, h4, h5⟩ := k.we
  exact ⟨k.wk, k.bt, k.bn, ⟨s, zs, ss, X, h1, h2, by omega, by omega, h5⟩, k.et, k.eo, k.ne⟩
theorem Tn.bk (k : Tn w0 W h n r mv stop ys (EB bT bN B W) bT t bN c d) (hk : Kept (Bk2 B) W W') (hb : bT < B ∧ bN < B) : Tn w0 W' h n r mv stop ys (EB bT bN B W') bT t bN c d := by
  refine k.own hk (fun b f => ?_) (fun b f => ?_) ⟨.inl (.inl rfl), .inl (.inr rfl)⟩
  · by_cases hl : b < W.heap.size
    · refine .inl ⟨.inr ⟨f, hl⟩, ?_, ?_⟩ <;> (have f : b = B ∨ b = B + 1 := f; omega)
    · exact .inr (by omega)
  · have h1 := k.bt.lt
    have h2 := k.bn.lt
    have h3 := hk.size
    rcases f with f | f
    · exact ⟨.inl (.inl f), by omega⟩
    · refine ⟨?_, f.2⟩
      by_cases hl : b < W.heap.size
      · exact .inl (.inr ⟨f.1, hl⟩)
      · exact .inr (by omega)
/-- .. at a later memory. -/
theorem Tn.re {V : World} (k : Tn w0 W h n r mv stop ys (EB bT bN B V) bT t bN c d) (hV : V.heap.size ≤ W.heap.size) (hB : B + 1 < V.heap.size) : Tn w0 W h n r mv stop ys (EB bT bN B W) bT t bN c d := by
  refine k.own (Kept.refl No W) (fun b f => f.elim) (fun b f => ?_) ⟨.inl (.inl rfl), .inl (.inr rfl)⟩
  have h1 := k.bt.lt
  have h2 := k.bn.lt
  rcases f with f | f
  · exact ⟨.inl (.inl f), by omega⟩
  · have f' : b = B ∨ b = B + 1 := f.1
    exact ⟨.inl (.inr ⟨f.1, by omega⟩), f.2⟩
theorem Tn.re0 (k : Tn w0 W h n r mv stop ys (fun k => k = bT ∨ k = bN) bT t bN c d) (hB : W.heap.size ≤ B) : Tn w0 W h n r mv stop ys (EB bT bN B W) bT t bN c d := by
  refine k.own (Kept.refl No W) (fun b f => f.elim) (fun b f => ?_) ⟨.inl (.inl rfl), .inl (.inr rfl)⟩
  have h1 := k.bt.lt
  have h2 := k.bn.lt
  rcases f with f | f
  · exact ⟨.inl f, by omega⟩
  · have f' : b = B ∨ b = B + 1 := f.1
    have := f.2
    omega
/-- A step leaves the sequence and the loop's blocks. -/
theorem wst_zq {lb rc : Nat} {qa : Option Addr} {L : List Pq} {P : Nm → Nat × Nat × Nat} (hs : SeqN W lb qa rc L P L) (hB : B + 1 < W.heap.size) (h1 : h.lb = lb) (h2 : h.sa = qa) {k : Nat} (hk : Wst w0 W (h.O (EB bT bN B W)) k) : Zq B lb qa L k := by
  intro f
  rcases f with (f | f | ⟨q, hq, f⟩) | f
  · exact hk.1 (.inr (.inl (by rw [h1]; exact f)))
  · exact hk.1 (.inr (.inr (.inl (by rw [h2]; exact f))))
  · obtain ⟨cs, hcs⟩ := Gx.own_type (hs.dat q hq) f
    exact hk.2.1 cs _ hcs
  · have f' : k = B ∨ k = B + 1 := f
    exact hk.1 (.inr (.inr (.inr (.inr ⟨f, by omega⟩))))
theorem Tn.make {s : Ns} {ss : List Ad} {X : Nat → Prop} {bM bS bR bW bV bF lb wcp q : Nat} {qa wa : Option Addr} (HQ : Sc w0 wq n r bM bS bR bW mv stop 21000) (hwd : Wd w0 wq n r s ys ss X) (hX4 : ∀ k, X k → ¬ O4 bM bS bR bW k) (hlow : ∀ k, O4 bM bS bR bW k → k < wq.heap.size ∧ w0.heap.size ≤ k) (hc : s.came ≤ 21000) (hs : ss.length ≤ 21000) (hk : Kept No wq W)
    (hV : Box W bV 26 #[.slice wa ys.length wcp]) (hrow : Own 44 6 W wq.heap.size wa wcp ys.length (ys.flatMap pkL)) (hF : Box W bF 53 #[.func (.func 39) #[] #[.pointer (some ⟨lb, 0, none⟩)]]) (hge : wq.heap.size ≤ bV ∧ wq.heap.size ≤ bF ∧ wq.heap.size ≤ lb ∧ ∀ k, At qa k → wq.heap.size ≤ k)
    (hlt : bV < q ∧ bF < q ∧ lb < q ∧ (∀ k, At qa k → k < q) ∧ (∀ k, At wa k → k < q)) (hq : wq.heap.size ≤ q ∧ q ≤ bT ∧ bT < bN) (hbT : Box W bT 3 #[.int .i64 0]) (hbN : Box W bN 3 #[.int .i64 0]) :
    Tn w0 W (Wh.mk bM bS bR bW bV bF lb qa wa wcp) n r mv stop ys (fun k => k = bT ∨ k = bN) bT 0 bN 0 21000 := by
  have hs0 := hwd.kept.size
  have lV := hV.lt
  have lF := hF.lt
  have lT := hbT.lt
  have lN := hbN.lt
  have hks := hk.size
  have hB : ∀ k, (Wh.mk bM bS bR bW bV bF lb qa wa wcp).B k → (O4 bM bS bR bW k ∨ wq.heap.size ≤ k) ∧ k < q := fun k e => by
    rcases e with e | e | e | e | e | e | e
    · have h1 : O4 bM bS bR bW k := .inl e
      have := (hlow k h1).1; exact ⟨.inl h1, by omega⟩
    · have h1 : O4 bM bS bR bW k := .inr (.inl e)
      have := (hlow k h1).1; exact ⟨.inl h1, by omega⟩
    · have h1 : O4 bM bS bR bW k := .inr (.inr (.inl e))
      have := (hlow k h1).1; exact ⟨.inl h1, by omega⟩
    · have h1 : O4 bM bS bR bW k := .inr (.inr (.inr e))
      have := (hlow k h1).1; exact ⟨.inl h1, by omega⟩
    · have e : k = bV := e
      exact ⟨.inr (by omega), by omega⟩
    · have e : k = bF := e
      exact ⟨.inr (by omega), by omega⟩
    · exact ⟨.inr (Own.base hrow e), hlt.2.2.2.2 k e⟩
  have hO : ∀ k, (Wh.mk bM bS bR bW bV bF lb qa wa wcp).O (fun k => k = bT ∨ k = bN) k → (O4 bM bS bR bW k ∨ wq.heap.size ≤ k) ∧ k < W.heap.size := fun k e => by
    rcases e with e | e | e | e
    · have := hB k e; exact ⟨this.1, by omega⟩
    · have e : k = lb := e
      exact ⟨.inr (by omega), by omega⟩
    · have := hge.2.2.2 k e; have := hlt.2.2.2.1 k e; exact ⟨.inr (by omega), by omega⟩
    · exact ⟨.inr (by omega), by omega⟩
  refine ⟨⟨HQ.fm.kept hk (fun e => e), HQ.fs.kept hk (fun e => e), HQ.fr.kept hk (fun e => e), HQ.fw.kept hk (fun e => e), hV, hF, Own.lower hrow hs0⟩, by simpa using hbT, by simpa using hbN, ⟨s, ys, ss, fun k => X k ∧ k < wq.heap.size, hwd.kept' hk (fun k e l => ⟨fun f => f, e, l⟩) (fun _ _ e => e) (fun k e => hwd.low k e.1), fun k e f => ?_, hc, hs, fun k e => ⟨(hO k e).2, ?_⟩⟩, ⟨.inl rfl, .inr rfl⟩, fun k e => ⟨fun f => ?_, fun f => ?_, fun f => ?_⟩, by omega⟩
  · rcases (hO k f).1 with g | g
    · exact hX4 k e.1 g
    · have := e.2; omega
  · rcases (hO k e).1 with g | g
    · exact (hlow k g).2
    · omega
  · have := (hB k f).2; rcases e with e | e <;> omega
  · have f : k = lb := f
    rcases e with e | e <;> omega
  · have := hlt.2.2.2.1 k f; rcases e with e | e <;> omega
end
end Go.Proofs.Ytphiokehcgbldaa
