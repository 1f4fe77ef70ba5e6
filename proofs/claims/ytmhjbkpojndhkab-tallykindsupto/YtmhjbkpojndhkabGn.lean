import Derived.Test.YtmhjbkpojndhkabGm
namespace Go.Proofs.Ytmhjbkpojndhkab
open Go.RowKit Go.Shelf
set_option linter.unusedVariables false
set_option linter.unusedSimpArgs false
namespace Gt
theorem kept_own {β : Type} {S : Nat → Prop} {B : Nat} {w : World} (hB : w.heap.size ≤ B) : OwnFrom B (fun (_ : β) W => Kept S w W) :=
  fun _ _ _ row hs hg hr => hs.grown hg (fun k e hk => by have := (hr k e).1; omega)
theorem obj_own {β : Type} {B g : Nat} {o : Obj} (hB : g < B) : OwnFrom B (fun (_ : β) W => W.heap[g]? = some o) :=
  fun _ W W' row hs hg hr => (hg.block g (Array.getElem?_eq_some_iff.1 hs).1 (fun e => by have := (hr g e.symm).1; omega)).trans hs

theorem kf_kept {S : Nat → Prop} {B : Nat} {W W' : World} (hk : Kept S W W') (hS : ∀ k, S k → k < B) : KeepsFrom B W W' :=
  ⟨hk.size, fun k o hB h _ => (hk.block k (Array.getElem?_eq_some_iff.1 h).1 (fun e => by have := hS k e; omega)).trans h⟩


section
variable {F : Fence} {n : Nat} {P : Program}
/-- The library's law, with the frame behind the assignments as a function. -/
theorem rf_H {α : Type} {g : Operand} {ps : Array Tmp} {assign body : Code} {Q : Exit → Act → World → Prop} {a : Act} {w : World}
    (hro : F.round = none) (h1 : 1 ≤ n) {gf : Nat} {lb : Array Value} (hg : a.eval g = .func (.func gf) #[] lb) (hFg : F.fn gf) (eg : ∀ args w, (callFunc gf args).run P w = .ok (.enter gf args) w)
    {encs : α → Array Value} {Kp : World → World → Prop} {S Sp : List α → Prop} {N : Nat} {w0 : World} (hseq : SeqStopsK F (n - 1) P gf lb encs Kp S Sp N w0)
    (hKt : ∀ {A B C : World}, Kp A B → Kp B C → Kp A C) (hKb : ∀ (W : World) (l : Nat) (o o' : Obj), w.heap.size ≤ l → W.heap[l]? = some o → o.isCells = false → o.isWalk = false → Kp W (W.putObj l o')) (hb0 : Below w0.heap.size w0 w) (hps : ∀ x, (encs x).size = ps.size)
    (I : List α → World → Prop) (Ix : Code → List α → World → Prop) (hI : OwnFrom w.heap.size I) (hIx : ∀ c, OwnFrom w.heap.size (Ix c)) (h0 : I [] w) (hKr : ∀ W, Kp W W) (a₁ : α → Act)
    (hassign : ∀ (l : Nat) (x : α) (W : World) (K : Act → World → Prop), K (a₁ x) W →
      assign.wpIn (F.inRound l) (n - 1 - 1) P (Exit.then K (fun _ _ _ => False)) { tmps := (ps.zip (encs x)).foldl (fun t (p, v) => t.setIfInBounds p v) a.tmps, defers := [] } W)
    (hbody : ∀ (l : Nat) (pre : List α) (x : α) (W : World), w.heap.size ≤ l → (∃ r, W.heap[l]? = some (.loop r)) → I pre W → pre.length < N → body.wpIn (F.inRound l) (n - 1 - 1) P (ownPostG w.heap.size Kp I Ix (pre ++ [x]) W) (a₁ x) W)
    (hdone : ∀ (D : Nat) (xs : List α) (W : World), w.heap.size ≤ D → S xs → I xs W → W.heap[D]? = some (.deferred (some [])) → Q .normal { a with defers := { target := .collected D, args := #[] } :: a.defers } W)
    (hstop : ∀ (D : Nat) (c : Code) (pre : List α) (W : World), w.heap.size ≤ D → Sp pre → Ix c pre W → W.heap[D]? = some (.deferred (some [])) → c.wpIn F n P Q { a with defers := { target := .collected D, args := #[] } :: a.defers } W) :
    (Code.rangeFunc g ps assign body).wpIn F n P Q a w :=
  wpIn_rangeFunc_ownH hro h1 hg hFg eg hseq (fun h k => hKt h k) hKb hb0 hps I Ix hI hIx h0 (fun x a' _ => a' = a₁ x) (fun _ _ _ _ _ _ hs _ _ => hs)
    (fun l pre x W K hi hK => hassign l x W K (hK _ _ (KeepsFrom.refl _ _) (hKr W) hi rfl)) (fun l pre x a' W h1 h2 hi e => by subst e; exact hbody l pre x W h1 h2 hi) hdone hstop


/-- The same where the round's variable is laid down. -/
theorem rf_B {α : Type} {g : Operand} {ps : Array Tmp} {assign body : Code} {Q : Exit → Act → World → Prop} {a : Act} {w : World}
    (hro : F.round = none) (h1 : 1 ≤ n) {gf : Nat} {lb : Array Value} (hg : a.eval g = .func (.func gf) #[] lb) (hFg : F.fn gf) (eg : ∀ args w, (callFunc gf args).run P w = .ok (.enter gf args) w)
    {encs : α → Array Value} {Kp : World → World → Prop} {S Sp : List α → Prop} {N : Nat} {w0 : World} (hseq : SeqStopsK F (n - 1) P gf lb encs Kp S Sp N w0)
    (hKt : ∀ {A B C : World}, Kp A B → Kp B C → Kp A C) (hKb : ∀ (W : World) (l : Nat) (o o' : Obj), w.heap.size ≤ l → W.heap[l]? = some o → o.isCells = false → o.isWalk = false → Kp W (W.putObj l o')) (hb0 : Below w0.heap.size w0 w) (hps : ∀ x, (encs x).size = ps.size)
    (I : List α → World → Prop) (Ix : Code → List α → World → Prop) (hI : OwnFrom w.heap.size I) (hIx : ∀ c, OwnFrom w.heap.size (Ix c)) (h0 : I [] w) (hKa : ∀ W o, Kp W (W.alloc o)) (T : TypeId) (cs : α → Array Value) (a₁ : α → Nat → Act)
    (hassign : ∀ (l : Nat) (x : α) (W : World) (K : Act → World → Prop) (vb : Nat), vb = W.heap.size → K (a₁ x vb) (W.alloc (.cells (cs x) T)) →
      assign.wpIn (F.inRound l) (n - 1 - 1) P (Exit.then K (fun _ _ _ => False)) { tmps := (ps.zip (encs x)).foldl (fun t (p, v) => t.setIfInBounds p v) a.tmps, defers := [] } W)
    (hbody : ∀ (l : Nat) (pre : List α) (x : α) (vb : Nat) (W : World), w.heap.size ≤ l → (∃ r, W.heap[l]? = some (.loop r)) → I pre W → Box W vb T (cs x) → pre.length < N → body.wpIn (F.inRound l) (n - 1 - 1) P (ownPostG w.heap.size Kp I Ix (pre ++ [x]) W) (a₁ x vb) W)
    (hdone : ∀ (D : Nat) (xs : List α) (W : World), w.heap.size ≤ D → S xs → I xs W → W.heap[D]? = some (.deferred (some [])) → Q .normal { a with defers := { target := .collected D, args := #[] } :: a.defers } W)
    (hstop : ∀ (D : Nat) (c : Code) (pre : List α) (W : World), w.heap.size ≤ D → Sp pre → Ix c pre W → W.heap[D]? = some (.deferred (some [])) → c.wpIn F n P Q { a with defers := { target := .collected D, args := #[] } :: a.defers } W) :
    (Code.rangeFunc g ps assign body).wpIn F n P Q a w :=
  wpIn_rangeFunc_ownH hro h1 hg hFg eg hseq (fun h k => hKt h k) hKb hb0 hps I Ix hI hIx h0 (fun x a' W => ∃ vb, a' = a₁ x vb ∧ Box W vb T (cs x))
    (fun x a' _ A B row hs hg hr => by
      obtain ⟨vb, h1, h2⟩ := hs
      exact ⟨vb, h1, box_cells h2 hg (fun r e => by obtain ⟨_, o, h, h'⟩ := hr r e; exact ⟨o, h, h'⟩)⟩)
    (fun l pre x W K hi hK => hassign l x W K _ rfl (hK _ _ ((KeepsOthers.alloc W _).from _) (hKa W _) (hI.alloc _ hi) ⟨_, rfl, Box.new _ _ _⟩)) (fun l pre x a' W h1 h2 hi e => by obtain ⟨vb, e, hb⟩ := e; subst e; exact hbody l pre x vb W h1 h2 hi hb) hdone hstop

end
/-- What the rounds go over. -/
structure Kq where
  p : Kp
  who : List Int
  ls : List Nat
  wa : Option Addr
  wc : Nat
  la : Option Addr
  lc : Nat
  lP : Nat
  aP : Option Addr
  cP : Nat
  pP : List (Int × P.Pr)
  lS : Nat
  aS : Option Addr
  cS : Nat
  pS : List (Int × ByteArray)
  lZ : Nat
  aZ : Option Addr
  cZ : Nat
  pZ : List (Int × Option Addr)
  bn : Nat
structure Kr (q : Kq) (n : Int) (W : World) : Prop where
  r : Box W q.p.b4 4 #[.bool false]
  s : Box W q.p.b5 25 #[.pointer (some ⟨q.p.ts, 0, none⟩)]
  hw : Box W q.p.b8 22 #[.slice q.wa q.who.length q.wc]
  ow : Own 3 1 W q.p.N0 q.wa q.wc q.who.length (q.who.map (Value.int .i64))
  hl : Box W q.p.b9 33 #[.slice q.la q.ls.length q.lc]
  ol : Own 22 1 W q.p.N0 q.la q.lc q.ls.length (q.ls.map slV)
  lb : ∀ b ∈ q.ls, liveB q.p.N0 q.wa W b
  sP : P.SeqAt W q.lP q.aP q.cP q.pP
  sS : S.SeqAt W q.lS q.aS q.cS q.pS
  sZ : Gt.Z.SeqAt W q.lZ q.aZ q.cZ q.pZ
  n : Box W q.bn 3 #[.int .i64 n]
  k : Kept No q.p.w W
structure Ko (q : Kq) : Prop where
  w1 : ∀ k, At q.wa k → k ≠ q.bn
  l1 : ∀ b ∈ q.ls, b ≠ q.bn
  b1 : q.p.w.heap.size ≤ q.bn
  d : Kd q.p

theorem Kr.kept {S : Nat → Prop} {q : Kq} {m : Int} {W W' : World} (h : Kr q m W) (hk : Kept S W W') (hb : ∀ {b ty : Nat} {cs : Array Value}, Box W b ty cs → ty ≠ 3 → ¬ S b) (hw : ∀ k, At q.wa k → ¬ S k) (hl : ∀ b ∈ q.ls, liveB q.p.N0 q.wa W' b) (hn : Box W' q.bn 3 #[.int .i64 m]) (h0 : ∀ k, k < q.p.w.heap.size → ¬ S k) : Kr q m W' := by
  have ro : ∀ {E c n₀ n cap : Nat} {a : Option Addr} {vs : List Value}, Own E c W n₀ a cap n vs → E ≠ 3 → ∀ k, At a k → ¬ S k := by
    intro E c n₀ n cap a vs ho hE k hk
    rcases ho.2 with ⟨e, _⟩ | ⟨g, cp, cur, e, _, hgb, _⟩
    · cases e; exact absurd hk At.none
    · cases e
      obtain ⟨ad, e1, rfl⟩ := hk
      cases e1
      exact hb (show Box W g E cur from hgb) hE
  refine ⟨h.r.kept hk (hb h.r (by decide)), h.s.kept hk (hb h.s (by decide)), h.hw.kept hk (hb h.hw (by decide)), h.ow.kept hk hw, h.hl.kept hk (hb h.hl (by decide)), h.ol.kept hk (ro h.ol (by decide)), hl, ⟨h.sP.box.kept hk (hb h.sP.box (by decide)), h.sP.row.kept hk (ro h.sP.row (by decide))⟩, ⟨h.sS.box.kept hk (hb h.sS.box (by decide)), h.sS.row.kept hk (ro h.sS.row (by decide))⟩, ⟨h.sZ.box.kept hk (hb h.sZ.box (by decide)), h.sZ.row.kept hk (ro h.sZ.row (by decide))⟩, hn, low h.k hk h0⟩
theorem Kr.no {q : Kq} {m : Int} {W W' : World} (h : Kr q m W) (hk : Kept No W W') : Kr q m W' :=
  h.kept hk (fun _ _ e => e) (fun _ _ e => e) (fun b hb => (h.lb b hb).kept hk (fun e => e)) (h.n.kept hk (fun e => e)) (fun _ _ e => e)
theorem Kr.num {q : Kq} {m : Int} {W : World} (o : Ko q) (h : Kr q m W) (m' : Int) : Kr q m' (W.setCell ⟨q.bn, 0, none⟩ (.int .i64 m')) := by
  have hk : Kept (Only q.bn) W (W.setCell ⟨q.bn, 0, none⟩ (.int .i64 m')) := (Kept.refl (Only q.bn) W).setCell (p := ⟨q.bn, 0, none⟩) (fun _ => rfl) _
  have hb : ∀ {b ty : Nat} {cs : Array Value}, Box W b ty cs → ty ≠ 3 → ¬ Only q.bn b := fun hb ht e => by
    have e : _ = q.bn := e
    rw [e] at hb
    have := h.n
    unfold Box at hb this
    rw [this] at hb
    simp at hb
    exact ht hb.2.symm
  have h0 : ∀ k, k < q.p.w.heap.size → ¬ Only q.bn k := fun k hk e => by have e : k = q.bn := e; have := o.b1; omega
  have ro : ∀ {E c n₀ n cap : Nat} {a : Option Addr} {vs : List Value}, Own E c W n₀ a cap n vs → E ≠ 3 → ∀ k, At a k → ¬ Only q.bn k := by
    intro E c n₀ n cap a vs ho hE k hk
    rcases ho.2 with ⟨e, _⟩ | ⟨g, cp, cur, e, _, hgb, _⟩
    · cases e; exact absurd hk At.none
    · cases e
      obtain ⟨ad, e1, rfl⟩ := hk
      cases e1
      exact hb (show Box W g E cur from hgb) hE
  exact ⟨h.r.kept hk (hb h.r (by decide)), h.s.kept hk (hb h.s (by decide)), h.hw.kept hk (hb h.hw (by decide)), h.ow.kept hk (fun k e f => o.w1 k e f), h.hl.kept hk (hb h.hl (by decide)), h.ol.kept hk (ro h.ol (by decide)), fun b hb => (h.lb b hb).kept hk (fun e => o.l1 b hb e), ⟨h.sP.box.kept hk (hb h.sP.box (by decide)), h.sP.row.kept hk (ro h.sP.row (by decide))⟩, ⟨h.sS.box.kept hk (hb h.sS.box (by decide)), h.sS.row.kept hk (ro h.sS.row (by decide))⟩, ⟨h.sZ.box.kept hk (hb h.sZ.box (by decide)), h.sZ.row.kept hk (ro h.sZ.row (by decide))⟩, h.n.set 0 _, low h.k hk h0⟩
/-- The very list is written into. -/
theorem Kr.mark {q : Kq} {m : Int} {W : World} (o : Ko q) (h : Kr q m W) {b : Nat} (hb : b ∈ q.ls) : (∃ v i : Int, Box W b 3 #[.int .i64 v, .int .i64 i] ∧ Box (W.setCell ⟨b, 1, none⟩ (.int .i64 (-5))) b 3 #[.int .i64 v, .int .i64 (-5)]) ∧ Kr q m (W.setCell ⟨b, 1, none⟩ (.int .i64 (-5))) := by
  obtain ⟨h1, ⟨v, i, h2⟩, h3⟩ := h.lb b hb
  have hk : Kept (Only b) W (W.setCell ⟨b, 1, none⟩ (.int .i64 (-5))) := (Kept.refl (Only b) W).setCell (p := ⟨b, 1, none⟩) (fun _ => rfl) _
  have hn : Box (W.setCell ⟨b, 1, none⟩ (.int .i64 (-5))) b 3 #[.int .i64 v, .int .i64 (-5)] := h2.set 1 _
  refine ⟨⟨v, i, h2, hn⟩, h.kept hk (fun hb' ht e => ?_) (fun k e f => h3 (by have f : k = b := f; rw [← f]; exact e)) (fun b' hb' => ?_) (h.n.kept hk (fun e => o.l1 b hb e.symm)) (fun k hk' e => ?_)⟩
  · have e : _ = b := e
    rw [e] at hb'
    unfold Box at hb' h2
    rw [h2] at hb'
    simp at hb'
    exact ht hb'.2.symm
  · by_cases e : b' = b
    · subst e; exact ⟨h1, ⟨v, -5, hn⟩, h3⟩
    · exact (h.lb b' hb').kept hk e
  · have e : k = b := e
    have := o.d.n0
    omega
theorem Kr.grown {q : Kq} {m : Int} {W W' : World} {row : Option Nat} (h : Kr q m W) (hg : W.grownBy W' row) (hr : ∀ r, row = some r → ∃ o : Obj, W.heap[r]? = some o ∧ o.isCells = false) (h0 : ∀ r, row = some r → q.p.w.heap.size ≤ r) : Kr q m W' :=
  ⟨box_cells h.r hg hr, box_cells h.s hg hr, box_cells h.hw hg hr, own_cells h.ow hg hr, box_cells h.hl hg hr, own_cells h.ol hg hr, fun b hb => by
    obtain ⟨h1, ⟨v, i, h2⟩, h3⟩ := h.lb b hb
    exact ⟨h1, ⟨v, i, box_cells h2 hg hr⟩, h3⟩, ⟨box_cells h.sP.box hg hr, own_cells h.sP.row hg hr⟩, ⟨box_cells h.sS.box hg hr, own_cells h.sS.row hg hr⟩, ⟨box_cells h.sZ.box hg hr, own_cells h.sZ.row hg hr⟩, box_cells h.n hg hr, h.k.grown hg (fun k e hk => by have := h0 k e; omega)⟩
theorem kr_own {β : Type} {q : Kq} {B : Nat} (hB : q.p.w.heap.size ≤ B) (f : β → Int) : OwnFrom B (fun (s : β) W => Kr q (f s) W) :=
  fun s W W' row hs hg hr => hs.grown hg (fun r e => by obtain ⟨_, o, h, h'⟩ := hr r e; exact ⟨o, h, h'⟩) (fun r e => by have := (hr r e).1; omega)
/-- Where the answers lie is left alone. -/
theorem Kr.farP {q : Kq} {m : Int} {W W' : World} {b ty : Nat} {cs : Array Value} (h : Kr q m W) (hb : Box W b ty cs) (ht : ty = 3) (hk : Kept (Only b) W W') : Kept (P.NB q.lP q.aP) W W' := by
  refine hk.mono (fun i _ e f => ?_)
  have e : i = b := e
  subst ht
  rcases f with f | f
  · rw [e] at f; rw [f] at hb
    have := h.sP.box
    unfold Box at hb this
    rw [this] at hb
    simp at hb
  · exact box_row hb (by decide) h.sP.row f e
theorem Kr.farS {q : Kq} {m : Int} {W W' : World} {b ty : Nat} {cs : Array Value} (h : Kr q m W) (hb : Box W b ty cs) (ht : ty = 3) (hk : Kept (Only b) W W') : Kept (S.NB q.lS q.aS) W W' := by
  refine hk.mono (fun i _ e f => ?_)
  have e : i = b := e
  subst ht
  rcases f with f | f
  · rw [e] at f; rw [f] at hb
    have := h.sS.box
    unfold Box at hb this
    rw [this] at hb
    simp at hb
  · exact box_row hb (by decide) h.sS.row f e
theorem Kr.farZ {q : Kq} {m : Int} {W W' : World} {b ty : Nat} {cs : Array Value} (h : Kr q m W) (hb : Box W b ty cs) (ht : ty = 3) (hk : Kept (Only b) W W') : Kept (Gt.Z.NB q.lZ q.aZ) W W' := by
  refine hk.mono (fun i _ e f => ?_)
  have e : i = b := e
  subst ht
  rcases f with f | f
  · rw [e] at f; rw [f] at hb
    have := h.sZ.box
    unfold Box at hb this
    rw [this] at hb
    simp at hb
  · exact box_row hb (by decide) h.sZ.row f e
theorem Kr.list {q : Kq} {m : Int} {W : World} (h : Kr q m W) {j b : Nat} (hj : q.ls[j]? = some b) : ∃ g, q.la = some ⟨g, 0, none⟩ ∧ W.cell? ⟨g, j, none⟩ = some (.slice (some ⟨b, 0, none⟩) 2 2) := by
  have hl := (List.getElem?_eq_some_iff.1 hj).1
  rcases h.ol.cases (by simp) with ⟨_, _, h0⟩ | ⟨g, e, _, hlt, sp, hg, _⟩
  · omega
  · refine ⟨g, e, ?_⟩
    have hb : Box W g 22 (q.ls.map slV ++ sp).toArray := hg
    rw [hb.cell, List.getElem?_toArray, List.getElem?_append_left (by simpa using hl), List.getElem?_map, hj]
    rfl
theorem Kr.cells {p : Kp} {who : List Int} {ls : List Nat} {wa la aP aS aZ : Option Addr} {wc lc lP cP lS cS lZ cZ bn : Nat} {pP : List (Int × P.Pr)} {pS : List (Int × ByteArray)} {pZ : List (Int × Option Addr)} {m : Int} {W : World} (h : Kr ⟨p, who, ls, wa, wc, la, lc, lP, aP, cP, pP, lS, aS, cS, pS, lZ, aZ, cZ, pZ, bn⟩ m W) :
    (W.cell? ⟨p.b4, 0, none⟩ = some (.bool false) ∧ W.frozen? ⟨p.b4, 0, none⟩ = false) ∧ W.cell? ⟨p.b5, 0, none⟩ = some (.pointer (some ⟨p.ts, 0, none⟩)) ∧ W.cell? ⟨p.b8, 0, none⟩ = some (.slice wa who.length wc) ∧ W.cell? ⟨p.b9, 0, none⟩ = some (.slice la ls.length lc) ∧ W.cell? ⟨bn, 0, none⟩ = some (.int .i64 m) ∧ W.frozen? ⟨bn, 0, none⟩ = false :=
  ⟨⟨h.r.cell 0, h.r.frozen 0⟩, h.s.cell 0, h.hw.cell 0, h.hl.cell 0, h.n.cell 0, h.n.frozen 0⟩
end Gt
end Go.Proofs.Ytmhjbkpojndhkab
