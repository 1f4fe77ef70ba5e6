import Derived.Test.YtpapbleabjpbfabFq
import Derived.Test.YtpapbleabjpbfabGb
import Derived.Maps.AppendAt
namespace Go.Proofs.Ytpapbleabjpbfab
open Go.RowKit Go.Shelf Gx
set_option linter.unusedVariables false
set_option linter.unusedSimpArgs false

attribute [local go_sem] Oper.semAt_some

theorem wpIn_appV {F : Fence} {nf : Nat} {ops : Array Oper} {rest : List Oper} {o : Oper} {a : Act} {w : World} {Q : Exit → Act → World → Prop} (hg : o.guard = none) (s x : Operand) (T E : TypeId) (c by' : Nat) (z : Value) (ht : Try.prog.underlying T = some (.slice E))
    (hinf : (Try.prog.info? E).map (fun i => (i.zero, i.size, i.bytes)) = some (some z, c, by')) (hzc : z.cells.size = c) (hc0 : 0 < c) (ho : o.op = .call { callee := Callee.builtin Builtin.append, args := #[s, x], argTypes := #[T, T] })
    (base n cap : Nat) (sa : Option Addr) (vs : List Value) (hs : a.eval s = .slice sa n cap) (hown : Own E c w base sa cap n vs) (ad : Addr) (m cc : Nat) (news : List Value) (hx : a.eval x = .slice (some ad) m cc) (hl : news.length = m * c) (hnews : ∀ j u, news[j]? = some u → w.cell? (ad.add j) = some u) (h1 : ∀ u ∈ news, u.oneCell' = true) (hbd : (n + m) * by' ≤ 140737488355328) (hb63 : n + m ≤ 9223372036854775807) (hm : 0 < m) (hbase : base ≤ w.heap.size) (k : Nat) (hk : n + m = k)
    (h : ∀ g' cap' w', Hid (Own E c w' base (some ⟨g', 0, none⟩) cap' k (vs ++ news)) → Hid (Kept (At sa) w w') → Hid (KeepsOthers w w') → Hid (At sa g' ∨ g' = w.heap.size) → wpListIn F nf Try.prog ops Q rest (a.put o.dst (.slice (some ⟨g', 0, none⟩) k cap')) w') : wpListIn F nf Try.prog ops Q (o :: rest) a w := by
  subst hk
  obtain ⟨i0, hi, hz0, hz1, hz2⟩ := info_parts hinf
  obtain ⟨v', w', hrun, r1, r2, _, r4⟩ := run_append_own_at (P := Try.prog) (w := w) base T o.type E i0 z c by' ht hi hz0 hz1 hz2 hzc hc0 (.slice sa n cap) n vs hown ad m cc news hl hnews h1 (by unfold maxLen; omega) hbd hbase
  have hk : Kept (At sa) w w' := (Kept.refl (At sa) w).grown r2 (fun k e hk => by
    cases sa with
    | none => cases e
    | some ad' => simp only [Value.ownBlock, Option.some.injEq] at e; exact ⟨ad', rfl, e⟩)
  have hko : KeepsOthers w w' := KeepsOthers.of_grownBy r2 fun j o ej hj => by
    rcases hown.2 with ⟨e, _⟩ | ⟨g, cap, cur, e, _, hgb, _⟩
    · rw [e] at ej; simp [Value.ownBlock] at ej
    · rw [e] at ej
      obtain rfl : g = j := by simpa [Value.ownBlock] using ej
      rw [hgb] at hj; cases hj; rfl
  rcases r1.2 with ⟨e, h0⟩ | ⟨g, cap', cur, e, _⟩
  · omega
  · subst e
    have h4 : At sa g ∨ g = w.heap.size := by
      rcases r4 with e | e
      · left
        cases sa with
        | none => simp [Value.ownBlock] at e
        | some ad' => simp only [Value.ownBlock, Option.some.injEq] at e; exact ⟨ad', rfl, e.symm⟩
      · right; simpa [Value.ownBlock] using e
    refine wpListIn_plain hg fun K hK' => ?_
    unfold Oper.wpIn
    refine ⟨?_, ?_⟩
    · simp [Oper.about, ho, resolve, Target.leads, Sem.run_pure]
    · rw [Oper.semAt_plain F _ _ (by rw [ho]; intro c hc'; cases hc')]
      simp [execOp, ho, resolve, invoke, builtin, hs, hx, hrun, Result.andThen]
      exact hK' _ _ (h g cap' w' r1 hk hko h4)

theorem own_cells {W W' : World} {row : Option Nat} {e c n₀ n cap : Nat} {a : Option Addr} {vs : List Value} (ho : Own e c W n₀ a cap n vs) (hg : W.grownBy W' row) (hr : ∀ r, row = some r → ∃ o : Obj, W.heap[r]? = some o ∧ o.isCells = false) : Own e c W' n₀ a cap n vs := by
  refine ho.kept (S := fun k => row = some k) ⟨hg.os, hg.tape, hg.output, hg.size, fun k hk hS => hg.block k hk (fun e => hS e.symm)⟩ (fun k hk e => ?_)
  obtain ⟨o, ho', hc⟩ := hr k e
  obtain ⟨ad, rfl, rfl⟩ := hk
  rcases ho.2 with ⟨e', _⟩ | ⟨g, cap', cur, e', _, hgb, _⟩
  · cases e'
  · cases e'
    rw [hgb] at ho'; cases ho'; cases hc
theorem box_cells {W W' : World} {row : Option Nat} {b t : Nat} {cs : Array Value} (hb : Box W b t cs) (hg : W.grownBy W' row) (hr : ∀ r, row = some r → ∃ o : Obj, W.heap[r]? = some o ∧ o.isCells = false) : Box W' b t cs :=
  (hg.block b hb.lt (fun e => by
    obtain ⟨o, ho', hc⟩ := hr b e.symm
    unfold Box at hb
    rw [hb] at ho'; cases ho'; cases hc)).trans hb
theorem kept_own {β : Type} {S : Nat → Prop} {B : Nat} {w : World} (hB : w.heap.size ≤ B) : OwnFrom B (fun (_ : β) W => Kept S w W) :=
  fun _ _ _ row hs hg hr => hs.grown hg (fun k e hk => by have := (hr k e).1; omega)
theorem box_own {β : Type} {B g t : Nat} (hB : g < B) (cs : β → Array Value) : OwnFrom B (fun (s : β) W => Box W g t (cs s)) :=
  fun s W W' row hs hg hr => hs.kept ((Kept.refl (fun k => B ≤ k) W).grown hg (fun k e _ => (hr k e).1)) (by omega)
theorem obj_own {β : Type} {B g : Nat} {o : Obj} (hB : g < B) : OwnFrom B (fun (_ : β) W => W.heap[g]? = some o) :=
  fun _ W W' row hs hg hr => (hg.block g (Array.getElem?_eq_some_iff.1 hs).1 (fun e => by have := (hr g e.symm).1; omega)).trans hs
theorem pre_next {pre ps : List (Int × Int)} {x : Int × Int} (h : pre ++ [x] <+: ps) : ps[pre.length]? = some x := by
  obtain ⟨r, rfl⟩ := h
  simp
section
variable {F : Fence} {n : Nat} {P : Program}
/-- The library's law, with the frame behind the assignments as a function. -/
theorem rf_H {α : Type} {g : Operand} {ps : Array Tmp} {assign body : Code} {Q : Exit → Act → World → Prop} {a : Act} {w : World}
    (hro : F.round = none) (h1 : 1 ≤ n) {gf : Nat} {lb : Array Value} (hg : a.eval g = .func (.func gf) #[] lb) (hFg : F.fn gf) (eg : ∀ args w, (callFunc gf args).run P w = .ok (.enter gf args) w)
    {encs : α → Array Value} {Kp : World → World → Prop} {S Sp : List α → Prop} {N : Nat} {w0 : World} (hseq : SeqStopsK F (n - 1) P gf lb encs Kp S Sp N w0)
    (hKt : ∀ {A B C : World}, Kp A B → Kp B C → Kp A C) (hKb : ∀ (W : World) (l : Nat) (o o' : Obj), w.heap.size ≤ l → W.heap[l]? = some o → o.isCells = false → o.isWalk = false → Kp W (W.putObj l o')) (hb0 : Below w0.heap.size w0 w) (hps : ∀ x, (encs x).size = ps.size)
    (I : List α → World → Prop) (Ix : Code → List α → World → Prop) (hI : OwnFrom w.heap.size I) (hIx : ∀ c, OwnFrom w.heap.size (Ix c)) (h0 : I [] w) (hKr : ∀ W, Kp W W) (a₁ : α → Act)
    (hassign : ∀ (l : Nat) (x : α) (W : World) (K : Act → World → Prop), K (a₁ x) W →
      assign.wpIn (F.inRound l) (n - 1 - 1) P (Exit.then K (fun _ _ _ => False)) { tmps := (ps.zip (encs x)).foldl (fun t (p, v) => t.setIfInBounds p v) a.tmps, defers := [] } W)
    (hbody : ∀ (l : Nat) (pre : List α) (x : α) (W : World), w.heap.size ≤ l → (∃ r, W.heap[l]? = some (.loop r)) → I pre W → pre.length < N → body.wpIn (F.inRound l) (n - 1 - 1) P (ownPostG w.heap.size Kp I Ix (pre ++ [x]) W) (a₁ x) W)
    (hdone : ∀ (D : Nat) (xs : List α) (W : World), w.heap.size ≤ D → S xs → I xs W → W.heap[D]? = some (.deferred (some [])) → Q .normal { a with defers := { target := .collected D, args := #[] } :: a.defers } W)
    (hstop : ∀ (D : Nat) (c : Code) (pre : List α) (W : World), w.heap.size ≤ D → Sp pre → Ix c pre W → W.heap[D]? = some (.deferred (some [])) → c.wpIn F n P Q { a with defers := { target := .collected D, args := #[] } :: a.defers } W) :
    (Code.rangeFunc g ps assign body).wpIn F n P Q a w :=
  wpIn_rangeFunc_ownH hro h1 hg hFg eg hseq (fun h k => hKt h k) hKb hb0 hps I Ix hI hIx h0 (fun x a' _ => a' = a₁ x) (fun _ _ _ _ _ _ hs _ _ => hs)
    (fun l pre x W K hi hK => hassign l x W K (hK _ _ (KeepsFrom.refl _ _) (hKr W) hi rfl)) (fun l pre x a' W h1 h2 hi e => by subst e; exact hbody l pre x W h1 h2 hi) hdone hstop
theorem rf_N {α : Type} {g : Operand} {ps : Array Tmp} {assign body : Code} {Q : Exit → Act → World → Prop} {a : Act} {w : World}
    {l₀ : Nat} {r₀ : Loop} (hro : F.round = some l₀) (hl₀ : w.heap[l₀]? = some (.loop r₀)) (h1 : 1 ≤ n) {gf : Nat} {lb : Array Value} (hg : a.eval g = .func (.func gf) #[] lb) (hFg : F.fn gf) (eg : ∀ args w, (callFunc gf args).run P w = .ok (.enter gf args) w)
    {encs : α → Array Value} {Kp : World → World → Prop} {S Sp : List α → Prop} {N : Nat} {w0 : World} (hseq : SeqStopsK F (n - 1) P gf lb encs Kp S Sp N w0)
    (hKt : ∀ {A B C : World}, Kp A B → Kp B C → Kp A C) (hKb : ∀ (W : World) (l : Nat) (o o' : Obj), w.heap.size ≤ l → W.heap[l]? = some o → o.isCells = false → o.isWalk = false → Kp W (W.putObj l o')) (hb0 : Below w0.heap.size w0 w) (hps : ∀ x, (encs x).size = ps.size)
    (I : List α → World → Prop) (Ix : Code → List α → World → Prop) (hI : OwnFrom w.heap.size I) (hIx : ∀ c, OwnFrom w.heap.size (Ix c)) (h0 : I [] w) (hKr : ∀ W, Kp W W) (a₁ : α → Act)
    (hassign : ∀ (l : Nat) (x : α) (W : World) (K : Act → World → Prop), K (a₁ x) W →
      assign.wpIn (F.inRound l) (n - 1 - 1) P (Exit.then K (fun _ _ _ => False)) { tmps := (ps.zip (encs x)).foldl (fun t (p, v) => t.setIfInBounds p v) a.tmps, defers := [] } W)
    (hbody : ∀ (l : Nat) (pre : List α) (x : α) (W : World), w.heap.size ≤ l → (∃ r, W.heap[l]? = some (.loop r)) → I pre W → pre.length < N → body.wpIn (F.inRound l) (n - 1 - 1) P (ownPostG w.heap.size Kp I Ix (pre ++ [x]) W) (a₁ x) W)
    (hdone : ∀ (xs : List α) (W : World), S xs → I xs W → Q .normal a W)
    (hstop : ∀ (c : Code) (pre : List α) (W : World), Sp pre → Ix c pre W → c.wpIn F n P Q a W) :
    (Code.rangeFunc g ps assign body).wpIn F n P Q a w :=
  wpIn_rangeFunc_ownN hro hl₀ h1 hg hFg eg hseq (fun h k => hKt h k) hKb hb0 hps I Ix hI hIx h0 (fun x a' _ => a' = a₁ x) (fun _ _ _ _ _ _ hs _ _ => hs)
    (fun l pre x W K hi hK => hassign l x W K (hK _ _ (KeepsFrom.refl _ _) (hKr W) hi rfl)) (fun l pre x a' W h1 h2 hi e => by subst e; exact hbody l pre x W h1 h2 hi) hdone hstop
end

/-- The points, one number behind the other. -/
def flatP (ps : List (Int × Int)) : List Int := (ps.map fun x => [x.1, x.2]).flatten
theorem flatP_len (ps : List (Int × Int)) : (flatP ps).length = 2 * ps.length := by
  unfold flatP; induction ps with
  | nil => rfl
  | cons a l ih => simp only [List.map_cons, List.flatten_cons, List.length_append, List.length_cons, List.length_nil, ih]; omega
theorem flatP_app (ps : List (Int × Int)) (x : Int × Int) : flatP (ps ++ [x]) = flatP ps ++ [x.1, x.2] := by simp [flatP]
theorem flatP_at (ps : List (Int × Int)) (j : Nat) (hj : j < ps.length) : (flatP ps)[2 * j]?.getD 0 = (ps[j]?.getD (0, 0)).1 ∧ (flatP ps)[2 * j + 1]?.getD 0 = (ps[j]?.getD (0, 0)).2 := by
  induction ps generalizing j with
  | nil => simp at hj
  | cons a l ih =>
    have e : flatP (a :: l) = a.1 :: a.2 :: flatP l := by simp [flatP]
    rw [e]
    cases j with
    | zero => simp
    | succ j =>
      have h1 : 2 * (j + 1) = 2 * j + 1 + 1 := by omega
      have := ih j (by simpa using hj)
      rw [h1]
      simpa using this

/-- What again holds while it runs: first half. -/
structure Ah (w : World) (stop : Int) (s0 rb sb qb lb pg pc m : Nat) (la : Option Addr) (lc : Nat) (zs : List Int) (W : World) : Prop where
  o0 : w.heap.size ≤ s0
  o1 : s0 < rb
  o2 : rb < sb
  o3 : sb < qb
  o4 : qb < lb
  ol : ∀ k, At la k → lb < k
  bs : Box W s0 3 #[.int .i64 stop]
  br : Box W rb 4 #[.bool false]
  bp : Box W sb 63 #[.slice (some ⟨pg, 0, none⟩) m pc]
  bq : Box W qb 31 #[.func (.func 29) #[] #[.pointer (some ⟨sb, 0, none⟩)]]
  bl : Box W lb 22 #[.slice la zs.length lc]
  ow : OwI W w.heap.size la lc zs
  kp : Kept No w W
section
variable {w W W' : World} {stop : Int} {s0 rb sb qb lb pg pc m : Nat} {la : Option Addr} {lc : Nat} {zs : List Int}
theorem Ah.no (h : Ah w stop s0 rb sb qb lb pg pc m la lc zs W) (hk : Kept No W W') : Ah w stop s0 rb sb qb lb pg pc m la lc zs W' :=
  ⟨h.o0, h.o1, h.o2, h.o3, h.o4, h.ol, h.bs.kept hk (fun e => e), h.br.kept hk (fun e => e), h.bp.kept hk (fun e => e), h.bq.kept hk (fun e => e), h.bl.kept hk (fun e => e), h.ow.no hk, h.kp.then hk⟩
theorem Ah.grown {row : Option Nat} {B : Nat} (hB : w.heap.size ≤ B) (h : Ah w stop s0 rb sb qb lb pg pc m la lc zs W) (hg : W.grownBy W' row) (hr : ∀ r, row = some r → B ≤ r ∧ ∃ o : Obj, W.heap[r]? = some o ∧ o.isCells = false) : Ah w stop s0 rb sb qb lb pg pc m la lc zs W' := by
  have hr' : ∀ r, row = some r → ∃ o : Obj, W.heap[r]? = some o ∧ o.isCells = false := fun r e => (hr r e).2
  exact ⟨h.o0, h.o1, h.o2, h.o3, h.o4, h.ol, box_cells h.bs hg hr', box_cells h.br hg hr', box_cells h.bp hg hr', box_cells h.bq hg hr', box_cells h.bl hg hr', own_cells h.ow hg hr', h.kp.grown hg (fun k e hk => by have := (hr k e).1; omega)⟩
/-- A list is appended to, and its variable brought up to it. -/
theorem Ah.app {g' c' : Nat} {news : List Int} (h : Ah w stop s0 rb sb qb lb pg pc m la lc zs W) (ho : Own 3 1 W' w.heap.size (some ⟨g', 0, none⟩) c' (zs.length + news.length) (zs.map (Value.int .i64) ++ news.map (Value.int .i64))) (hk : Kept (At la) W W') (hat : At la g' ∨ W.heap.size ≤ g') :
    Ah w stop s0 rb sb qb lb pg pc m (some ⟨g', 0, none⟩) c' (zs ++ news) (W'.setCell ⟨lb, 0, none⟩ (.slice (some ⟨g', 0, none⟩) (zs.length + news.length) c')) := by
  have hl : ∀ k, At la k → lb < k := h.ol
  have hs := h.bl.lt
  have hg : lb < g' := by
    rcases hat with h1 | h1
    · exact hl _ h1
    · omega
  have ks : Kept (Only lb) W' (W'.setCell ⟨lb, 0, none⟩ (.slice (some ⟨g', 0, none⟩) (zs.length + news.length) c')) := (Kept.refl (Only lb) W').setCell (p := ⟨lb, 0, none⟩) (fun _ => rfl) _
  have o1 := h.o1; have o2 := h.o2; have o3 := h.o3; have o4 := h.o4; have o0 := h.o0
  have nl : ∀ k, k ≤ lb → ¬ At la k := fun k hk' e => by have := hl k e; omega
  have no : ∀ k, k < lb → ¬ Only lb k := fun k hk' e => by have e : k = lb := e; omega
  refine ⟨h.o0, h.o1, h.o2, h.o3, h.o4, ?_, (h.bs.kept hk (nl _ (by omega))).kept ks (no _ (by omega)), (h.br.kept hk (nl _ (by omega))).kept ks (no _ (by omega)), (h.bp.kept hk (nl _ (by omega))).kept ks (no _ (by omega)), (h.bq.kept hk (nl _ (by omega))).kept ks (no _ (by omega)), ?_, ?_, ?_⟩
  · rintro k ⟨ad, e, rfl⟩
    cases e
    exact hg
  · have := (h.bl.kept hk (nl _ (Nat.le_refl _))).set 0 (.slice (some ⟨g', 0, none⟩) (zs.length + news.length) c')
    rw [List.length_append]
    exact this
  · unfold OwI
    rw [List.length_append, List.map_append]
    refine Own.kept ho ks ?_
    rintro k ⟨ad, e, rfl⟩ e2
    cases e
    have e2 : g' = lb := e2
    omega
  · exact (h.kp.trans hk (fun _ e => e) (fun i hi e => by have := hl i e; omega)).trans ks (fun _ e => e) (fun i hi e => by have e : i = lb := e; omega)
end
/-- .. and with its counter. -/
structure Ag (w : World) (stop : Int) (s0 rb sb qb lb pg pc m : Nat) (la : Option Addr) (lc : Nat) (zs : List Int) (nb : Nat) (n : Int) (W : World) : Prop where
  ah : Ah w stop s0 rb sb qb lb pg pc m la lc zs W
  o5 : lb < nb
  ol : ∀ k, At la k → k < nb
  bn : Box W nb 3 #[.int .i64 n]
section
variable {w W W' : World} {stop : Int} {s0 rb sb qb lb pg pc m : Nat} {la : Option Addr} {lc : Nat} {zs : List Int} {nb : Nat} {n : Int}
theorem Ag.no (h : Ag w stop s0 rb sb qb lb pg pc m la lc zs nb n W) (hk : Kept No W W') : Ag w stop s0 rb sb qb lb pg pc m la lc zs nb n W' := ⟨h.ah.no hk, h.o5, h.ol, h.bn.kept hk (fun e => e)⟩
theorem Ag.above {B : Nat} (h : Ag w stop s0 rb sb qb lb pg pc m la lc zs nb n W) (hB : nb < B) (hk : Kept (fun k => B ≤ k) W W') : Ag w stop s0 rb sb qb lb pg pc m la lc zs nb n W' := by
  have o1 := h.ah.o1; have o2 := h.ah.o2; have o3 := h.ah.o3; have o4 := h.ah.o4; have o0 := h.ah.o0; have o5 := h.o5
  have nk : ∀ k, k ≤ nb → ¬ B ≤ k := fun k hk => by omega
  exact ⟨⟨h.ah.o0, h.ah.o1, h.ah.o2, h.ah.o3, h.ah.o4, h.ah.ol, h.ah.bs.kept hk (nk _ (by omega)), h.ah.br.kept hk (nk _ (by omega)), h.ah.bp.kept hk (nk _ (by omega)), h.ah.bq.kept hk (nk _ (by omega)), h.ah.bl.kept hk (nk _ (by omega)), h.ah.ow.kept hk (fun k e => nk k (by have := h.ol k e; omega)), h.ah.kp.trans hk (fun _ e => e) (fun i hi e => by omega)⟩, h.o5, h.ol, h.bn.kept hk (nk _ (Nat.le_refl _))⟩
theorem Ag.num (h : Ag w stop s0 rb sb qb lb pg pc m la lc zs nb n W) (x : Int) : Ag w stop s0 rb sb qb lb pg pc m la lc zs nb x (W.setCell ⟨nb, 0, none⟩ (.int .i64 x)) := by
  have o1 := h.ah.o1; have o2 := h.ah.o2; have o3 := h.ah.o3; have o4 := h.ah.o4; have o0 := h.ah.o0; have o5 := h.o5
  have hk : Kept (Only nb) W (W.setCell ⟨nb, 0, none⟩ (.int .i64 x)) := (Kept.refl (Only nb) W).setCell (p := ⟨nb, 0, none⟩) (fun _ => rfl) _
  have nk : ∀ k, k < nb → ¬ Only nb k := fun k hk e => by have e : k = nb := e; omega
  exact ⟨⟨h.ah.o0, h.ah.o1, h.ah.o2, h.ah.o3, h.ah.o4, h.ah.ol, h.ah.bs.kept hk (nk _ (by omega)), h.ah.br.kept hk (nk _ (by omega)), h.ah.bp.kept hk (nk _ (by omega)), h.ah.bq.kept hk (nk _ (by omega)), h.ah.bl.kept hk (nk _ (by omega)), h.ah.ow.kept hk (fun k e => nk k (h.ol k e)), h.ah.kp.trans hk (fun _ e => e) (fun i hi e => by have e : i = nb := e; omega)⟩, h.o5, h.ol, h.bn.set 0 _⟩
theorem Ag.own {β : Type} {B : Nat} (hB : w.heap.size ≤ B) (n : β → Int) : OwnFrom B (fun s W => Ag w stop s0 rb sb qb lb pg pc m la lc zs nb (n s) W) :=
  fun s W W' row h hg hr => ⟨h.ah.grown hB hg hr, h.o5, h.ol, box_cells h.bn hg (fun r e => (hr r e).2)⟩
theorem Ag.cells (h : Ag w stop s0 rb sb qb lb pg pc m la lc zs nb n W) : W.cell? ⟨s0, 0, none⟩ = some (.int .i64 stop) ∧ (W.cell? ⟨rb, 0, none⟩ = some (.bool false) ∧ W.frozen? ⟨rb, 0, none⟩ = false) ∧ W.cell? ⟨qb, 0, none⟩ = some (.func (.func 29) #[] #[.pointer (some ⟨sb, 0, none⟩)]) ∧ W.cell? ⟨lb, 0, none⟩ = some (.slice la zs.length lc) ∧ W.cell? ⟨nb, 0, none⟩ = some (.int .i64 n) ∧ W.frozen? ⟨nb, 0, none⟩ = false :=
  ⟨(h.ah.bs.cell 0).trans rfl, ⟨(h.ah.br.cell 0).trans rfl, h.ah.br.frozen 0⟩, (h.ah.bq.cell 0).trans rfl, (h.ah.bl.cell 0).trans rfl, (h.bn.cell 0).trans rfl, h.bn.frozen 0⟩
/-- What the next point is held against. -/
theorem Ag.row {ps : List (Int × Int)} (h : Ag w stop s0 rb sb qb lb pg pc m la lc (flatP ps) nb n W) {j : Nat} (hj : j < ps.length) : ∃ g y1 y2, la = some ⟨g, 0, none⟩ ∧ W.cell? ⟨g, 2 * j, none⟩ = some (.int .i64 y1) ∧ W.cell? ⟨g, 2 * j + 1, none⟩ = some (.int .i64 y2) ∧ ps[j]? = some (y1, y2) := by
  have ho := h.ah.ow
  have hl := flatP_len ps
  obtain ⟨g, rfl⟩ := ho.sm (by omega)
  have h1 := (ho.row2 (2 * j) (by omega)).1
  have h2 := (ho.row2 (2 * j + 1) (by omega)).1
  obtain ⟨e1, e2⟩ := flatP_at ps j hj
  rw [e1] at h1
  rw [e2] at h2
  refine ⟨g, _, _, rfl, h1, h2, ?_⟩
  simp [List.getElem?_eq_getElem hj]
end

end Go.Proofs.Ytpapbleabjpbfab
