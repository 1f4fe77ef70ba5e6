import Derived.Test.YtfemlnfknebalaaVb
import Derived.Test.YtfemlnfknebalaaZg
namespace Go.Proofs.Ytfemlnfknebalaa
open Go.RowKit
set_option linter.unusedVariables false
set_option linter.unusedSimpArgs false
@[reducible] def oqVc0 : Oper := { dst := some 27, op := Op.call { callee := Callee.value (Operand.func 26), args := #[Operand.tmp 21, Operand.tmp 25, Operand.tmp 26], argTypes := #[25, 29, 3] }, type := 68, pos := "ref.go:225", after := #[{ on := 0, ground := Ground.data }, { on := 4, ground := Ground.data }, { on := 5, ground := Ground.data }], guard := none }
@[reducible] def oqVc1 : Oper := { dst := some 20, op := Op.move (Operand.tmp 27), type := 68, pos := "ref.go:225", after := #[{ on := 6, ground := Ground.data }], guard := none }
@[reducible] def oqVc2 : Oper := { dst := some 28, op := Op.extract (Operand.tmp 20) 0, type := 25, pos := "ref.go:225", after := #[{ on := 7, ground := Ground.data }], guard := none }
@[reducible] def oqVc3 : Oper := { dst := some 29, op := Op.extract (Operand.tmp 20) 1, type := 56, pos := "ref.go:225", after := #[{ on := 7, ground := Ground.data }, { on := 13, ground := Ground.gcOnly Departure.lateStores }], guard := none }
@[reducible] def oqVc4 : Oper := { dst := some 30, op := Op.extract (Operand.tmp 20) 2, type := 3, pos := "ref.go:225", after := #[{ on := 7, ground := Ground.data }, { on := 14, ground := Ground.gcOnly Departure.lateStores }], guard := none }
@[reducible] def oqVc5 : Oper := { dst := some 11, op := Op.alloc 25, type := 0, pos := "ref.go:225", after := #[], guard := none }
@[reducible] def oqVc6 : Oper := { dst := some 12, op := Op.alloc 56, type := 0, pos := "ref.go:225", after := #[], guard := none }
@[reducible] def oqVc7 : Oper := { dst := none, op := Op.store 25 (Operand.tmp 11) (Operand.tmp 28), type := 0, pos := "ref.go:225", after := #[{ on := 11, ground := Ground.data }, { on := 8, ground := Ground.data }, { on := 6, ground := Ground.chain }, { on := 0, ground := Ground.phase }, { on := 1, ground := Ground.phase }, { on := 2, ground := Ground.phase }, { on := 3, ground := Ground.phase }, { on := 4, ground := Ground.phase }, { on := 5, ground := Ground.phase }, { on := 6, ground := Ground.phase }, { on := 7, ground := Ground.phase }, { on := 8, ground := Ground.phase }, { on := 9, ground := Ground.textOnly Departure.lateStores }, { on := 10, ground := Ground.textOnly Departure.lateStores }, { on := 11, ground := Ground.phase }, { on := 12, ground := Ground.phase }], guard := none }
@[reducible] def oqVc8 : Oper := { dst := none, op := Op.store 56 (Operand.tmp 12) (Operand.tmp 29), type := 0, pos := "ref.go:225", after := #[{ on := 12, ground := Ground.data }, { on := 9, ground := Ground.data }, { on := 13, ground := Ground.chain }, { on := 0, ground := Ground.phase }, { on := 1, ground := Ground.phase }, { on := 2, ground := Ground.phase }, { on := 3, ground := Ground.phase }, { on := 4, ground := Ground.phase }, { on := 5, ground := Ground.phase }, { on := 6, ground := Ground.phase }, { on := 7, ground := Ground.phase }, { on := 8, ground := Ground.phase }, { on := 9, ground := Ground.phase }, { on := 10, ground := Ground.textOnly Departure.lateStores }, { on := 11, ground := Ground.phase }, { on := 12, ground := Ground.phase }, { on := 13, ground := Ground.phase }], guard := none }
@[reducible] def oqVc9 : Oper := { dst := some 13, op := Op.assign (Operand.tmp 30), type := 3, pos := "ref.go:225", after := #[{ on := 10, ground := Ground.data }, { on := 14, ground := Ground.chain }, { on := 0, ground := Ground.phase }, { on := 1, ground := Ground.phase }, { on := 2, ground := Ground.phase }, { on := 3, ground := Ground.phase }, { on := 4, ground := Ground.phase }, { on := 5, ground := Ground.phase }, { on := 6, ground := Ground.phase }, { on := 7, ground := Ground.phase }, { on := 8, ground := Ground.phase }, { on := 9, ground := Ground.phase }, { on := 10, ground := Ground.phase }, { on := 11, ground := Ground.phase }, { on := 12, ground := Ground.phase }, { on := 13, ground := Ground.phase }, { on := 14, ground := Ground.phase }], guard := none }

structure RfA (w : World) (base : Nat) (p : Prop) (s0 : Sl) (es0 : List En) (t0 : Sl) (ls0 : List La) (v : Bv) (av : Av) (R : Bk × An) : Prop where
  out : p → v.up = R.1.up ∧ OrE w base s0 es0 v.e R.1.es ∧ v.e.l ≤ v.e.k ∧ OrL w base t0 ls0 v.l R.1.ls ∧ av.er = R.2.er ∧ av.e = R.2.e ∧ OwE w base av.l R.2.l
theorem RfA.no {w w' : World} {base : Nat} {p : Prop} {s0 t0 : Sl} {es0 : List En} {ls0 : List La} {v : Bv} {av : Av} {R : Bk × An} (h : RfA w base p s0 es0 t0 ls0 v av R) (hk : Kept No w w') : RfA w' base p s0 es0 t0 ls0 v av R :=
  ⟨fun hp => by obtain ⟨h1, h2, h3, h4, h5, h6, h7⟩ := h.out hp; exact ⟨h1, h2.no hk, h3, h4.no hk, h5, h6, h7.no hk⟩⟩
theorem RfA.row {w : World} {base g : Nat} {p : Prop} {s0 t0 : Sl} {es0 : List En} {ls0 : List La} {v : Bv} {av : Av} {R : Bk × An} {T : TypeId} {cs : Array Value} (h : RfA w base p s0 es0 t0 ls0 v av R) (hb : Box w g T cs) (h1 : 54 ≠ T) (h2 : 64 ≠ T) (cs' : Array Value) : RfA (w.setRow g cs') base p s0 es0 t0 ls0 v av R :=
  ⟨fun hp => by obtain ⟨r1, r2, r3, r4, r5, r6, r7⟩ := h.out hp; exact ⟨r1, r2.row hb h1 _, r3, r4.row hb h2 _, r5, r6, r7.kept (Kept.setRow _ _ _) (fun k hk e => r7.own.notBox hb h1 ((show k = g from e) ▸ hk))⟩⟩
theorem RfA.lower {w : World} {base base' : Nat} {p : Prop} {s0 t0 : Sl} {es0 : List En} {ls0 : List La} {v : Bv} {av : Av} {R : Bk × An} (h : RfA w base p s0 es0 t0 ls0 v av R) (hb : base' ≤ base) : RfA w base' p s0 es0 t0 ls0 v av R :=
  ⟨fun hp => by obtain ⟨h1, h2, h3, h4, h5, h6, h7⟩ := h.out hp; exact ⟨h1, h2.lower hb, h3, h4.lower hb, h5, h6, h7.lower hb⟩⟩
theorem refAny (up : Int) (ea : Option Addr) (en ec : Nat) (la : Option Addr) (ln lc : Nat) (es : List En) (ls : List La) (c : Cm) (room : Int) (w : World) (he : RdE w ⟨ea, en, ec⟩ es) (hl : RdL w ⟨la, ln, lc⟩ ls) (hre : RiseE es) (hrl : RiseL ls) (hec : en ≤ ec) (hb : en + 1 ≤ 3518437208883) (hbl : ln + 1 ≤ 2513169434916) (hu1 : -9223372036854775808 ≤ up) :
    Calls Try.prog 26 #[.agg (Bv.cells ⟨up, ⟨ea, en, ec⟩, ⟨la, ln, lc⟩⟩), .agg (Cm.cells c), .int .i64 room] w (fun e w' => ∃ (v : Bv) (av : Av), e = .returned (.tuple #[.agg v.cells, .agg av.cells, .int .i64 (refS up c)]) ∧ RfA w' w.heap.size (refS up c = 0) ⟨ea, en, ec⟩ es ⟨la, ln, lc⟩ ls v av (stepS ⟨up, es, ls⟩ c room) ∧ Kept No w w') := by
  by_cases hr : refS up c = 0
  · refine (refApply_mem up ea en ec la ln lc es ls c room w hr he hl hec hb hbl hu1).mono fun e w' ⟨se, sl, sx, h1, h2, h3, h4, h5, h6⟩ => ?_
    rw [act_R hre] at h1 h2 h4 h5
    refine ⟨⟨up + 1, se, sl⟩, ⟨(actS es c room).2.er, (actS es c room).2.e, sx⟩, by rw [hr]; exact h1, ⟨fun _ => ⟨rfl, h2, h3, ?_, rfl, rfl, h5⟩⟩, h6⟩
    cases hq : quest c
    · rw [hq] at h4
      rw [stepS_k hq, ← note_keep hrl]
      exact h4
    · rw [hq] at h4
      rw [stepS_q hq]
      exact h4
  · exact (refApply_no up ea en ec la ln lc c room w hr).mono fun e w' ⟨h1, h2⟩ => ⟨bvZ, avZ, h1, ⟨fun h => absurd h hr⟩, h2⟩
/-- A bucket whose lists came in, or lie in rows of their own types. -/
structure BkO (w : World) (base : Nat) (v : Bv) (b : Bk) : Prop where
  up : v.up = b.up
  e : RdE w v.e b.es
  l : RdL w v.l b.ls
  te : b.es ≠ [] → ∀ k, At v.e.a k → k < base ∨ ∃ cs, Box w k 54 cs
  tl : b.ls ≠ [] → ∀ k, At v.l.a k → k < base ∨ ∃ cs, Box w k 64 cs
theorem rdE_nil {w : World} {s : Sl} (w' : World) (h : RdE w s []) : RdE w' s [] := ⟨RowsAt.nil _ _ _, h.len, h.cap⟩
theorem rdL_nil {w : World} {s : Sl} (w' : World) (h : RdL w s []) : RdL w' s [] := ⟨RowsAt.nil _ _ _, h.len, h.cap⟩
theorem BkO.kept {S : Nat → Prop} {w w' : World} {base : Nat} {v : Bv} {b : Bk} (h : BkO w base v b) (hk : Kept S w w') (hS : ∀ k, S k → base ≤ k ∧ ∃ T cs, Box w k T cs ∧ T ≠ 54 ∧ T ≠ 64) (hs : base ≤ w.heap.size) : BkO w' base v b := by
  have h1 : b.es ≠ [] → ∀ k, At v.e.a k → ¬ S k := fun hn k hk e => by
    obtain ⟨hb0, T, cs', hb', hT, _⟩ := hS k e
    rcases h.te hn k hk with h0 | ⟨cs, hb⟩
    · omega
    · exact box_ne hb hb' (Ne.symm hT) rfl
  have h2 : b.ls ≠ [] → ∀ k, At v.l.a k → ¬ S k := fun hn k hk e => by
    obtain ⟨hb0, T, cs', hb', _, hT⟩ := hS k e
    rcases h.tl hn k hk with h0 | ⟨cs, hb⟩
    · omega
    · exact box_ne hb hb' (Ne.symm hT) rfl
  refine ⟨h.up, ?_, ?_, fun hn k hk' => ?_, fun hn k hk' => ?_⟩
  · by_cases hn : b.es = []
    · have := h.e; rw [hn] at this ⊢; exact rdE_nil _ this
    · exact h.e.kept hk (h1 hn)
  · by_cases hn : b.ls = []
    · have := h.l; rw [hn] at this ⊢; exact rdL_nil _ this
    · exact h.l.kept hk (h2 hn)
  · exact (h.te hn k hk').imp id (fun ⟨cs, hb⟩ => ⟨cs, hb.kept hk (h1 hn k hk')⟩)
  · exact (h.tl hn k hk').imp id (fun ⟨cs, hb⟩ => ⟨cs, hb.kept hk (h2 hn k hk')⟩)
theorem BkO.no {w w' : World} {base : Nat} {v : Bv} {b : Bk} (h : BkO w base v b) (hk : Kept No w w') : BkO w' base v b :=
  ⟨h.up, h.e.no hk, h.l.no hk, fun hn k hk' => (h.te hn k hk').imp id (fun ⟨cs, hb⟩ => ⟨cs, hb.no hk⟩), fun hn k hk' => (h.tl hn k hk').imp id (fun ⟨cs, hb⟩ => ⟨cs, hb.no hk⟩)⟩
theorem BkO.start {w : World} {v : Bv} {b : Bk} (hu : v.up = b.up) (he : RdE w v.e b.es) (hl : RdL w v.l b.ls) : BkO w w.heap.size v b := by
  refine ⟨hu, he, hl, fun hn k hk => .inl ?_, fun hn k hk => .inl ?_⟩
  · cases hb : b.es with
    | nil => exact absurd hb hn
    | cons x t =>
      obtain ⟨g, off, e1, e2⟩ := he.row 0 x.cs (by rw [hb]; rfl)
      obtain ⟨ad, h1, rfl⟩ := hk
      rw [e1] at h1; cases h1
      have := e2 0 _ rfl
      have h3 := World.block_lt_of_cell? w _ this
      exact h3
  · cases hb : b.ls with
    | nil => exact absurd hb hn
    | cons x t =>
      obtain ⟨g, off, e1, e2⟩ := hl.row 0 x.cs (by rw [hb]; rfl)
      obtain ⟨ad, h1, rfl⟩ := hk
      rw [e1] at h1; cases h1
      have := e2 0 _ rfl
      have h3 := World.block_lt_of_cell? w _ this
      exact h3
theorem BkO.next {w w' : World} {v v' : Bv} {b b' : Bk} {base b1 b2 : Nat} (h : BkO w base v b) (hk : Kept No w w') (hu : v'.up = b'.up) (he : OrE w' b1 v.e b.es v'.e b'.es) (hl : OrL w' b2 v.l b.ls v'.l b'.ls) : BkO w' base v' b' := by
  have hn := h.no hk
  refine ⟨hu, he.rd hn.e, hl.rd hn.l, fun h0 k hk' => ?_, fun h0 k hk' => ?_⟩
  · rcases he.out with ⟨e, e2⟩ | ho
    · rw [e] at hk'; rw [e2] at h0; exact hn.te h0 k hk'
    · exact .inr (ho.own.ty hk')
  · rcases hl.out with ⟨e, e2⟩ | ho
    · rw [e] at hk'; rw [e2] at h0; exact hn.tl h0 k hk'
    · exact .inr (ho.own.ty hk')
def RefOut (w : World) (er : Int) (b : Bk) (az : List An) (e : Ending) (w' : World) : Prop :=
  ∃ (v : Bv) (s : Sl) (vs : List Av), e = .returned (.tuple #[.agg v.cells, s.v, .int .i64 er]) ∧ v.up = b.up ∧ RdE w' v.e b.es ∧ RdL w' v.l b.ls ∧ Ans w' w.heap.size s vs az ∧ Kept No w w'
theorem Fr.swap4 {S : Nat → Prop} {w0 w : World} {a b c d : Nat × TypeId × Array Value} (h : Fr S w0 w [a, b, c, d]) : Fr S w0 w [a, b, d, c] := by
  obtain ⟨σ, hσ⟩ : ∃ σ : Nat → Nat, σ = fun i => if i = 2 then 3 else if i = 3 then 2 else i := ⟨_, rfl⟩
  have key : ∀ (i : Nat) x, [a, b, d, c][i]? = some x → [a, b, c, d][σ i]? = some x := by
    intro i x hx
    rw [hσ]
    match i, hx with
    | 0, hx => exact hx
    | 1, hx => exact hx
    | 2, hx => exact hx
    | 3, hx => exact hx
    | n + 4, hx => simp at hx
  refine ⟨h.kept, fun i g T cs hi => h.box _ g T cs (key i _ hi), fun i g T cs hi => h.low _ g T cs (key i _ hi), fun i j g T cs T' cs' hi hj => ?_⟩
  have e := h.inj _ _ g T cs T' cs' (key i _ hi) (key j _ hj)
  have fin : ∀ i j : Nat, (if i = 2 then 3 else if i = 3 then 2 else i) = (if j = 2 then 3 else if j = 3 then 2 else j) → i = j := by
    intro i j e
    by_cases a1 : i = 2 <;> by_cases a2 : i = 3 <;> by_cases b1 : j = 2 <;> by_cases b2 : j = 3 <;> first | omega | (simp [a1, a2, b1, b2] at e; done) | (simp [a1, a2, b1, b2] at e; omega)
  rw [hσ] at e
  exact fin i j e
set_option maxRecDepth 100000 in
set_option maxHeartbeats 4000000 in
theorem refReplay_any (up : Int) (ea : Option Addr) (en ec : Nat) (la : Option Addr) (ln lc : Nat) (room : Int) (ca : Option Addr) (cn cc : Nat) (es : List En) (ls : List La) (xs : List Cm) (w : World) (he : RdE w ⟨ea, en, ec⟩ es) (hl : RdL w ⟨la, ln, lc⟩ ls) (hec : en ≤ ec) (hfi : Fine 600 ⟨up, es, ls⟩) (hxl : xs.length = cn) (hcn : cn ≤ 400) (hX : Cs w ca xs) : Calls Try.prog 20 #[.agg (Bv.cells ⟨up, ⟨ea, en, ec⟩, ⟨la, ln, lc⟩⟩), .int .i64 room, .slice ca cn cc] w (RefOut w (errR room ⟨up, es, ls⟩ xs) (resB room ⟨up, es, ls⟩ xs) (resA room ⟨up, es, ls⟩ xs)) := by
  obtain ⟨C, hC⟩ : ∃ C : Ending → World → Prop, C = (RefOut w (errR room ⟨up, es, ls⟩ xs) (resB room ⟨up, es, ls⟩ xs) (resA room ⟨up, es, ls⟩ xs)) := ⟨_, rfl⟩
  have HC : Hid (C = (RefOut w (errR room ⟨up, es, ls⟩ xs) (resB room ⟨up, es, ls⟩ xs) (resA room ⟨up, es, ls⟩ xs))) := hC
  rw [← hC]
  clear hC
  have HL : Hid (xs.length = cn) := hxl
  have HX : Hid (Cs w ca xs) := hX
  have HFi0 : Hid (Fine 600 ⟨up, es, ls⟩) := hfi
  have HB0 : Hid (BkO w w.heap.size ⟨up, ⟨ea, en, ec⟩, ⟨la, ln, lc⟩⟩ ⟨up, es, ls⟩) := BkO.start rfl he hl
  clear hxl hX hfi he hl
  have HF : Hid (Fr No w w []) := Fr.start _ _
  go_enter Try.func20, Try.ntmps20
  go_upto_region 0 with fail
  refine WL.start ?_
  refine wp_runW (.pointer (some ⟨w.heap.size, 0, none⟩)) (w.alloc (.cells (Bv.cells ⟨up, ⟨ea, en, ec⟩, ⟨la, ln, lc⟩⟩) 25)) (exec_box 25 _ rfl (Bv.cells ⟨up, ⟨ea, en, ec⟩, ⟨la, ln, lc⟩⟩) (by kernel_rfl)) (by kernel_rfl) ?_
  try simp only [pA, pB, p1, p2, p3]
  have HB0 : Hid (BkO (w.alloc (.cells (Bv.cells ⟨up, ⟨ea, en, ec⟩, ⟨la, ln, lc⟩⟩) 25)) w.heap.size ⟨up, ⟨ea, en, ec⟩, ⟨la, ln, lc⟩⟩ ⟨up, es, ls⟩) := HB0.out.no ((Kept.refl No _).alloc _)
  have HF : Hid (Fr No w (w.alloc (.cells (Bv.cells ⟨up, ⟨ea, en, ec⟩, ⟨la, ln, lc⟩⟩) 25)) [(w.heap.size, 25, Bv.cells ⟨up, ⟨ea, en, ec⟩, ⟨la, ln, lc⟩⟩)]) := HF.out.alloc _ _
  generalize w.alloc (.cells (Bv.cells ⟨up, ⟨ea, en, ec⟩, ⟨la, ln, lc⟩⟩) 25) = wk2 at HF HB0 ⊢
  generalize w.heap.size = gk1 at HF ⊢
  refine wp_runW (.pointer (some ⟨wk2.heap.size, 0, none⟩)) (wk2.alloc (.cells (Bv.cells bvZ) 25)) (exec_alloc 25 rfl (Bv.cells bvZ) zero25) (by kernel_rfl) ?_
  try simp only [pA, pB, p1, p2, p3]
  have HB0 : Hid (BkO (wk2.alloc (.cells (Bv.cells bvZ) 25)) w.heap.size ⟨up, ⟨ea, en, ec⟩, ⟨la, ln, lc⟩⟩ ⟨up, es, ls⟩) := HB0.out.no ((Kept.refl No _).alloc _)
  have HF : Hid (Fr No w (wk2.alloc (.cells (Bv.cells bvZ) 25)) [(gk1, 25, Bv.cells ⟨up, ⟨ea, en, ec⟩, ⟨la, ln, lc⟩⟩), (wk2.heap.size, 25, Bv.cells bvZ)]) := HF.out.alloc _ _
  generalize wk2.alloc (.cells (Bv.cells bvZ) 25) = wk4 at HF HB0 ⊢
  generalize wk2.heap.size = gk3 at HF ⊢
  refine tK (.slice none 0 0) ?_
  try simp only [pA, pB, p1, p2, p3]
  refine tK (.int .i64 0) ?_
  try simp only [pA, pB, p1, p2, p3]
  refine WL.nil ?_
  try simp only [pA, pB, p1, p2, p3]
  go_upto_region 1 with fail
  refine WL.start ?_
  refine tK (.slice none 0 0) ?_
  try simp only [pA, pB, p1, p2, p3]
  refine WL.nil ?_
  try simp only [pA, pB, p1, p2, p3]
  go_wp2
  go_loopw [9, 10] (fun v9 v10 wr => ∃ (i n : Nat) (b : Bk) (se sl : Sl) (a : Option Addr) (c : Nat) (vs : List Av) (A : List An), v9 = .slice a n c ∧ v10 = .int .i64 ((i : Nat) : Int) ∧ i ≤ cn ∧ n ≤ i ∧ se.l ≤ se.k ∧ Hid (Fr No w wr [(gk1, 25, Bv.cells ⟨b.up, se, sl⟩), (gk3, 25, Bv.cells bvZ)]) ∧ Hid (BkO wr w.heap.size ⟨b.up, se, sl⟩ b) ∧ Hid (Ans wr w.heap.size ⟨a, n, c⟩ vs A) ∧ Hid (runB room ⟨up, es, ls⟩ (xs.take i) = b ∧ runA room ⟨up, es, ls⟩ (xs.take i) = A ∧ errR room ⟨up, es, ls⟩ (xs.take i) = 0) ∧ Hid (Fine (600 + i) b)) (fun _ i _ => cn - (intOf i).toNat)
  case atStart => exact ⟨0, 0, ⟨up, es, ls⟩, ⟨ea, en, ec⟩, ⟨la, ln, lc⟩, none, 0, [], [], rfl, by go_num, by omega, by omega, hec, HF, HB0, Ans.nil _ _, ⟨rfl, rfl, rfl⟩, HFi0⟩
  case round =>
    clear HF HB0 HFi0
    obtain ⟨i, n, ⟨bu, bes, bls⟩, ⟨pa, pn, pc⟩, ⟨qa, qn, qc⟩, a, c, vs, A, rfl, rfl, hi, hn, hle, HF, HB, HAs, HR, HFi⟩ := hrel
    have HF : Hid (Fr No w wr [(gk1, 25, Bv.cells ⟨bu, ⟨pa, pn, pc⟩, ⟨qa, qn, qc⟩⟩), (gk3, 25, Bv.cells bvZ)]) := HF
    have HB : Hid (BkO wr w.heap.size ⟨bu, ⟨pa, pn, pc⟩, ⟨qa, qn, qc⟩⟩ ⟨bu, bes, bls⟩) := HB
    have hle : pn ≤ pc := hle
    have hbu : 0 ≤ bu := HFi.out.up
    have hpn : pn ≤ 1000 := by have h1 : bes.length = pn := HB.out.e.len; have h2 : bes.length ≤ 600 + i := HFi.out.ne; omega
    have hqn : qn ≤ 1000 := by have h1 : bls.length = qn := HB.out.l.len; have h2 : bls.length ≤ 600 + i := HFi.out.nl; omega
    by_cases hlt : i < cn
    · skip
      obtain ⟨xb, xo, e0, hcell⟩ := Cs.at HX.out (i := i) (by rw [HL.out]; exact hlt)
      subst e0
      have HCE : Hid (∀ (j : Nat) v, (cAt xs i).cs[j]? = some v → w.cell? ⟨xb, xo + i * 9 + j, none⟩ = some v) := hcell
      have HN1 : Hid (runB room ⟨up, es, ls⟩ (xs.take (i + 1)) = (stepS ⟨bu, bes, bls⟩ (cAt xs i) room).1 ∧ runA room ⟨up, es, ls⟩ (xs.take (i + 1)) = A ++ [(stepS ⟨bu, bes, bls⟩ (cAt xs i) room).2]) := by
        have h := run_next room ⟨up, es, ls⟩ (xs := xs) (i := i) (by rw [HL.out]; exact hlt)
        rw [HR.out.1, HR.out.2.1] at h
        exact h
      have HE1 : Hid ((refS bu (cAt xs i) = 0 → errR room ⟨up, es, ls⟩ (xs.take (i + 1)) = 0) ∧ (refS bu (cAt xs i) ≠ 0 → errR room ⟨up, es, ls⟩ xs = refS bu (cAt xs i))) := by
        have h := err_next room ⟨up, es, ls⟩ (xs := xs) (i := i) (by rw [HL.out]; exact hlt) HR.out.2.2
        rw [HR.out.1] at h
        exact h
      have HRF : Hid (∀ W, RdE W ⟨pa, pn, pc⟩ bes → RdL W ⟨qa, qn, qc⟩ bls → Calls Try.prog 26 #[.agg (Bv.cells ⟨bu, ⟨pa, pn, pc⟩, ⟨qa, qn, qc⟩⟩), .agg (Cm.cells (cAt xs i)), .int .i64 room] W (fun e w' => ∃ (v : Bv) (av : Av), e = .returned (.tuple #[.agg v.cells, .agg av.cells, .int .i64 (refS bu (cAt xs i))]) ∧ RfA w' W.heap.size (refS bu (cAt xs i) = 0) ⟨pa, pn, pc⟩ bes ⟨qa, qn, qc⟩ bls v av (stepS ⟨bu, bes, bls⟩ (cAt xs i) room) ∧ Kept No W w')) := fun W h1 h2 => refAny bu pa pn pc qa qn qc bes bls (cAt xs i) room W h1 h2 HFi.out.re HFi.out.rl hle (by omega) (by omega) (by omega)
      have HRl : Hid ((stepS ⟨bu, bes, bls⟩ (cAt xs i) room).2.l.length ≤ 1000) := by
        have h1 := act_ll bes (cAt xs i) room
        have h2 : bes.length ≤ 600 + i := HFi.out.ne
        show (actS bes (cAt xs i) room).2.l.length ≤ 1000
        omega
      have HFn : Hid (Fine (600 + (i + 1)) (stepS ⟨bu, bes, bls⟩ (cAt xs i) room).1) := HFi.out.step (cAt xs i) room
      clear hcell HR HFi
      generalize stepS ⟨bu, bes, bls⟩ (cAt xs i) room = R at HN1 HRF HRl HFn
      generalize cAt xs i = x at HCE HE1 HRF
      go_upto_region 3 with fail
      refine WL.start ?_
      refine tK (.int .i64 ((i : Nat) : Int)) ?_
      try simp only [pA, pB, p1, p2, p3]
      refine tK (.slice (some ⟨xb, xo, none⟩) cn cc) ?_
      try simp only [pA, pB, p1, p2, p3]
      refine tK (.int .i64 ((cn : Nat) : Int)) ?_
      try simp only [pA, pB, p1, p2, p3]
      refine tW (.bool true) (exec_bin .lss 3 _ _ _ rfl (.int .i64 ((i : Nat) : Int)) (.int .i64 ((cn : Nat) : Int)) (.bool true) (by kernel_rfl) (by kernel_rfl) (by kernel_rfl) (by rw [b_lss, decide_eq_true (by omega)])) ?_
      try simp only [pA, pB, p1, p2, p3]
      refine WL.nil ?_
      try simp only [pA, pB, p1, p2, p3]
      go_upto_region 5 with fail
      go_cut [11, 12, 13] from 20 to 30 (fun v11 v12 v13 wc => ∃ (g11 g12 : Nat) (ru : Int) (ya : Option Addr) (yn yc : Nat) (za : Option Addr) (zn zc : Nat) (rer : Int) (re : En) (xa : Option Addr) (xn xc : Nat), v11 = .pointer (some ⟨g11, 0, none⟩) ∧ v12 = .pointer (some ⟨g12, 0, none⟩) ∧ v13 = .int .i64 (refS bu x) ∧ Hid (Fr No w wc [(gk1, 25, Bv.cells ⟨bu, ⟨pa, pn, pc⟩, ⟨qa, qn, qc⟩⟩), (gk3, 25, Bv.cells bvZ), (g11, 25, Bv.cells ⟨ru, ⟨ya, yn, yc⟩, ⟨za, zn, zc⟩⟩), (g12, 56, Av.cells ⟨rer, re, ⟨xa, xn, xc⟩⟩)]) ∧ Hid (Kept No wr wc) ∧ Hid (RfA wc w.heap.size (refS bu x = 0) ⟨pa, pn, pc⟩ bes ⟨qa, qn, qc⟩ bls ⟨ru, ⟨ya, yn, yc⟩, ⟨za, zn, zc⟩⟩ ⟨rer, re, ⟨xa, xn, xc⟩⟩ R))
      case first =>
       rename_i J0 K0 hJ0 hK0
       have HKs : Hid (Kept No wr wr) := Kept.refl _ _
       refine wp_region_held_drew (S := fun w' => Fr No w w' [(gk1, 25, Bv.cells ⟨bu, ⟨pa, pn, pc⟩, ⟨qa, qn, qc⟩⟩), (gk3, 25, Bv.cells bvZ)]) rfl HF.out.drew (fun hH => ?_)
       have HKs : Hid (Kept No wr (wr.drew)) := HKs.out.no (Kept.refl No _).drew
       have HF : Hid (Fr No w (wr.drew) [(gk1, 25, Bv.cells ⟨bu, ⟨pa, pn, pc⟩, ⟨qa, qn, qc⟩⟩), (gk3, 25, Bv.cells bvZ)]) := HF.out.drew
       generalize wr.drew = wk5 at HF HKs hH ⊢
       refine aT (i := 0) (oi := { dst := some 21, op := Op.load 25 (Operand.tmp 3), type := 25, pos := "ref.go:225", after := #[], guard := none }) (v := .agg (Bv.cells ⟨bu, ⟨pa, pn, pc⟩, ⟨qa, qn, qc⟩⟩)) (fun w' hw => exec_load 25 _ rfl ⟨gk1, 0, none⟩ (by kernel_rfl) (.agg (Bv.cells ⟨bu, ⟨pa, pn, pc⟩, ⟨qa, qn, qc⟩⟩)) (ld25 (hw.box 0 _ _ _ rfl))) hH ?_
       try simp only [pA, pB, p1, p2, p3]
       refine aT (i := 1) (oi := { dst := some 22, op := Op.move (Operand.tmp 2), type := 34, pos := "ref.go:225", after := #[], guard := none }) (v := .slice (some ⟨xb, xo, none⟩) cn cc) (fun _ _ => by kernel_rfl) hH ?_
       try simp only [pA, pB, p1, p2, p3]
       refine aT (i := 2) (oi := { dst := some 23, op := Op.move (Operand.tmp 10), type := 3, pos := "ref.go:225", after := #[], guard := none }) (v := .int .i64 ((i : Nat) : Int)) (fun _ _ => by kernel_rfl) hH ?_
       try simp only [pA, pB, p1, p2, p3]
       refine aT (i := 3) (oi := { dst := some 24, op := Op.indexAddr 34 (Operand.tmp 22) (Operand.tmp 23), type := 0, pos := "ref.go:225", after := #[{ on := 1, ground := Ground.data }, { on := 2, ground := Ground.data }], guard := none }) (v := .pointer (some ⟨xb, xo + i * 9, none⟩)) (fun w' hw => exec_ixA 34 9 Try.und34e Try.size34e _ _ rfl xb xo cn cc i (by kernel_rfl) (by kernel_rfl) hlt) hH ?_
       try simp only [pA, pB, p1, p2, p3]
       refine aT (i := 4) (oi := { dst := some 25, op := Op.load 29 (Operand.tmp 24), type := 29, pos := "ref.go:225", after := #[{ on := 3, ground := Ground.data }], guard := none }) (v := .agg (Cm.cells x)) (fun w' hw => exec_load 29 _ rfl ⟨xb, xo + i * 9, none⟩ (by kernel_rfl) (.agg (Cm.cells x)) (load_Ca (fun j v h => hw.kept.cell (HCE.out j v h) (fun e => e)))) hH ?_
       try simp only [pA, pB, p1, p2, p3]
       refine aT (i := 5) (oi := { dst := some 26, op := Op.move (Operand.tmp 1), type := 3, pos := "ref.go:225", after := #[], guard := none }) (v := .int .i64 room) (fun _ _ => by kernel_rfl) hH ?_
       try simp only [pA, pB, p1, p2, p3]
       refine any_pick (rs := [6, 11, 12]) (by kernel_rfl) (by simp) ?_
       intro i hi
       rcases pick3 hi with rfl | rfl | rfl
       ·skip
        clear hi
        refine step_call (i := 6) (o := oqVc0) rfl (by kernel_rfl) 26 #[.agg (Bv.cells ⟨bu, ⟨pa, pn, pc⟩, ⟨qa, qn, qc⟩⟩), .agg (Cm.cells x), .int .i64 room] (by kernel_rfl) _ (HRF.out _ (HB.out.no HKs.out).e (HB.out.no HKs.out).l) ?_
        rintro e wk6 ⟨⟨ru, ⟨ya, yn, yc⟩, ⟨za, zn, zc⟩⟩, ⟨rer, re, ⟨xa, xn, xc⟩⟩, rfl, hQ, hk⟩
        have hH2 : Fr No w wk6 [(gk1, 25, Bv.cells ⟨bu, ⟨pa, pn, pc⟩, ⟨qa, qn, qc⟩⟩), (gk3, 25, Bv.cells bvZ)] := hH.no hk
        have HRf : Hid (RfA wk6 w.heap.size (refS bu x = 0) ⟨pa, pn, pc⟩ bes ⟨qa, qn, qc⟩ bls ⟨ru, ⟨ya, yn, yc⟩, ⟨za, zn, zc⟩⟩ ⟨rer, re, ⟨xa, xn, xc⟩⟩ R) := hQ.lower HF.out.kept.size
        have HKs : Hid (Kept No wr (wk6)) := HKs.out.no hk
        have HF : Hid (Fr No w (wk6) [(gk1, 25, Bv.cells ⟨bu, ⟨pa, pn, pc⟩, ⟨qa, qn, qc⟩⟩), (gk3, 25, Bv.cells bvZ)]) := HF.out.no hk
        clear hQ hk
        refine ⟨.tuple #[.agg (Bv.cells ⟨ru, ⟨ya, yn, yc⟩, ⟨za, zn, zc⟩⟩), .agg (Av.cells ⟨rer, re, ⟨xa, xn, xc⟩⟩), .int .i64 (refS bu x)], rfl, hH2, fun hH => ?_⟩
        clear hH2
        try simp only [pA, pB, p1, p2, p3]
        refine aT (i := 7) (oi := oqVc1) (v := .tuple #[.agg (Bv.cells ⟨ru, ⟨ya, yn, yc⟩, ⟨za, zn, zc⟩⟩), .agg (Av.cells ⟨rer, re, ⟨xa, xn, xc⟩⟩), .int .i64 (refS bu x)]) (fun _ _ => by kernel_rfl) hH ?_
        try simp only [pA, pB, p1, p2, p3]
        refine aT (i := 8) (oi := oqVc2) (v := .agg (Bv.cells ⟨ru, ⟨ya, yn, yc⟩, ⟨za, zn, zc⟩⟩)) (fun _ _ => by kernel_rfl) hH ?_
        try simp only [pA, pB, p1, p2, p3]
        refine aT (i := 9) (oi := oqVc3) (v := .agg (Av.cells ⟨rer, re, ⟨xa, xn, xc⟩⟩)) (fun _ _ => by kernel_rfl) hH ?_
        try simp only [pA, pB, p1, p2, p3]
        refine aT (i := 10) (oi := oqVc4) (v := .int .i64 (refS bu x)) (fun _ _ => by kernel_rfl) hH ?_
        try simp only [pA, pB, p1, p2, p3]
        refine any_pick (rs := [11, 12]) (by kernel_rfl) (by simp) ?_
        intro i hi
        rcases pick2 hi with rfl | rfl
        ·skip
         clear hi
         refine step_run (i := 11) (o := oqVc5) rfl (by kernel_rfl) (exec_alloc 25 rfl (Bv.cells bvZ) zero25) ((hH.alloc _ _).front) (fun hH => ?_)
         try simp only [pA, pB, p1, p2, p3]
         have HG_gk7 : Hid (wr.heap.size ≤ wk6.heap.size) := HKs.out.size
         have HRf : Hid (RfA (wk6.alloc (.cells (Bv.cells bvZ) 25)) w.heap.size (refS bu x = 0) ⟨pa, pn, pc⟩ bes ⟨qa, qn, qc⟩ bls ⟨ru, ⟨ya, yn, yc⟩, ⟨za, zn, zc⟩⟩ ⟨rer, re, ⟨xa, xn, xc⟩⟩ R) := HRf.out.no ((Kept.refl No _).alloc _)
         have HKs : Hid (Kept No wr (wk6.alloc (.cells (Bv.cells bvZ) 25))) := HKs.out.no ((Kept.refl No _).alloc _)
         have HF : Hid (Fr No w (wk6.alloc (.cells (Bv.cells bvZ) 25)) [(gk1, 25, Bv.cells ⟨bu, ⟨pa, pn, pc⟩, ⟨qa, qn, qc⟩⟩), (gk3, 25, Bv.cells bvZ), (wk6.heap.size, 25, Bv.cells bvZ)]) := HF.out.alloc _ _
         generalize wk6.alloc (.cells (Bv.cells bvZ) 25) = wk8 at HF HKs HRf hH ⊢
         obtain ⟨gk7, hg⟩ : ∃ g, g = wk6.heap.size := ⟨_, rfl⟩
         have HG_gk7 : Hid (wr.heap.size ≤ gk7) := by show _ ≤ _; rw [hg]; exact HG_gk7.out
         rw [← hg] at HF ⊢
         clear hg
         refine any_step (i := 12) (o := oqVc6) rfl (by kernel_rfl) (by kernel_rfl) (exec_alloc 56 rfl (Av.cells avZ) zero56) ((hH.alloc _ _).front) (fun hH => ?_)
         try simp only [pA, pB, p1, p2, p3]
         have HG_gk9 : Hid (wr.heap.size ≤ wk8.heap.size) := HKs.out.size
         have HRf : Hid (RfA (wk8.alloc (.cells (Av.cells avZ) 56)) w.heap.size (refS bu x = 0) ⟨pa, pn, pc⟩ bes ⟨qa, qn, qc⟩ bls ⟨ru, ⟨ya, yn, yc⟩, ⟨za, zn, zc⟩⟩ ⟨rer, re, ⟨xa, xn, xc⟩⟩ R) := HRf.out.no ((Kept.refl No _).alloc _)
         have HKs : Hid (Kept No wr (wk8.alloc (.cells (Av.cells avZ) 56))) := HKs.out.no ((Kept.refl No _).alloc _)
         have HF : Hid (Fr No w (wk8.alloc (.cells (Av.cells avZ) 56)) [(gk1, 25, Bv.cells ⟨bu, ⟨pa, pn, pc⟩, ⟨qa, qn, qc⟩⟩), (gk3, 25, Bv.cells bvZ), (gk7, 25, Bv.cells bvZ), (wk8.heap.size, 56, Av.cells avZ)]) := HF.out.alloc _ _
         generalize wk8.alloc (.cells (Av.cells avZ) 56) = wk10 at HF HKs HRf hH ⊢
         obtain ⟨gk9, hg⟩ : ∃ g, g = wk8.heap.size := ⟨_, rfl⟩
         have HG_gk9 : Hid (wr.heap.size ≤ gk9) := by show _ ≤ _; rw [hg]; exact HG_gk9.out
         rw [← hg] at HF ⊢
         clear hg
         refine any_store (i := 13) (o := oqVc7) (w' := wk10.setRow gk7 (Bv.cells ⟨ru, ⟨ya, yn, yc⟩, ⟨za, zn, zc⟩⟩)) rfl (by kernel_rfl) (by kernel_rfl) 25 _ _ rfl ⟨gk7, 0, none⟩ (.agg (Bv.cells ⟨ru, ⟨ya, yn, yc⟩, ⟨za, zn, zc⟩⟩)) (by kernel_rfl) (by kernel_rfl) (st25 (HF.out.box 2 _ _ _ rfl) rfl) ((show Fr No w _ ([(gk1, 25, Bv.cells ⟨bu, ⟨pa, pn, pc⟩, ⟨qa, qn, qc⟩⟩), (gk3, 25, Bv.cells bvZ)] ++ [(gk7, 25, Bv.cells ⟨ru, ⟨ya, yn, yc⟩, ⟨za, zn, zc⟩⟩), (gk9, 56, Av.cells avZ)]) from HF.out.set 2 rfl _).front) (fun hH => ?_)
         try simp only [pA, pB, p1, p2, p3]
         have HRf : Hid (RfA (wk10.setRow gk7 (Bv.cells ⟨ru, ⟨ya, yn, yc⟩, ⟨za, zn, zc⟩⟩)) w.heap.size (refS bu x = 0) ⟨pa, pn, pc⟩ bes ⟨qa, qn, qc⟩ bls ⟨ru, ⟨ya, yn, yc⟩, ⟨za, zn, zc⟩⟩ ⟨rer, re, ⟨xa, xn, xc⟩⟩ R) := HRf.out.row (HF.out.box 2 _ _ _ rfl) (by decide) (by decide) _
         have HKs : Hid (Kept No wr (wk10.setRow gk7 (Bv.cells ⟨ru, ⟨ya, yn, yc⟩, ⟨za, zn, zc⟩⟩))) := HKs.out.newRow HG_gk7.out _
         have HF : Hid (Fr No w (wk10.setRow gk7 (Bv.cells ⟨ru, ⟨ya, yn, yc⟩, ⟨za, zn, zc⟩⟩)) [(gk1, 25, Bv.cells ⟨bu, ⟨pa, pn, pc⟩, ⟨qa, qn, qc⟩⟩), (gk3, 25, Bv.cells bvZ), (gk7, 25, Bv.cells ⟨ru, ⟨ya, yn, yc⟩, ⟨za, zn, zc⟩⟩), (gk9, 56, Av.cells avZ)]) := HF.out.set 2 rfl _
         generalize wk10.setRow gk7 (Bv.cells ⟨ru, ⟨ya, yn, yc⟩, ⟨za, zn, zc⟩⟩) = wk11 at HF HKs HRf hH ⊢
         refine any_store (i := 14) (o := oqVc8) (w' := wk11.setRow gk9 (Av.cells ⟨rer, re, ⟨xa, xn, xc⟩⟩)) rfl (by kernel_rfl) (by kernel_rfl) 56 _ _ rfl ⟨gk9, 0, none⟩ (.agg (Av.cells ⟨rer, re, ⟨xa, xn, xc⟩⟩)) (by kernel_rfl) (by kernel_rfl) (st56 (HF.out.box 3 _ _ _ rfl) rfl) ((show Fr No w _ ([(gk1, 25, Bv.cells ⟨bu, ⟨pa, pn, pc⟩, ⟨qa, qn, qc⟩⟩), (gk3, 25, Bv.cells bvZ)] ++ [(gk7, 25, Bv.cells ⟨ru, ⟨ya, yn, yc⟩, ⟨za, zn, zc⟩⟩), (gk9, 56, Av.cells ⟨rer, re, ⟨xa, xn, xc⟩⟩)]) from HF.out.set 3 rfl _).front) (fun hH => ?_)
         try simp only [pA, pB, p1, p2, p3]
         have HRf : Hid (RfA (wk11.setRow gk9 (Av.cells ⟨rer, re, ⟨xa, xn, xc⟩⟩)) w.heap.size (refS bu x = 0) ⟨pa, pn, pc⟩ bes ⟨qa, qn, qc⟩ bls ⟨ru, ⟨ya, yn, yc⟩, ⟨za, zn, zc⟩⟩ ⟨rer, re, ⟨xa, xn, xc⟩⟩ R) := HRf.out.row (HF.out.box 3 _ _ _ rfl) (by decide) (by decide) _
         have HKs : Hid (Kept No wr (wk11.setRow gk9 (Av.cells ⟨rer, re, ⟨xa, xn, xc⟩⟩))) := HKs.out.newRow HG_gk9.out _
         have HF : Hid (Fr No w (wk11.setRow gk9 (Av.cells ⟨rer, re, ⟨xa, xn, xc⟩⟩)) [(gk1, 25, Bv.cells ⟨bu, ⟨pa, pn, pc⟩, ⟨qa, qn, qc⟩⟩), (gk3, 25, Bv.cells bvZ), (gk7, 25, Bv.cells ⟨ru, ⟨ya, yn, yc⟩, ⟨za, zn, zc⟩⟩), (gk9, 56, Av.cells ⟨rer, re, ⟨xa, xn, xc⟩⟩)]) := HF.out.set 3 rfl _
         generalize wk11.setRow gk9 (Av.cells ⟨rer, re, ⟨xa, xn, xc⟩⟩) = wk12 at HF HKs HRf hH ⊢
         refine aT (i := 15) (oi := oqVc9) (v := .int .i64 (refS bu x)) (fun _ _ => by kernel_rfl) hH ?_
         try simp only [pA, pB, p1, p2, p3]
         refine wpAnyH_done (by kernel_rfl) ?_ _
         try simp only [pA, pB, p1, p2, p3]
         refine hK0 _ _ (Met.intro (hJ0 _ _ ?_))
         (repeat apply Exists.intro)
         refine ⟨?_, rfl⟩
         exact ⟨gk7, gk9, ru, ya, yn, yc, za, zn, zc, rer, re, xa, xn, xc, rfl, rfl, rfl, HF, HKs, HRf⟩
        ·skip
         clear hi
         refine step_run (i := 12) (o := oqVc6) rfl (by kernel_rfl) (exec_alloc 56 rfl (Av.cells avZ) zero56) ((hH.alloc _ _).front) (fun hH => ?_)
         try simp only [pA, pB, p1, p2, p3]
         have HG_gk13 : Hid (wr.heap.size ≤ wk6.heap.size) := HKs.out.size
         have HRf : Hid (RfA (wk6.alloc (.cells (Av.cells avZ) 56)) w.heap.size (refS bu x = 0) ⟨pa, pn, pc⟩ bes ⟨qa, qn, qc⟩ bls ⟨ru, ⟨ya, yn, yc⟩, ⟨za, zn, zc⟩⟩ ⟨rer, re, ⟨xa, xn, xc⟩⟩ R) := HRf.out.no ((Kept.refl No _).alloc _)
         have HKs : Hid (Kept No wr (wk6.alloc (.cells (Av.cells avZ) 56))) := HKs.out.no ((Kept.refl No _).alloc _)
         have HF : Hid (Fr No w (wk6.alloc (.cells (Av.cells avZ) 56)) [(gk1, 25, Bv.cells ⟨bu, ⟨pa, pn, pc⟩, ⟨qa, qn, qc⟩⟩), (gk3, 25, Bv.cells bvZ), (wk6.heap.size, 56, Av.cells avZ)]) := HF.out.alloc _ _
         generalize wk6.alloc (.cells (Av.cells avZ) 56) = wk14 at HF HKs HRf hH ⊢
         obtain ⟨gk13, hg⟩ : ∃ g, g = wk6.heap.size := ⟨_, rfl⟩
         have HG_gk13 : Hid (wr.heap.size ≤ gk13) := by show _ ≤ _; rw [hg]; exact HG_gk13.out
         rw [← hg] at HF ⊢
         clear hg
         refine any_step (i := 11) (o := oqVc5) rfl (by kernel_rfl) (by kernel_rfl) (exec_alloc 25 rfl (Bv.cells bvZ) zero25) ((hH.alloc _ _).front) (fun hH => ?_)
         try simp only [pA, pB, p1, p2, p3]
         have HG_gk15 : Hid (wr.heap.size ≤ wk14.heap.size) := HKs.out.size
         have HRf : Hid (RfA (wk14.alloc (.cells (Bv.cells bvZ) 25)) w.heap.size (refS bu x = 0) ⟨pa, pn, pc⟩ bes ⟨qa, qn, qc⟩ bls ⟨ru, ⟨ya, yn, yc⟩, ⟨za, zn, zc⟩⟩ ⟨rer, re, ⟨xa, xn, xc⟩⟩ R) := HRf.out.no ((Kept.refl No _).alloc _)
         have HKs : Hid (Kept No wr (wk14.alloc (.cells (Bv.cells bvZ) 25))) := HKs.out.no ((Kept.refl No _).alloc _)
         have HF : Hid (Fr No w (wk14.alloc (.cells (Bv.cells bvZ) 25)) [(gk1, 25, Bv.cells ⟨bu, ⟨pa, pn, pc⟩, ⟨qa, qn, qc⟩⟩), (gk3, 25, Bv.cells bvZ), (gk13, 56, Av.cells avZ), (wk14.heap.size, 25, Bv.cells bvZ)]) := HF.out.alloc _ _
         generalize wk14.alloc (.cells (Bv.cells bvZ) 25) = wk16 at HF HKs HRf hH ⊢
         obtain ⟨gk15, hg⟩ : ∃ g, g = wk14.heap.size := ⟨_, rfl⟩
         have HG_gk15 : Hid (wr.heap.size ≤ gk15) := by show _ ≤ _; rw [hg]; exact HG_gk15.out
         rw [← hg] at HF ⊢
         clear hg
         refine any_store (i := 13) (o := oqVc7) (w' := wk16.setRow gk15 (Bv.cells ⟨ru, ⟨ya, yn, yc⟩, ⟨za, zn, zc⟩⟩)) rfl (by kernel_rfl) (by kernel_rfl) 25 _ _ rfl ⟨gk15, 0, none⟩ (.agg (Bv.cells ⟨ru, ⟨ya, yn, yc⟩, ⟨za, zn, zc⟩⟩)) (by kernel_rfl) (by kernel_rfl) (st25 (HF.out.box 3 _ _ _ rfl) rfl) ((show Fr No w _ ([(gk1, 25, Bv.cells ⟨bu, ⟨pa, pn, pc⟩, ⟨qa, qn, qc⟩⟩), (gk3, 25, Bv.cells bvZ)] ++ [(gk13, 56, Av.cells avZ), (gk15, 25, Bv.cells ⟨ru, ⟨ya, yn, yc⟩, ⟨za, zn, zc⟩⟩)]) from HF.out.set 3 rfl _).front) (fun hH => ?_)
         try simp only [pA, pB, p1, p2, p3]
         have HRf : Hid (RfA (wk16.setRow gk15 (Bv.cells ⟨ru, ⟨ya, yn, yc⟩, ⟨za, zn, zc⟩⟩)) w.heap.size (refS bu x = 0) ⟨pa, pn, pc⟩ bes ⟨qa, qn, qc⟩ bls ⟨ru, ⟨ya, yn, yc⟩, ⟨za, zn, zc⟩⟩ ⟨rer, re, ⟨xa, xn, xc⟩⟩ R) := HRf.out.row (HF.out.box 3 _ _ _ rfl) (by decide) (by decide) _
         have HKs : Hid (Kept No wr (wk16.setRow gk15 (Bv.cells ⟨ru, ⟨ya, yn, yc⟩, ⟨za, zn, zc⟩⟩))) := HKs.out.newRow HG_gk15.out _
         have HF : Hid (Fr No w (wk16.setRow gk15 (Bv.cells ⟨ru, ⟨ya, yn, yc⟩, ⟨za, zn, zc⟩⟩)) [(gk1, 25, Bv.cells ⟨bu, ⟨pa, pn, pc⟩, ⟨qa, qn, qc⟩⟩), (gk3, 25, Bv.cells bvZ), (gk13, 56, Av.cells avZ), (gk15, 25, Bv.cells ⟨ru, ⟨ya, yn, yc⟩, ⟨za, zn, zc⟩⟩)]) := HF.out.set 3 rfl _
         generalize wk16.setRow gk15 (Bv.cells ⟨ru, ⟨ya, yn, yc⟩, ⟨za, zn, zc⟩⟩) = wk17 at HF HKs HRf hH ⊢
         refine any_store (i := 14) (o := oqVc8) (w' := wk17.setRow gk13 (Av.cells ⟨rer, re, ⟨xa, xn, xc⟩⟩)) rfl (by kernel_rfl) (by kernel_rfl) 56 _ _ rfl ⟨gk13, 0, none⟩ (.agg (Av.cells ⟨rer, re, ⟨xa, xn, xc⟩⟩)) (by kernel_rfl) (by kernel_rfl) (st56 (HF.out.box 2 _ _ _ rfl) rfl) ((show Fr No w _ ([(gk1, 25, Bv.cells ⟨bu, ⟨pa, pn, pc⟩, ⟨qa, qn, qc⟩⟩), (gk3, 25, Bv.cells bvZ)] ++ [(gk13, 56, Av.cells ⟨rer, re, ⟨xa, xn, xc⟩⟩), (gk15, 25, Bv.cells ⟨ru, ⟨ya, yn, yc⟩, ⟨za, zn, zc⟩⟩)]) from HF.out.set 2 rfl _).front) (fun hH => ?_)
         try simp only [pA, pB, p1, p2, p3]
         have HRf : Hid (RfA (wk17.setRow gk13 (Av.cells ⟨rer, re, ⟨xa, xn, xc⟩⟩)) w.heap.size (refS bu x = 0) ⟨pa, pn, pc⟩ bes ⟨qa, qn, qc⟩ bls ⟨ru, ⟨ya, yn, yc⟩, ⟨za, zn, zc⟩⟩ ⟨rer, re, ⟨xa, xn, xc⟩⟩ R) := HRf.out.row (HF.out.box 2 _ _ _ rfl) (by decide) (by decide) _
         have HKs : Hid (Kept No wr (wk17.setRow gk13 (Av.cells ⟨rer, re, ⟨xa, xn, xc⟩⟩))) := HKs.out.newRow HG_gk13.out _
         have HF : Hid (Fr No w (wk17.setRow gk13 (Av.cells ⟨rer, re, ⟨xa, xn, xc⟩⟩)) [(gk1, 25, Bv.cells ⟨bu, ⟨pa, pn, pc⟩, ⟨qa, qn, qc⟩⟩), (gk3, 25, Bv.cells bvZ), (gk13, 56, Av.cells ⟨rer, re, ⟨xa, xn, xc⟩⟩), (gk15, 25, Bv.cells ⟨ru, ⟨ya, yn, yc⟩, ⟨za, zn, zc⟩⟩)]) := HF.out.set 2 rfl _
         generalize wk17.setRow gk13 (Av.cells ⟨rer, re, ⟨xa, xn, xc⟩⟩) = wk18 at HF HKs HRf hH ⊢
         refine aT (i := 15) (oi := oqVc9) (v := .int .i64 (refS bu x)) (fun _ _ => by kernel_rfl) hH ?_
         try simp only [pA, pB, p1, p2, p3]
         refine wpAnyH_done (by kernel_rfl) ?_ _
         try simp only [pA, pB, p1, p2, p3]
         have HF : Hid (Fr No w wk18 [(gk1, 25, Bv.cells ⟨bu, ⟨pa, pn, pc⟩, ⟨qa, qn, qc⟩⟩), (gk3, 25, Bv.cells bvZ), (gk15, 25, Bv.cells ⟨ru, ⟨ya, yn, yc⟩, ⟨za, zn, zc⟩⟩), (gk13, 56, Av.cells ⟨rer, re, ⟨xa, xn, xc⟩⟩)]) := HF.out.swap4
         refine hK0 _ _ (Met.intro (hJ0 _ _ ?_))
         (repeat apply Exists.intro)
         refine ⟨?_, rfl⟩
         exact ⟨gk15, gk13, ru, ya, yn, yc, za, zn, zc, rer, re, xa, xn, xc, rfl, rfl, rfl, HF, HKs, HRf⟩
       ·skip
        clear hi
        refine step_run (i := 11) (o := oqVc5) rfl (by kernel_rfl) (exec_alloc 25 rfl (Bv.cells bvZ) zero25) ((hH.alloc _ _).front) (fun hH => ?_)
        try simp only [pA, pB, p1, p2, p3]
        have HG_gk19 : Hid (wr.heap.size ≤ wk5.heap.size) := HKs.out.size
        have HKs : Hid (Kept No wr (wk5.alloc (.cells (Bv.cells bvZ) 25))) := HKs.out.no ((Kept.refl No _).alloc _)
        have HF : Hid (Fr No w (wk5.alloc (.cells (Bv.cells bvZ) 25)) [(gk1, 25, Bv.cells ⟨bu, ⟨pa, pn, pc⟩, ⟨qa, qn, qc⟩⟩), (gk3, 25, Bv.cells bvZ), (wk5.heap.size, 25, Bv.cells bvZ)]) := HF.out.alloc _ _
        generalize wk5.alloc (.cells (Bv.cells bvZ) 25) = wk20 at HF HKs hH ⊢
        obtain ⟨gk19, hg⟩ : ∃ g, g = wk5.heap.size := ⟨_, rfl⟩
        have HG_gk19 : Hid (wr.heap.size ≤ gk19) := by show _ ≤ _; rw [hg]; exact HG_gk19.out
        rw [← hg] at HF ⊢
        clear hg
        refine any_pick (rs := [6, 12]) (by kernel_rfl) (by simp) ?_
        intro i hi
        rcases pick2 hi with rfl | rfl
        ·skip
         clear hi
         refine step_call (i := 6) (o := oqVc0) rfl (by kernel_rfl) 26 #[.agg (Bv.cells ⟨bu, ⟨pa, pn, pc⟩, ⟨qa, qn, qc⟩⟩), .agg (Cm.cells x), .int .i64 room] (by kernel_rfl) _ (HRF.out _ (HB.out.no HKs.out).e (HB.out.no HKs.out).l) ?_
         rintro e wk21 ⟨⟨ru, ⟨ya, yn, yc⟩, ⟨za, zn, zc⟩⟩, ⟨rer, re, ⟨xa, xn, xc⟩⟩, rfl, hQ, hk⟩
         have hH2 : Fr No w wk21 [(gk1, 25, Bv.cells ⟨bu, ⟨pa, pn, pc⟩, ⟨qa, qn, qc⟩⟩), (gk3, 25, Bv.cells bvZ)] := hH.no hk
         have HRf : Hid (RfA wk21 w.heap.size (refS bu x = 0) ⟨pa, pn, pc⟩ bes ⟨qa, qn, qc⟩ bls ⟨ru, ⟨ya, yn, yc⟩, ⟨za, zn, zc⟩⟩ ⟨rer, re, ⟨xa, xn, xc⟩⟩ R) := hQ.lower HF.out.kept.size
         have HKs : Hid (Kept No wr (wk21)) := HKs.out.no hk
         have HF : Hid (Fr No w (wk21) [(gk1, 25, Bv.cells ⟨bu, ⟨pa, pn, pc⟩, ⟨qa, qn, qc⟩⟩), (gk3, 25, Bv.cells bvZ), (gk19, 25, Bv.cells bvZ)]) := HF.out.no hk
         clear hQ hk
         refine ⟨.tuple #[.agg (Bv.cells ⟨ru, ⟨ya, yn, yc⟩, ⟨za, zn, zc⟩⟩), .agg (Av.cells ⟨rer, re, ⟨xa, xn, xc⟩⟩), .int .i64 (refS bu x)], rfl, hH2, fun hH => ?_⟩
         clear hH2
         try simp only [pA, pB, p1, p2, p3]
         refine aT (i := 7) (oi := oqVc1) (v := .tuple #[.agg (Bv.cells ⟨ru, ⟨ya, yn, yc⟩, ⟨za, zn, zc⟩⟩), .agg (Av.cells ⟨rer, re, ⟨xa, xn, xc⟩⟩), .int .i64 (refS bu x)]) (fun _ _ => by kernel_rfl) hH ?_
         try simp only [pA, pB, p1, p2, p3]
         refine aT (i := 8) (oi := oqVc2) (v := .agg (Bv.cells ⟨ru, ⟨ya, yn, yc⟩, ⟨za, zn, zc⟩⟩)) (fun _ _ => by kernel_rfl) hH ?_
         try simp only [pA, pB, p1, p2, p3]
         refine aT (i := 9) (oi := oqVc3) (v := .agg (Av.cells ⟨rer, re, ⟨xa, xn, xc⟩⟩)) (fun _ _ => by kernel_rfl) hH ?_
         try simp only [pA, pB, p1, p2, p3]
         refine aT (i := 10) (oi := oqVc4) (v := .int .i64 (refS bu x)) (fun _ _ => by kernel_rfl) hH ?_
         try simp only [pA, pB, p1, p2, p3]
         refine any_step (i := 12) (o := oqVc6) rfl (by kernel_rfl) (by kernel_rfl) (exec_alloc 56 rfl (Av.cells avZ) zero56) ((hH.alloc _ _).front) (fun hH => ?_)
         try simp only [pA, pB, p1, p2, p3]
         have HG_gk22 : Hid (wr.heap.size ≤ wk21.heap.size) := HKs.out.size
         have HRf : Hid (RfA (wk21.alloc (.cells (Av.cells avZ) 56)) w.heap.size (refS bu x = 0) ⟨pa, pn, pc⟩ bes ⟨qa, qn, qc⟩ bls ⟨ru, ⟨ya, yn, yc⟩, ⟨za, zn, zc⟩⟩ ⟨rer, re, ⟨xa, xn, xc⟩⟩ R) := HRf.out.no ((Kept.refl No _).alloc _)
         have HKs : Hid (Kept No wr (wk21.alloc (.cells (Av.cells avZ) 56))) := HKs.out.no ((Kept.refl No _).alloc _)
         have HF : Hid (Fr No w (wk21.alloc (.cells (Av.cells avZ) 56)) [(gk1, 25, Bv.cells ⟨bu, ⟨pa, pn, pc⟩, ⟨qa, qn, qc⟩⟩), (gk3, 25, Bv.cells bvZ), (gk19, 25, Bv.cells bvZ), (wk21.heap.size, 56, Av.cells avZ)]) := HF.out.alloc _ _
         generalize wk21.alloc (.cells (Av.cells avZ) 56) = wk23 at HF HKs HRf hH ⊢
         obtain ⟨gk22, hg⟩ : ∃ g, g = wk21.heap.size := ⟨_, rfl⟩
         have HG_gk22 : Hid (wr.heap.size ≤ gk22) := by show _ ≤ _; rw [hg]; exact HG_gk22.out
         rw [← hg] at HF ⊢
         clear hg
         refine any_store (i := 13) (o := oqVc7) (w' := wk23.setRow gk19 (Bv.cells ⟨ru, ⟨ya, yn, yc⟩, ⟨za, zn, zc⟩⟩)) rfl (by kernel_rfl) (by kernel_rfl) 25 _ _ rfl ⟨gk19, 0, none⟩ (.agg (Bv.cells ⟨ru, ⟨ya, yn, yc⟩, ⟨za, zn, zc⟩⟩)) (by kernel_rfl) (by kernel_rfl) (st25 (HF.out.box 2 _ _ _ rfl) rfl) ((show Fr No w _ ([(gk1, 25, Bv.cells ⟨bu, ⟨pa, pn, pc⟩, ⟨qa, qn, qc⟩⟩), (gk3, 25, Bv.cells bvZ)] ++ [(gk19, 25, Bv.cells ⟨ru, ⟨ya, yn, yc⟩, ⟨za, zn, zc⟩⟩), (gk22, 56, Av.cells avZ)]) from HF.out.set 2 rfl _).front) (fun hH => ?_)
         try simp only [pA, pB, p1, p2, p3]
         have HRf : Hid (RfA (wk23.setRow gk19 (Bv.cells ⟨ru, ⟨ya, yn, yc⟩, ⟨za, zn, zc⟩⟩)) w.heap.size (refS bu x = 0) ⟨pa, pn, pc⟩ bes ⟨qa, qn, qc⟩ bls ⟨ru, ⟨ya, yn, yc⟩, ⟨za, zn, zc⟩⟩ ⟨rer, re, ⟨xa, xn, xc⟩⟩ R) := HRf.out.row (HF.out.box 2 _ _ _ rfl) (by decide) (by decide) _
         have HKs : Hid (Kept No wr (wk23.setRow gk19 (Bv.cells ⟨ru, ⟨ya, yn, yc⟩, ⟨za, zn, zc⟩⟩))) := HKs.out.newRow HG_gk19.out _
         have HF : Hid (Fr No w (wk23.setRow gk19 (Bv.cells ⟨ru, ⟨ya, yn, yc⟩, ⟨za, zn, zc⟩⟩)) [(gk1, 25, Bv.cells ⟨bu, ⟨pa, pn, pc⟩, ⟨qa, qn, qc⟩⟩), (gk3, 25, Bv.cells bvZ), (gk19, 25, Bv.cells ⟨ru, ⟨ya, yn, yc⟩, ⟨za, zn, zc⟩⟩), (gk22, 56, Av.cells avZ)]) := HF.out.set 2 rfl _
         generalize wk23.setRow gk19 (Bv.cells ⟨ru, ⟨ya, yn, yc⟩, ⟨za, zn, zc⟩⟩) = wk24 at HF HKs HRf hH ⊢
         refine any_store (i := 14) (o := oqVc8) (w' := wk24.setRow gk22 (Av.cells ⟨rer, re, ⟨xa, xn, xc⟩⟩)) rfl (by kernel_rfl) (by kernel_rfl) 56 _ _ rfl ⟨gk22, 0, none⟩ (.agg (Av.cells ⟨rer, re, ⟨xa, xn, xc⟩⟩)) (by kernel_rfl) (by kernel_rfl) (st56 (HF.out.box 3 _ _ _ rfl) rfl) ((show Fr No w _ ([(gk1, 25, Bv.cells ⟨bu, ⟨pa, pn, pc⟩, ⟨qa, qn, qc⟩⟩), (gk3, 25, Bv.cells bvZ)] ++ [(gk19, 25, Bv.cells ⟨ru, ⟨ya, yn, yc⟩, ⟨za, zn, zc⟩⟩), (gk22, 56, Av.cells ⟨rer, re, ⟨xa, xn, xc⟩⟩)]) from HF.out.set 3 rfl _).front) (fun hH => ?_)
         try simp only [pA, pB, p1, p2, p3]
         have HRf : Hid (RfA (wk24.setRow gk22 (Av.cells ⟨rer, re, ⟨xa, xn, xc⟩⟩)) w.heap.size (refS bu x = 0) ⟨pa, pn, pc⟩ bes ⟨qa, qn, qc⟩ bls ⟨ru, ⟨ya, yn, yc⟩, ⟨za, zn, zc⟩⟩ ⟨rer, re, ⟨xa, xn, xc⟩⟩ R) := HRf.out.row (HF.out.box 3 _ _ _ rfl) (by decide) (by decide) _
         have HKs : Hid (Kept No wr (wk24.setRow gk22 (Av.cells ⟨rer, re, ⟨xa, xn, xc⟩⟩))) := HKs.out.newRow HG_gk22.out _
         have HF : Hid (Fr No w (wk24.setRow gk22 (Av.cells ⟨rer, re, ⟨xa, xn, xc⟩⟩)) [(gk1, 25, Bv.cells ⟨bu, ⟨pa, pn, pc⟩, ⟨qa, qn, qc⟩⟩), (gk3, 25, Bv.cells bvZ), (gk19, 25, Bv.cells ⟨ru, ⟨ya, yn, yc⟩, ⟨za, zn, zc⟩⟩), (gk22, 56, Av.cells ⟨rer, re, ⟨xa, xn, xc⟩⟩)]) := HF.out.set 3 rfl _
         generalize wk24.setRow gk22 (Av.cells ⟨rer, re, ⟨xa, xn, xc⟩⟩) = wk25 at HF HKs HRf hH ⊢
         refine aT (i := 15) (oi := oqVc9) (v := .int .i64 (refS bu x)) (fun _ _ => by kernel_rfl) hH ?_
         try simp only [pA, pB, p1, p2, p3]
         refine wpAnyH_done (by kernel_rfl) ?_ _
         try simp only [pA, pB, p1, p2, p3]
         refine hK0 _ _ (Met.intro (hJ0 _ _ ?_))
         (repeat apply Exists.intro)
         refine ⟨?_, rfl⟩
         exact ⟨gk19, gk22, ru, ya, yn, yc, za, zn, zc, rer, re, xa, xn, xc, rfl, rfl, rfl, HF, HKs, HRf⟩
        ·skip
         clear hi
         refine step_run (i := 12) (o := oqVc6) rfl (by kernel_rfl) (exec_alloc 56 rfl (Av.cells avZ) zero56) ((hH.alloc _ _).front) (fun hH => ?_)
         try simp only [pA, pB, p1, p2, p3]
         have HG_gk26 : Hid (wr.heap.size ≤ wk20.heap.size) := HKs.out.size
         have HKs : Hid (Kept No wr (wk20.alloc (.cells (Av.cells avZ) 56))) := HKs.out.no ((Kept.refl No _).alloc _)
         have HF : Hid (Fr No w (wk20.alloc (.cells (Av.cells avZ) 56)) [(gk1, 25, Bv.cells ⟨bu, ⟨pa, pn, pc⟩, ⟨qa, qn, qc⟩⟩), (gk3, 25, Bv.cells bvZ), (gk19, 25, Bv.cells bvZ), (wk20.heap.size, 56, Av.cells avZ)]) := HF.out.alloc _ _
         generalize wk20.alloc (.cells (Av.cells avZ) 56) = wk27 at HF HKs hH ⊢
         obtain ⟨gk26, hg⟩ : ∃ g, g = wk20.heap.size := ⟨_, rfl⟩
         have HG_gk26 : Hid (wr.heap.size ≤ gk26) := by show _ ≤ _; rw [hg]; exact HG_gk26.out
         rw [← hg] at HF ⊢
         clear hg
         refine any_call (i := 6) (o := oqVc0) rfl (by kernel_rfl) (by kernel_rfl) 26 #[.agg (Bv.cells ⟨bu, ⟨pa, pn, pc⟩, ⟨qa, qn, qc⟩⟩), .agg (Cm.cells x), .int .i64 room] (by kernel_rfl) _ (HRF.out _ (HB.out.no HKs.out).e (HB.out.no HKs.out).l) ?_
         rintro e wk28 ⟨⟨ru, ⟨ya, yn, yc⟩, ⟨za, zn, zc⟩⟩, ⟨rer, re, ⟨xa, xn, xc⟩⟩, rfl, hQ, hk⟩
         have hH2 : Fr No w wk28 [(gk1, 25, Bv.cells ⟨bu, ⟨pa, pn, pc⟩, ⟨qa, qn, qc⟩⟩), (gk3, 25, Bv.cells bvZ)] := hH.no hk
         have HRf : Hid (RfA wk28 w.heap.size (refS bu x = 0) ⟨pa, pn, pc⟩ bes ⟨qa, qn, qc⟩ bls ⟨ru, ⟨ya, yn, yc⟩, ⟨za, zn, zc⟩⟩ ⟨rer, re, ⟨xa, xn, xc⟩⟩ R) := hQ.lower HF.out.kept.size
         have HKs : Hid (Kept No wr (wk28)) := HKs.out.no hk
         have HF : Hid (Fr No w (wk28) [(gk1, 25, Bv.cells ⟨bu, ⟨pa, pn, pc⟩, ⟨qa, qn, qc⟩⟩), (gk3, 25, Bv.cells bvZ), (gk19, 25, Bv.cells bvZ), (gk26, 56, Av.cells avZ)]) := HF.out.no hk
         clear hQ hk
         refine ⟨.tuple #[.agg (Bv.cells ⟨ru, ⟨ya, yn, yc⟩, ⟨za, zn, zc⟩⟩), .agg (Av.cells ⟨rer, re, ⟨xa, xn, xc⟩⟩), .int .i64 (refS bu x)], rfl, hH2, fun hH => ?_⟩
         clear hH2
         try simp only [pA, pB, p1, p2, p3]
         refine aT (i := 7) (oi := oqVc1) (v := .tuple #[.agg (Bv.cells ⟨ru, ⟨ya, yn, yc⟩, ⟨za, zn, zc⟩⟩), .agg (Av.cells ⟨rer, re, ⟨xa, xn, xc⟩⟩), .int .i64 (refS bu x)]) (fun _ _ => by kernel_rfl) hH ?_
         try simp only [pA, pB, p1, p2, p3]
         refine aT (i := 8) (oi := oqVc2) (v := .agg (Bv.cells ⟨ru, ⟨ya, yn, yc⟩, ⟨za, zn, zc⟩⟩)) (fun _ _ => by kernel_rfl) hH ?_
         try simp only [pA, pB, p1, p2, p3]
         refine aT (i := 9) (oi := oqVc3) (v := .agg (Av.cells ⟨rer, re, ⟨xa, xn, xc⟩⟩)) (fun _ _ => by kernel_rfl) hH ?_
         try simp only [pA, pB, p1, p2, p3]
         refine aT (i := 10) (oi := oqVc4) (v := .int .i64 (refS bu x)) (fun _ _ => by kernel_rfl) hH ?_
         try simp only [pA, pB, p1, p2, p3]
         refine any_store (i := 13) (o := oqVc7) (w' := wk28.setRow gk19 (Bv.cells ⟨ru, ⟨ya, yn, yc⟩, ⟨za, zn, zc⟩⟩)) rfl (by kernel_rfl) (by kernel_rfl) 25 _ _ rfl ⟨gk19, 0, none⟩ (.agg (Bv.cells ⟨ru, ⟨ya, yn, yc⟩, ⟨za, zn, zc⟩⟩)) (by kernel_rfl) (by kernel_rfl) (st25 (HF.out.box 2 _ _ _ rfl) rfl) ((show Fr No w _ ([(gk1, 25, Bv.cells ⟨bu, ⟨pa, pn, pc⟩, ⟨qa, qn, qc⟩⟩), (gk3, 25, Bv.cells bvZ)] ++ [(gk19, 25, Bv.cells ⟨ru, ⟨ya, yn, yc⟩, ⟨za, zn, zc⟩⟩), (gk26, 56, Av.cells avZ)]) from HF.out.set 2 rfl _).front) (fun hH => ?_)
         try simp only [pA, pB, p1, p2, p3]
         have HRf : Hid (RfA (wk28.setRow gk19 (Bv.cells ⟨ru, ⟨ya, yn, yc⟩, ⟨za, zn, zc⟩⟩)) w.heap.size (refS bu x = 0) ⟨pa, pn, pc⟩ bes ⟨qa, qn, qc⟩ bls ⟨ru, ⟨ya, yn, yc⟩, ⟨za, zn, zc⟩⟩ ⟨rer, re, ⟨xa, xn, xc⟩⟩ R) := HRf.out.row (HF.out.box 2 _ _ _ rfl) (by decide) (by decide) _
         have HKs : Hid (Kept No wr (wk28.setRow gk19 (Bv.cells ⟨ru, ⟨ya, yn, yc⟩, ⟨za, zn, zc⟩⟩))) := HKs.out.newRow HG_gk19.out _
         have HF : Hid (Fr No w (wk28.setRow gk19 (Bv.cells ⟨ru, ⟨ya, yn, yc⟩, ⟨za, zn, zc⟩⟩)) [(gk1, 25, Bv.cells ⟨bu, ⟨pa, pn, pc⟩, ⟨qa, qn, qc⟩⟩), (gk3, 25, Bv.cells bvZ), (gk19, 25, Bv.cells ⟨ru, ⟨ya, yn, yc⟩, ⟨za, zn, zc⟩⟩), (gk26, 56, Av.cells avZ)]) := HF.out.set 2 rfl _
         generalize wk28.setRow gk19 (Bv.cells ⟨ru, ⟨ya, yn, yc⟩, ⟨za, zn, zc⟩⟩) = wk29 at HF HKs HRf hH ⊢
         refine any_store (i := 14) (o := oqVc8) (w' := wk29.setRow gk26 (Av.cells ⟨rer, re, ⟨xa, xn, xc⟩⟩)) rfl (by kernel_rfl) (by kernel_rfl) 56 _ _ rfl ⟨gk26, 0, none⟩ (.agg (Av.cells ⟨rer, re, ⟨xa, xn, xc⟩⟩)) (by kernel_rfl) (by kernel_rfl) (st56 (HF.out.box 3 _ _ _ rfl) rfl) ((show Fr No w _ ([(gk1, 25, Bv.cells ⟨bu, ⟨pa, pn, pc⟩, ⟨qa, qn, qc⟩⟩), (gk3, 25, Bv.cells bvZ)] ++ [(gk19, 25, Bv.cells ⟨ru, ⟨ya, yn, yc⟩, ⟨za, zn, zc⟩⟩), (gk26, 56, Av.cells ⟨rer, re, ⟨xa, xn, xc⟩⟩)]) from HF.out.set 3 rfl _).front) (fun hH => ?_)
         try simp only [pA, pB, p1, p2, p3]
         have HRf : Hid (RfA (wk29.setRow gk26 (Av.cells ⟨rer, re, ⟨xa, xn, xc⟩⟩)) w.heap.size (refS bu x = 0) ⟨pa, pn, pc⟩ bes ⟨qa, qn, qc⟩ bls ⟨ru, ⟨ya, yn, yc⟩, ⟨za, zn, zc⟩⟩ ⟨rer, re, ⟨xa, xn, xc⟩⟩ R) := HRf.out.row (HF.out.box 3 _ _ _ rfl) (by decide) (by decide) _
         have HKs : Hid (Kept No wr (wk29.setRow gk26 (Av.cells ⟨rer, re, ⟨xa, xn, xc⟩⟩))) := HKs.out.newRow HG_gk26.out _
         have HF : Hid (Fr No w (wk29.setRow gk26 (Av.cells ⟨rer, re, ⟨xa, xn, xc⟩⟩)) [(gk1, 25, Bv.cells ⟨bu, ⟨pa, pn, pc⟩, ⟨qa, qn, qc⟩⟩), (gk3, 25, Bv.cells bvZ), (gk19, 25, Bv.cells ⟨ru, ⟨ya, yn, yc⟩, ⟨za, zn, zc⟩⟩), (gk26, 56, Av.cells ⟨rer, re, ⟨xa, xn, xc⟩⟩)]) := HF.out.set 3 rfl _
         generalize wk29.setRow gk26 (Av.cells ⟨rer, re, ⟨xa, xn, xc⟩⟩) = wk30 at HF HKs HRf hH ⊢
         refine aT (i := 15) (oi := oqVc9) (v := .int .i64 (refS bu x)) (fun _ _ => by kernel_rfl) hH ?_
         try simp only [pA, pB, p1, p2, p3]
         refine wpAnyH_done (by kernel_rfl) ?_ _
         try simp only [pA, pB, p1, p2, p3]
         refine hK0 _ _ (Met.intro (hJ0 _ _ ?_))
         (repeat apply Exists.intro)
         refine ⟨?_, rfl⟩
         exact ⟨gk19, gk26, ru, ya, yn, yc, za, zn, zc, rer, re, xa, xn, xc, rfl, rfl, rfl, HF, HKs, HRf⟩
       ·skip
        clear hi
        refine step_run (i := 12) (o := oqVc6) rfl (by kernel_rfl) (exec_alloc 56 rfl (Av.cells avZ) zero56) ((hH.alloc _ _).front) (fun hH => ?_)
        try simp only [pA, pB, p1, p2, p3]
        have HG_gk31 : Hid (wr.heap.size ≤ wk5.heap.size) := HKs.out.size
        have HKs : Hid (Kept No wr (wk5.alloc (.cells (Av.cells avZ) 56))) := HKs.out.no ((Kept.refl No _).alloc _)
        have HF : Hid (Fr No w (wk5.alloc (.cells (Av.cells avZ) 56)) [(gk1, 25, Bv.cells ⟨bu, ⟨pa, pn, pc⟩, ⟨qa, qn, qc⟩⟩), (gk3, 25, Bv.cells bvZ), (wk5.heap.size, 56, Av.cells avZ)]) := HF.out.alloc _ _
        generalize wk5.alloc (.cells (Av.cells avZ) 56) = wk32 at HF HKs hH ⊢
        obtain ⟨gk31, hg⟩ : ∃ g, g = wk5.heap.size := ⟨_, rfl⟩
        have HG_gk31 : Hid (wr.heap.size ≤ gk31) := by show _ ≤ _; rw [hg]; exact HG_gk31.out
        rw [← hg] at HF ⊢
        clear hg
        refine any_pick (rs := [6, 11]) (by kernel_rfl) (by simp) ?_
        intro i hi
        rcases pick2 hi with rfl | rfl
        ·skip
         clear hi
         refine step_call (i := 6) (o := oqVc0) rfl (by kernel_rfl) 26 #[.agg (Bv.cells ⟨bu, ⟨pa, pn, pc⟩, ⟨qa, qn, qc⟩⟩), .agg (Cm.cells x), .int .i64 room] (by kernel_rfl) _ (HRF.out _ (HB.out.no HKs.out).e (HB.out.no HKs.out).l) ?_
         rintro e wk33 ⟨⟨ru, ⟨ya, yn, yc⟩, ⟨za, zn, zc⟩⟩, ⟨rer, re, ⟨xa, xn, xc⟩⟩, rfl, hQ, hk⟩
         have hH2 : Fr No w wk33 [(gk1, 25, Bv.cells ⟨bu, ⟨pa, pn, pc⟩, ⟨qa, qn, qc⟩⟩), (gk3, 25, Bv.cells bvZ)] := hH.no hk
         have HRf : Hid (RfA wk33 w.heap.size (refS bu x = 0) ⟨pa, pn, pc⟩ bes ⟨qa, qn, qc⟩ bls ⟨ru, ⟨ya, yn, yc⟩, ⟨za, zn, zc⟩⟩ ⟨rer, re, ⟨xa, xn, xc⟩⟩ R) := hQ.lower HF.out.kept.size
         have HKs : Hid (Kept No wr (wk33)) := HKs.out.no hk
         have HF : Hid (Fr No w (wk33) [(gk1, 25, Bv.cells ⟨bu, ⟨pa, pn, pc⟩, ⟨qa, qn, qc⟩⟩), (gk3, 25, Bv.cells bvZ), (gk31, 56, Av.cells avZ)]) := HF.out.no hk
         clear hQ hk
         refine ⟨.tuple #[.agg (Bv.cells ⟨ru, ⟨ya, yn, yc⟩, ⟨za, zn, zc⟩⟩), .agg (Av.cells ⟨rer, re, ⟨xa, xn, xc⟩⟩), .int .i64 (refS bu x)], rfl, hH2, fun hH => ?_⟩
         clear hH2
         try simp only [pA, pB, p1, p2, p3]
         refine aT (i := 7) (oi := oqVc1) (v := .tuple #[.agg (Bv.cells ⟨ru, ⟨ya, yn, yc⟩, ⟨za, zn, zc⟩⟩), .agg (Av.cells ⟨rer, re, ⟨xa, xn, xc⟩⟩), .int .i64 (refS bu x)]) (fun _ _ => by kernel_rfl) hH ?_
         try simp only [pA, pB, p1, p2, p3]
         refine aT (i := 8) (oi := oqVc2) (v := .agg (Bv.cells ⟨ru, ⟨ya, yn, yc⟩, ⟨za, zn, zc⟩⟩)) (fun _ _ => by kernel_rfl) hH ?_
         try simp only [pA, pB, p1, p2, p3]
         refine aT (i := 9) (oi := oqVc3) (v := .agg (Av.cells ⟨rer, re, ⟨xa, xn, xc⟩⟩)) (fun _ _ => by kernel_rfl) hH ?_
         try simp only [pA, pB, p1, p2, p3]
         refine aT (i := 10) (oi := oqVc4) (v := .int .i64 (refS bu x)) (fun _ _ => by kernel_rfl) hH ?_
         try simp only [pA, pB, p1, p2, p3]
         refine any_step (i := 11) (o := oqVc5) rfl (by kernel_rfl) (by kernel_rfl) (exec_alloc 25 rfl (Bv.cells bvZ) zero25) ((hH.alloc _ _).front) (fun hH => ?_)
         try simp only [pA, pB, p1, p2, p3]
         have HG_gk34 : Hid (wr.heap.size ≤ wk33.heap.size) := HKs.out.size
         have HRf : Hid (RfA (wk33.alloc (.cells (Bv.cells bvZ) 25)) w.heap.size (refS bu x = 0) ⟨pa, pn, pc⟩ bes ⟨qa, qn, qc⟩ bls ⟨ru, ⟨ya, yn, yc⟩, ⟨za, zn, zc⟩⟩ ⟨rer, re, ⟨xa, xn, xc⟩⟩ R) := HRf.out.no ((Kept.refl No _).alloc _)
         have HKs : Hid (Kept No wr (wk33.alloc (.cells (Bv.cells bvZ) 25))) := HKs.out.no ((Kept.refl No _).alloc _)
         have HF : Hid (Fr No w (wk33.alloc (.cells (Bv.cells bvZ) 25)) [(gk1, 25, Bv.cells ⟨bu, ⟨pa, pn, pc⟩, ⟨qa, qn, qc⟩⟩), (gk3, 25, Bv.cells bvZ), (gk31, 56, Av.cells avZ), (wk33.heap.size, 25, Bv.cells bvZ)]) := HF.out.alloc _ _
         generalize wk33.alloc (.cells (Bv.cells bvZ) 25) = wk35 at HF HKs HRf hH ⊢
         obtain ⟨gk34, hg⟩ : ∃ g, g = wk33.heap.size := ⟨_, rfl⟩
         have HG_gk34 : Hid (wr.heap.size ≤ gk34) := by show _ ≤ _; rw [hg]; exact HG_gk34.out
         rw [← hg] at HF ⊢
         clear hg
         refine any_store (i := 13) (o := oqVc7) (w' := wk35.setRow gk34 (Bv.cells ⟨ru, ⟨ya, yn, yc⟩, ⟨za, zn, zc⟩⟩)) rfl (by kernel_rfl) (by kernel_rfl) 25 _ _ rfl ⟨gk34, 0, none⟩ (.agg (Bv.cells ⟨ru, ⟨ya, yn, yc⟩, ⟨za, zn, zc⟩⟩)) (by kernel_rfl) (by kernel_rfl) (st25 (HF.out.box 3 _ _ _ rfl) rfl) ((show Fr No w _ ([(gk1, 25, Bv.cells ⟨bu, ⟨pa, pn, pc⟩, ⟨qa, qn, qc⟩⟩), (gk3, 25, Bv.cells bvZ)] ++ [(gk31, 56, Av.cells avZ), (gk34, 25, Bv.cells ⟨ru, ⟨ya, yn, yc⟩, ⟨za, zn, zc⟩⟩)]) from HF.out.set 3 rfl _).front) (fun hH => ?_)
         try simp only [pA, pB, p1, p2, p3]
         have HRf : Hid (RfA (wk35.setRow gk34 (Bv.cells ⟨ru, ⟨ya, yn, yc⟩, ⟨za, zn, zc⟩⟩)) w.heap.size (refS bu x = 0) ⟨pa, pn, pc⟩ bes ⟨qa, qn, qc⟩ bls ⟨ru, ⟨ya, yn, yc⟩, ⟨za, zn, zc⟩⟩ ⟨rer, re, ⟨xa, xn, xc⟩⟩ R) := HRf.out.row (HF.out.box 3 _ _ _ rfl) (by decide) (by decide) _
         have HKs : Hid (Kept No wr (wk35.setRow gk34 (Bv.cells ⟨ru, ⟨ya, yn, yc⟩, ⟨za, zn, zc⟩⟩))) := HKs.out.newRow HG_gk34.out _
         have HF : Hid (Fr No w (wk35.setRow gk34 (Bv.cells ⟨ru, ⟨ya, yn, yc⟩, ⟨za, zn, zc⟩⟩)) [(gk1, 25, Bv.cells ⟨bu, ⟨pa, pn, pc⟩, ⟨qa, qn, qc⟩⟩), (gk3, 25, Bv.cells bvZ), (gk31, 56, Av.cells avZ), (gk34, 25, Bv.cells ⟨ru, ⟨ya, yn, yc⟩, ⟨za, zn, zc⟩⟩)]) := HF.out.set 3 rfl _
         generalize wk35.setRow gk34 (Bv.cells ⟨ru, ⟨ya, yn, yc⟩, ⟨za, zn, zc⟩⟩) = wk36 at HF HKs HRf hH ⊢
         refine any_store (i := 14) (o := oqVc8) (w' := wk36.setRow gk31 (Av.cells ⟨rer, re, ⟨xa, xn, xc⟩⟩)) rfl (by kernel_rfl) (by kernel_rfl) 56 _ _ rfl ⟨gk31, 0, none⟩ (.agg (Av.cells ⟨rer, re, ⟨xa, xn, xc⟩⟩)) (by kernel_rfl) (by kernel_rfl) (st56 (HF.out.box 2 _ _ _ rfl) rfl) ((show Fr No w _ ([(gk1, 25, Bv.cells ⟨bu, ⟨pa, pn, pc⟩, ⟨qa, qn, qc⟩⟩), (gk3, 25, Bv.cells bvZ)] ++ [(gk31, 56, Av.cells ⟨rer, re, ⟨xa, xn, xc⟩⟩), (gk34, 25, Bv.cells ⟨ru, ⟨ya, yn, yc⟩, ⟨za, zn, zc⟩⟩)]) from HF.out.set 2 rfl _).front) (fun hH => ?_)
         try simp only [pA, pB, p1, p2, p3]
         have HRf : Hid (RfA (wk36.setRow gk31 (Av.cells ⟨rer, re, ⟨xa, xn, xc⟩⟩)) w.heap.size (refS bu x = 0) ⟨pa, pn, pc⟩ bes ⟨qa, qn, qc⟩ bls ⟨ru, ⟨ya, yn, yc⟩, ⟨za, zn, zc⟩⟩ ⟨rer, re, ⟨xa, xn, xc⟩⟩ R) := HRf.out.row (HF.out.box 2 _ _ _ rfl) (by decide) (by decide) _
         have HKs : Hid (Kept No wr (wk36.setRow gk31 (Av.cells ⟨rer, re, ⟨xa, xn, xc⟩⟩))) := HKs.out.newRow HG_gk31.out _
         have HF : Hid (Fr No w (wk36.setRow gk31 (Av.cells ⟨rer, re, ⟨xa, xn, xc⟩⟩)) [(gk1, 25, Bv.cells ⟨bu, ⟨pa, pn, pc⟩, ⟨qa, qn, qc⟩⟩), (gk3, 25, Bv.cells bvZ), (gk31, 56, Av.cells ⟨rer, re, ⟨xa, xn, xc⟩⟩), (gk34, 25, Bv.cells ⟨ru, ⟨ya, yn, yc⟩, ⟨za, zn, zc⟩⟩)]) := HF.out.set 2 rfl _
         generalize wk36.setRow gk31 (Av.cells ⟨rer, re, ⟨xa, xn, xc⟩⟩) = wk37 at HF HKs HRf hH ⊢
         refine aT (i := 15) (oi := oqVc9) (v := .int .i64 (refS bu x)) (fun _ _ => by kernel_rfl) hH ?_
         try simp only [pA, pB, p1, p2, p3]
         refine wpAnyH_done (by kernel_rfl) ?_ _
         try simp only [pA, pB, p1, p2, p3]
         have HF : Hid (Fr No w wk37 [(gk1, 25, Bv.cells ⟨bu, ⟨pa, pn, pc⟩, ⟨qa, qn, qc⟩⟩), (gk3, 25, Bv.cells bvZ), (gk34, 25, Bv.cells ⟨ru, ⟨ya, yn, yc⟩, ⟨za, zn, zc⟩⟩), (gk31, 56, Av.cells ⟨rer, re, ⟨xa, xn, xc⟩⟩)]) := HF.out.swap4
         refine hK0 _ _ (Met.intro (hJ0 _ _ ?_))
         (repeat apply Exists.intro)
         refine ⟨?_, rfl⟩
         exact ⟨gk34, gk31, ru, ya, yn, yc, za, zn, zc, rer, re, xa, xn, xc, rfl, rfl, rfl, HF, HKs, HRf⟩
        ·skip
         clear hi
         refine step_run (i := 11) (o := oqVc5) rfl (by kernel_rfl) (exec_alloc 25 rfl (Bv.cells bvZ) zero25) ((hH.alloc _ _).front) (fun hH => ?_)
         try simp only [pA, pB, p1, p2, p3]
         have HG_gk38 : Hid (wr.heap.size ≤ wk32.heap.size) := HKs.out.size
         have HKs : Hid (Kept No wr (wk32.alloc (.cells (Bv.cells bvZ) 25))) := HKs.out.no ((Kept.refl No _).alloc _)
         have HF : Hid (Fr No w (wk32.alloc (.cells (Bv.cells bvZ) 25)) [(gk1, 25, Bv.cells ⟨bu, ⟨pa, pn, pc⟩, ⟨qa, qn, qc⟩⟩), (gk3, 25, Bv.cells bvZ), (gk31, 56, Av.cells avZ), (wk32.heap.size, 25, Bv.cells bvZ)]) := HF.out.alloc _ _
         generalize wk32.alloc (.cells (Bv.cells bvZ) 25) = wk39 at HF HKs hH ⊢
         obtain ⟨gk38, hg⟩ : ∃ g, g = wk32.heap.size := ⟨_, rfl⟩
         have HG_gk38 : Hid (wr.heap.size ≤ gk38) := by show _ ≤ _; rw [hg]; exact HG_gk38.out
         rw [← hg] at HF ⊢
         clear hg
         refine any_call (i := 6) (o := oqVc0) rfl (by kernel_rfl) (by kernel_rfl) 26 #[.agg (Bv.cells ⟨bu, ⟨pa, pn, pc⟩, ⟨qa, qn, qc⟩⟩), .agg (Cm.cells x), .int .i64 room] (by kernel_rfl) _ (HRF.out _ (HB.out.no HKs.out).e (HB.out.no HKs.out).l) ?_
         rintro e wk40 ⟨⟨ru, ⟨ya, yn, yc⟩, ⟨za, zn, zc⟩⟩, ⟨rer, re, ⟨xa, xn, xc⟩⟩, rfl, hQ, hk⟩
         have hH2 : Fr No w wk40 [(gk1, 25, Bv.cells ⟨bu, ⟨pa, pn, pc⟩, ⟨qa, qn, qc⟩⟩), (gk3, 25, Bv.cells bvZ)] := hH.no hk
         have HRf : Hid (RfA wk40 w.heap.size (refS bu x = 0) ⟨pa, pn, pc⟩ bes ⟨qa, qn, qc⟩ bls ⟨ru, ⟨ya, yn, yc⟩, ⟨za, zn, zc⟩⟩ ⟨rer, re, ⟨xa, xn, xc⟩⟩ R) := hQ.lower HF.out.kept.size
         have HKs : Hid (Kept No wr (wk40)) := HKs.out.no hk
         have HF : Hid (Fr No w (wk40) [(gk1, 25, Bv.cells ⟨bu, ⟨pa, pn, pc⟩, ⟨qa, qn, qc⟩⟩), (gk3, 25, Bv.cells bvZ), (gk31, 56, Av.cells avZ), (gk38, 25, Bv.cells bvZ)]) := HF.out.no hk
         clear hQ hk
         refine ⟨.tuple #[.agg (Bv.cells ⟨ru, ⟨ya, yn, yc⟩, ⟨za, zn, zc⟩⟩), .agg (Av.cells ⟨rer, re, ⟨xa, xn, xc⟩⟩), .int .i64 (refS bu x)], rfl, hH2, fun hH => ?_⟩
         clear hH2
         try simp only [pA, pB, p1, p2, p3]
         refine aT (i := 7) (oi := oqVc1) (v := .tuple #[.agg (Bv.cells ⟨ru, ⟨ya, yn, yc⟩, ⟨za, zn, zc⟩⟩), .agg (Av.cells ⟨rer, re, ⟨xa, xn, xc⟩⟩), .int .i64 (refS bu x)]) (fun _ _ => by kernel_rfl) hH ?_
         try simp only [pA, pB, p1, p2, p3]
         refine aT (i := 8) (oi := oqVc2) (v := .agg (Bv.cells ⟨ru, ⟨ya, yn, yc⟩, ⟨za, zn, zc⟩⟩)) (fun _ _ => by kernel_rfl) hH ?_
         try simp only [pA, pB, p1, p2, p3]
         refine aT (i := 9) (oi := oqVc3) (v := .agg (Av.cells ⟨rer, re, ⟨xa, xn, xc⟩⟩)) (fun _ _ => by kernel_rfl) hH ?_
         try simp only [pA, pB, p1, p2, p3]
         refine aT (i := 10) (oi := oqVc4) (v := .int .i64 (refS bu x)) (fun _ _ => by kernel_rfl) hH ?_
         try simp only [pA, pB, p1, p2, p3]
         refine any_store (i := 13) (o := oqVc7) (w' := wk40.setRow gk38 (Bv.cells ⟨ru, ⟨ya, yn, yc⟩, ⟨za, zn, zc⟩⟩)) rfl (by kernel_rfl) (by kernel_rfl) 25 _ _ rfl ⟨gk38, 0, none⟩ (.agg (Bv.cells ⟨ru, ⟨ya, yn, yc⟩, ⟨za, zn, zc⟩⟩)) (by kernel_rfl) (by kernel_rfl) (st25 (HF.out.box 3 _ _ _ rfl) rfl) ((show Fr No w _ ([(gk1, 25, Bv.cells ⟨bu, ⟨pa, pn, pc⟩, ⟨qa, qn, qc⟩⟩), (gk3, 25, Bv.cells bvZ)] ++ [(gk31, 56, Av.cells avZ), (gk38, 25, Bv.cells ⟨ru, ⟨ya, yn, yc⟩, ⟨za, zn, zc⟩⟩)]) from HF.out.set 3 rfl _).front) (fun hH => ?_)
         try simp only [pA, pB, p1, p2, p3]
         have HRf : Hid (RfA (wk40.setRow gk38 (Bv.cells ⟨ru, ⟨ya, yn, yc⟩, ⟨za, zn, zc⟩⟩)) w.heap.size (refS bu x = 0) ⟨pa, pn, pc⟩ bes ⟨qa, qn, qc⟩ bls ⟨ru, ⟨ya, yn, yc⟩, ⟨za, zn, zc⟩⟩ ⟨rer, re, ⟨xa, xn, xc⟩⟩ R) := HRf.out.row (HF.out.box 3 _ _ _ rfl) (by decide) (by decide) _
         have HKs : Hid (Kept No wr (wk40.setRow gk38 (Bv.cells ⟨ru, ⟨ya, yn, yc⟩, ⟨za, zn, zc⟩⟩))) := HKs.out.newRow HG_gk38.out _
         have HF : Hid (Fr No w (wk40.setRow gk38 (Bv.cells ⟨ru, ⟨ya, yn, yc⟩, ⟨za, zn, zc⟩⟩)) [(gk1, 25, Bv.cells ⟨bu, ⟨pa, pn, pc⟩, ⟨qa, qn, qc⟩⟩), (gk3, 25, Bv.cells bvZ), (gk31, 56, Av.cells avZ), (gk38, 25, Bv.cells ⟨ru, ⟨ya, yn, yc⟩, ⟨za, zn, zc⟩⟩)]) := HF.out.set 3 rfl _
         generalize wk40.setRow gk38 (Bv.cells ⟨ru, ⟨ya, yn, yc⟩, ⟨za, zn, zc⟩⟩) = wk41 at HF HKs HRf hH ⊢
         refine any_store (i := 14) (o := oqVc8) (w' := wk41.setRow gk31 (Av.cells ⟨rer, re, ⟨xa, xn, xc⟩⟩)) rfl (by kernel_rfl) (by kernel_rfl) 56 _ _ rfl ⟨gk31, 0, none⟩ (.agg (Av.cells ⟨rer, re, ⟨xa, xn, xc⟩⟩)) (by kernel_rfl) (by kernel_rfl) (st56 (HF.out.box 2 _ _ _ rfl) rfl) ((show Fr No w _ ([(gk1, 25, Bv.cells ⟨bu, ⟨pa, pn, pc⟩, ⟨qa, qn, qc⟩⟩), (gk3, 25, Bv.cells bvZ)] ++ [(gk31, 56, Av.cells ⟨rer, re, ⟨xa, xn, xc⟩⟩), (gk38, 25, Bv.cells ⟨ru, ⟨ya, yn, yc⟩, ⟨za, zn, zc⟩⟩)]) from HF.out.set 2 rfl _).front) (fun hH => ?_)
         try simp only [pA, pB, p1, p2, p3]
         have HRf : Hid (RfA (wk41.setRow gk31 (Av.cells ⟨rer, re, ⟨xa, xn, xc⟩⟩)) w.heap.size (refS bu x = 0) ⟨pa, pn, pc⟩ bes ⟨qa, qn, qc⟩ bls ⟨ru, ⟨ya, yn, yc⟩, ⟨za, zn, zc⟩⟩ ⟨rer, re, ⟨xa, xn, xc⟩⟩ R) := HRf.out.row (HF.out.box 2 _ _ _ rfl) (by decide) (by decide) _
         have HKs : Hid (Kept No wr (wk41.setRow gk31 (Av.cells ⟨rer, re, ⟨xa, xn, xc⟩⟩))) := HKs.out.newRow HG_gk31.out _
         have HF : Hid (Fr No w (wk41.setRow gk31 (Av.cells ⟨rer, re, ⟨xa, xn, xc⟩⟩)) [(gk1, 25, Bv.cells ⟨bu, ⟨pa, pn, pc⟩, ⟨qa, qn, qc⟩⟩), (gk3, 25, Bv.cells bvZ), (gk31, 56, Av.cells ⟨rer, re, ⟨xa, xn, xc⟩⟩), (gk38, 25, Bv.cells ⟨ru, ⟨ya, yn, yc⟩, ⟨za, zn, zc⟩⟩)]) := HF.out.set 2 rfl _
         generalize wk41.setRow gk31 (Av.cells ⟨rer, re, ⟨xa, xn, xc⟩⟩) = wk42 at HF HKs HRf hH ⊢
         refine aT (i := 15) (oi := oqVc9) (v := .int .i64 (refS bu x)) (fun _ _ => by kernel_rfl) hH ?_
         try simp only [pA, pB, p1, p2, p3]
         refine wpAnyH_done (by kernel_rfl) ?_ _
         try simp only [pA, pB, p1, p2, p3]
         have HF : Hid (Fr No w wk42 [(gk1, 25, Bv.cells ⟨bu, ⟨pa, pn, pc⟩, ⟨qa, qn, qc⟩⟩), (gk3, 25, Bv.cells bvZ), (gk38, 25, Bv.cells ⟨ru, ⟨ya, yn, yc⟩, ⟨za, zn, zc⟩⟩), (gk31, 56, Av.cells ⟨rer, re, ⟨xa, xn, xc⟩⟩)]) := HF.out.swap4
         refine hK0 _ _ (Met.intro (hJ0 _ _ ?_))
         (repeat apply Exists.intro)
         refine ⟨?_, rfl⟩
         exact ⟨gk38, gk31, ru, ya, yn, yc, za, zn, zc, rer, re, xa, xn, xc, rfl, rfl, rfl, HF, HKs, HRf⟩
      case rest =>
       obtain ⟨g11, g12, ru, ya, yn, yc, za, zn, zc, rer, re, xa, xn, xc, rfl, rfl, rfl, HF, HKc, HRf⟩ := hcut
       have HAs : Hid (Ans wc w.heap.size ⟨a, n, c⟩ vs A) := HAs.out.no HKc.out
       have HB : Hid (BkO wr w.heap.size ⟨bu, ⟨pa, pn, pc⟩, ⟨qa, qn, qc⟩⟩ ⟨bu, bes, bls⟩) := HB
       clear HRF
       go_upto_region 6 with fail
       refine WL.start ?_
       refine tK (.int .i64 (refS bu x)) ?_
       try simp only [pA, pB, p1, p2, p3]
       cases q1 : ((refS bu x) == 0)
       ·skip
        refine tW (.bool true) (exec_bin .neq 3 _ _ _ rfl (.int .i64 (refS bu x)) (.int .i64 0) (.bool true) (by kernel_rfl) (by kernel_rfl) (by kernel_rfl) (by rw [b_neq, q1]; try rfl)) ?_
        try simp only [pA, pB, p1, p2, p3]
        refine WL.nil ?_
        try simp only [pA, pB, p1, p2, p3]
        have hne : refS bu x ≠ 0 := by have := q1; simpa using this
        have HV : Hid (errR room ⟨up, es, ls⟩ xs = refS bu x) := HE1.out.2 hne
        have HV2 : Hid (resB room ⟨up, es, ls⟩ xs = ⟨0, [], []⟩ ∧ resA room ⟨up, es, ls⟩ xs = []) := resB_1 (by rw [HV.out]; exact hne)
        clear HE1 HN1 HRf
        go_upto_region 7 with fail
        refine WL.start ?_
        refine tW (.agg (Bv.cells bvZ)) (exec_build 25 _ rfl (Bv.cells bvZ) (by kernel_rfl)) ?_
        try simp only [pA, pB, p1, p2, p3]
        refine tK (.int .i64 (refS bu x)) ?_
        try simp only [pA, pB, p1, p2, p3]
        refine wp_storeW 25 _ _ rfl ⟨gk3, 0, none⟩ (.agg (Bv.cells bvZ)) (by kernel_rfl) (by kernel_rfl) (wc.setRow gk3 (Bv.cells bvZ)) (st25 (HF.out.box 1 _ _ _ rfl) rfl) (by kernel_rfl) ?_
        try simp only [pA, pB, p1, p2, p3]
        have HAs : Hid (Ans (wc.setRow gk3 (Bv.cells bvZ)) w.heap.size ⟨a, n, c⟩ vs A) := HAs.out.row (HF.out.box 1 _ _ _ rfl) (by decide) (by decide) _
        have HF : Hid (Fr No w (wc.setRow gk3 (Bv.cells bvZ)) [(gk1, 25, Bv.cells ⟨bu, ⟨pa, pn, pc⟩, ⟨qa, qn, qc⟩⟩), (gk3, 25, Bv.cells bvZ), (g11, 25, Bv.cells ⟨ru, ⟨ya, yn, yc⟩, ⟨za, zn, zc⟩⟩), (g12, 56, Av.cells ⟨rer, re, ⟨xa, xn, xc⟩⟩)]) := HF.out.set 1 rfl _
        generalize wc.setRow gk3 (Bv.cells bvZ) = wk43 at HF HAs ⊢
        refine tK (.slice none 0 0) ?_
        try simp only [pA, pB, p1, p2, p3]
        refine tK (.int .i64 (refS bu x)) ?_
        try simp only [pA, pB, p1, p2, p3]
        refine WL.nil ?_
        try simp only [pA, pB, p1, p2, p3]
        go_wp2
        rw [HC.out]
        refine bodyPost_ret (results_ctt (by rfl) _ _ gk3 (Bv.cells bvZ) (by rfl) (ld25 (HF.out.box 1 _ _ _ rfl))) rfl ?_
        rw [HV.out, HV2.out.1, HV2.out.2]
        exact ⟨bvZ, ⟨none, 0, 0⟩, [], rfl, rfl, (OwE.nil _ 0).rd, (OwL.nil _ 0).rd, Ans.nil _ _, HF.out.kept⟩
       ·skip
        refine tW (.bool false) (exec_bin .neq 3 _ _ _ rfl (.int .i64 (refS bu x)) (.int .i64 0) (.bool false) (by kernel_rfl) (by kernel_rfl) (by kernel_rfl) (by rw [b_neq, q1]; try rfl)) ?_
        try simp only [pA, pB, p1, p2, p3]
        refine WL.nil ?_
        try simp only [pA, pB, p1, p2, p3]
        have h0 : refS bu x = 0 := by have := q1; simpa using this
        have HE2 : Hid (errR room ⟨up, es, ls⟩ (xs.take (i + 1)) = 0) := HE1.out.1 h0
        obtain ⟨r1, r2, r3, r4, r5, r6, r7⟩ := HRf.out.out h0
        have r1 : ru = R.1.up := r1
        have r5 : rer = R.2.er := r5
        have r6 : re = R.2.e := r6
        subst r1 r5 r6
        have HN : Hid (BkO wc w.heap.size ⟨R.1.up, ⟨ya, yn, yc⟩, ⟨za, zn, zc⟩⟩ R.1) := HB.out.next HKc.out rfl r2 r4
        have HV : Hid (AnAt wc ⟨R.2.er, R.2.e, ⟨xa, xn, xc⟩⟩ R.2) := ⟨rfl, rfl, r7.rd, fun k hk => r7.own.ty hk, HRl.out⟩
        have hyc : yn ≤ yc := r3
        clear h0 HE1 HRf r2 r3 r4 r7 HB HKc q1
        go_upto_region 8 with fail
        refine WL.start ?_
        refine tW (.agg (Bv.cells ⟨R.1.up, ⟨ya, yn, yc⟩, ⟨za, zn, zc⟩⟩)) (exec_load 25 _ rfl ⟨g11, 0, none⟩ (by kernel_rfl) (.agg (Bv.cells ⟨R.1.up, ⟨ya, yn, yc⟩, ⟨za, zn, zc⟩⟩)) (ld25 (HF.out.box 2 _ _ _ rfl))) ?_
        try simp only [pA, pB, p1, p2, p3]
        refine wp_storeW 25 _ _ rfl ⟨gk1, 0, none⟩ (.agg (Bv.cells ⟨R.1.up, ⟨ya, yn, yc⟩, ⟨za, zn, zc⟩⟩)) (by kernel_rfl) (by kernel_rfl) (wc.setRow gk1 (Bv.cells ⟨R.1.up, ⟨ya, yn, yc⟩, ⟨za, zn, zc⟩⟩)) (st25 (HF.out.box 0 _ _ _ rfl) rfl) (by kernel_rfl) ?_
        try simp only [pA, pB, p1, p2, p3]
        have HAs : Hid (Ans (wc.setRow gk1 (Bv.cells ⟨R.1.up, ⟨ya, yn, yc⟩, ⟨za, zn, zc⟩⟩)) w.heap.size ⟨a, n, c⟩ vs A) := HAs.out.row (HF.out.box 0 _ _ _ rfl) (by decide) (by decide) _
        have HN : Hid (BkO (wc.setRow gk1 (Bv.cells ⟨R.1.up, ⟨ya, yn, yc⟩, ⟨za, zn, zc⟩⟩)) w.heap.size ⟨R.1.up, ⟨ya, yn, yc⟩, ⟨za, zn, zc⟩⟩ R.1) := HN.out.kept (Kept.setRow _ _ _) (fun k e => ⟨(show k = gk1 from e) ▸ HF.out.low 0 _ _ _ rfl, 25, _, (show k = gk1 from e) ▸ (HF.out.box 0 _ _ _ rfl), by decide, by decide⟩) HF.out.kept.size
        have HV : Hid (AnAt (wc.setRow gk1 (Bv.cells ⟨R.1.up, ⟨ya, yn, yc⟩, ⟨za, zn, zc⟩⟩)) ⟨R.2.er, R.2.e, ⟨xa, xn, xc⟩⟩ R.2) := HV.out.kept (Kept.setRow _ _ _) (fun k hk e => HV.out.not (HF.out.box 0 _ _ _ rfl) (by decide) ((show k = gk1 from e) ▸ hk))
        have HF : Hid (Fr No w (wc.setRow gk1 (Bv.cells ⟨R.1.up, ⟨ya, yn, yc⟩, ⟨za, zn, zc⟩⟩)) [(gk1, 25, Bv.cells ⟨R.1.up, ⟨ya, yn, yc⟩, ⟨za, zn, zc⟩⟩), (gk3, 25, Bv.cells bvZ), (g11, 25, Bv.cells ⟨R.1.up, ⟨ya, yn, yc⟩, ⟨za, zn, zc⟩⟩), (g12, 56, Av.cells ⟨R.2.er, R.2.e, ⟨xa, xn, xc⟩⟩)]) := HF.out.set 0 rfl _
        generalize wc.setRow gk1 (Bv.cells ⟨R.1.up, ⟨ya, yn, yc⟩, ⟨za, zn, zc⟩⟩) = wk44 at HF HAs HN HV ⊢
        refine WL.nil ?_
        try simp only [pA, pB, p1, p2, p3]
        go_upto_region 9 with fail
        refine WL.start ?_
        refine tK (.slice a n c) ?_
        try simp only [pA, pB, p1, p2, p3]
        refine tW (.agg (Av.cells ⟨R.2.er, R.2.e, ⟨xa, xn, xc⟩⟩)) (exec_load 56 _ rfl ⟨g12, 0, none⟩ (by kernel_rfl) (.agg (Av.cells ⟨R.2.er, R.2.e, ⟨xa, xn, xc⟩⟩)) (ld56 (HF.out.box 3 _ _ _ rfl))) ?_
        try simp only [pA, pB, p1, p2, p3]
        have HF : Hid (Fr No w wk44 [(gk1, 25, Bv.cells ⟨R.1.up, ⟨ya, yn, yc⟩, ⟨za, zn, zc⟩⟩), (gk3, 25, Bv.cells bvZ), (g11, 25, Bv.cells ⟨R.1.up, ⟨ya, yn, yc⟩, ⟨za, zn, zc⟩⟩)]) := (show Fr No w wk44 ([(gk1, 25, Bv.cells ⟨R.1.up, ⟨ya, yn, yc⟩, ⟨za, zn, zc⟩⟩), (gk3, 25, Bv.cells bvZ), (g11, 25, Bv.cells ⟨R.1.up, ⟨ya, yn, yc⟩, ⟨za, zn, zc⟩⟩)] ++ [(g12, 56, Av.cells ⟨R.2.er, R.2.e, ⟨xa, xn, xc⟩⟩)]) from HF.out).front
        obtain ⟨oa, oc, wk45, hrun, hO, hk⟩ := app1A (w := wk44) (base := w.heap.size) HF.out.kept.size HAs.out.own ⟨R.2.er, R.2.e, ⟨xa, xn, xc⟩⟩ (show n ≤ _ by omega)
        refine wp_runW (.slice (some ⟨wk44.heap.size, 0, none⟩) 1 1) (wk44.alloc (.cells (Av.cells ⟨R.2.er, R.2.e, ⟨xa, xn, xc⟩⟩) 56)) (exec_slice2 45 56 _ rfl (Av.cells ⟨R.2.er, R.2.e, ⟨xa, xn, xc⟩⟩) (.agg (Av.cells ⟨R.2.er, R.2.e, ⟨xa, xn, xc⟩⟩)) (by kernel_rfl) (slice1_av ⟨R.2.er, R.2.e, ⟨xa, xn, xc⟩⟩ _)) (by kernel_rfl) ?_
        try simp only [pA, pB, p1, p2, p3]
        refine wp_runW (.slice oa (n + 1) oc) wk45 (exec_appN _ _ 45 45 rfl _ _ (by kernel_rfl) (by kernel_rfl) hrun) (by kernel_rfl) ?_
        try simp only [pA, pB, p1, p2, p3]
        have HN : Hid (BkO wk45 w.heap.size ⟨R.1.up, ⟨ya, yn, yc⟩, ⟨za, zn, zc⟩⟩ R.1) := HN.out.kept hk (fun k e => ⟨HAs.out.own.base e, by obtain ⟨cs, hb⟩ := HAs.out.own.ty e; exact ⟨56, cs, hb, by decide, by decide⟩⟩) HF.out.kept.size
        have HF : Hid (Fr No w wk45 [(gk1, 25, Bv.cells ⟨R.1.up, ⟨ya, yn, yc⟩, ⟨za, zn, zc⟩⟩), (gk3, 25, Bv.cells bvZ), (g11, 25, Bv.cells ⟨R.1.up, ⟨ya, yn, yc⟩, ⟨za, zn, zc⟩⟩)]) := HF.out.app HAs.out.own hk (by simp)
        have HAs : Hid (Ans wk45 w.heap.size ⟨oa, n + 1, oc⟩ (vs ++ [⟨R.2.er, R.2.e, ⟨xa, xn, xc⟩⟩]) (A ++ [R.2])) := HAs.out.push HV.out hO hk
        clear hrun hO hk HV
        refine tK (.slice oa (n + 1) oc) ?_
        try simp only [pA, pB, p1, p2, p3]
        refine WL.nil ?_
        try simp only [pA, pB, p1, p2, p3]
        have HF : Hid (Fr No w wk45 [(gk1, 25, Bv.cells ⟨R.1.up, ⟨ya, yn, yc⟩, ⟨za, zn, zc⟩⟩), (gk3, 25, Bv.cells bvZ)]) := (show Fr No w wk45 ([(gk1, 25, Bv.cells ⟨R.1.up, ⟨ya, yn, yc⟩, ⟨za, zn, zc⟩⟩), (gk3, 25, Bv.cells bvZ)] ++ [(g11, 25, Bv.cells ⟨R.1.up, ⟨ya, yn, yc⟩, ⟨za, zn, zc⟩⟩)]) from HF.out).front
        go_wp2
        go_roundw
        case rel => exact ⟨i + 1, n + 1, R.1, ⟨ya, yn, yc⟩, ⟨za, zn, zc⟩, oa, oc, vs ++ [⟨R.2.er, R.2.e, ⟨xa, xn, xc⟩⟩], A ++ [R.2], rfl, by go_num, by omega, by omega, hyc, HF, HN, HAs, ⟨HN1.out.1, HN1.out.2, HE2.out⟩, HFn⟩
        case measure => simp [intOf]; omega
    · skip
      have e : i = cn := by omega
      have HV : Hid (errR room ⟨up, es, ls⟩ xs = 0 ∧ runB room ⟨up, es, ls⟩ xs = ⟨bu, bes, bls⟩ ∧ runA room ⟨up, es, ls⟩ xs = A) := by
        have := HR.out
        rw [List.take_of_length_le (by rw [HL.out]; omega)] at this
        exact ⟨this.2.2, this.1, this.2.1⟩
      have HV2 : Hid (resB room ⟨up, es, ls⟩ xs = ⟨bu, bes, bls⟩ ∧ resA room ⟨up, es, ls⟩ xs = A) := by
        have := resB_0 HV.out.1
        rw [HV.out.2.1, HV.out.2.2] at this
        exact this
      clear HR
      go_upto_region 3 with fail
      refine WL.start ?_
      refine tK (.int .i64 ((i : Nat) : Int)) ?_
      try simp only [pA, pB, p1, p2, p3]
      refine tK (.slice ca cn cc) ?_
      try simp only [pA, pB, p1, p2, p3]
      refine tK (.int .i64 ((cn : Nat) : Int)) ?_
      try simp only [pA, pB, p1, p2, p3]
      refine tW (.bool false) (exec_bin .lss 3 _ _ _ rfl (.int .i64 ((i : Nat) : Int)) (.int .i64 ((cn : Nat) : Int)) (.bool false) (by kernel_rfl) (by kernel_rfl) (by kernel_rfl) (by rw [b_lss, decide_eq_false (by omega)])) ?_
      try simp only [pA, pB, p1, p2, p3]
      refine WL.nil ?_
      try simp only [pA, pB, p1, p2, p3]
      go_upto_region 10 with fail
      refine WL.start ?_
      refine tW (.agg (Bv.cells ⟨bu, ⟨pa, pn, pc⟩, ⟨qa, qn, qc⟩⟩)) (exec_load 25 _ rfl ⟨gk1, 0, none⟩ (by kernel_rfl) (.agg (Bv.cells ⟨bu, ⟨pa, pn, pc⟩, ⟨qa, qn, qc⟩⟩)) (ld25 (HF.out.box 0 _ _ _ rfl))) ?_
      try simp only [pA, pB, p1, p2, p3]
      refine tK (.slice a n c) ?_
      try simp only [pA, pB, p1, p2, p3]
      refine wp_storeW 25 _ _ rfl ⟨gk3, 0, none⟩ (.agg (Bv.cells ⟨bu, ⟨pa, pn, pc⟩, ⟨qa, qn, qc⟩⟩)) (by kernel_rfl) (by kernel_rfl) (wr.setRow gk3 (Bv.cells ⟨bu, ⟨pa, pn, pc⟩, ⟨qa, qn, qc⟩⟩)) (st25 (HF.out.box 1 _ _ _ rfl) rfl) (by kernel_rfl) ?_
      try simp only [pA, pB, p1, p2, p3]
      have HB : Hid (BkO (wr.setRow gk3 (Bv.cells ⟨bu, ⟨pa, pn, pc⟩, ⟨qa, qn, qc⟩⟩)) w.heap.size ⟨bu, ⟨pa, pn, pc⟩, ⟨qa, qn, qc⟩⟩ ⟨bu, bes, bls⟩) := HB.out.kept (Kept.setRow _ _ _) (fun k e => ⟨(show k = gk3 from e) ▸ HF.out.low 1 _ _ _ rfl, 25, _, (show k = gk3 from e) ▸ (HF.out.box 1 _ _ _ rfl), by decide, by decide⟩) HF.out.kept.size
      have HAs : Hid (Ans (wr.setRow gk3 (Bv.cells ⟨bu, ⟨pa, pn, pc⟩, ⟨qa, qn, qc⟩⟩)) w.heap.size ⟨a, n, c⟩ vs A) := HAs.out.row (HF.out.box 1 _ _ _ rfl) (by decide) (by decide) _
      have HF : Hid (Fr No w (wr.setRow gk3 (Bv.cells ⟨bu, ⟨pa, pn, pc⟩, ⟨qa, qn, qc⟩⟩)) [(gk1, 25, Bv.cells ⟨bu, ⟨pa, pn, pc⟩, ⟨qa, qn, qc⟩⟩), (gk3, 25, Bv.cells ⟨bu, ⟨pa, pn, pc⟩, ⟨qa, qn, qc⟩⟩)]) := HF.out.set 1 rfl _
      generalize wr.setRow gk3 (Bv.cells ⟨bu, ⟨pa, pn, pc⟩, ⟨qa, qn, qc⟩⟩) = wk46 at HF HB HAs ⊢
      refine tK (.slice a n c) ?_
      try simp only [pA, pB, p1, p2, p3]
      refine tK (.int .i64 0) ?_
      try simp only [pA, pB, p1, p2, p3]
      refine WL.nil ?_
      try simp only [pA, pB, p1, p2, p3]
      go_wp2
      rw [HC.out]
      refine bodyPost_ret (results_ctt (by rfl) _ _ gk3 (Bv.cells ⟨bu, ⟨pa, pn, pc⟩, ⟨qa, qn, qc⟩⟩) (by rfl) (ld25 (HF.out.box 1 _ _ _ rfl))) rfl ?_
      rw [HV.out.1, HV2.out.1, HV2.out.2]
      exact ⟨⟨bu, ⟨pa, pn, pc⟩, ⟨qa, qn, qc⟩⟩, ⟨a, n, c⟩, vs, rfl, rfl, HB.out.e, HB.out.l, HAs.out, HF.out.kept⟩

end Go.Proofs.Ytfemlnfknebalaa
