import Derived.Test.YtphiokehcgbldaaNx
namespace Go.Proofs.Ytphiokehcgbldaa
open Go.RowKit Go.Shelf
set_option linter.unusedVariables false
set_option linter.unusedSimpArgs false

/-- A step that came in. -/
structure St where
  k : Int
  f : Ad
  t : Ad
  c : Int
  a : Option Addr
  l : Nat
  cp : Nat
  bs : List Int
instance : Inhabited St := ⟨⟨0, (false, 0), (false, 0), 0, none, 0, 0, []⟩⟩
def St.cs (x : St) : List Value := [.int .i64 x.k, .bool x.f.1, .int .i64 x.f.2, .bool x.t.1, .int .i64 x.t.2, .int .i64 x.c, .slice x.a x.l x.cp]
structure StOk (w : World) (x : St) : Prop where
  nums : Bytes w x.a x.bs
  len : x.bs.length = x.l
  big : x.l ≤ 140737488351232
def Sts (w : World) (a : Option Addr) (xs : List St) : Prop :=
  ∀ (i : Nat) x, xs[i]? = some x → ∃ b off, a = some ⟨b, off, none⟩ ∧ ∀ j u, x.cs[j]? = some u → w.cell? ⟨b, off + i * 7 + j, none⟩ = some u
theorem Sts.no {w w' : World} {a : Option Addr} {xs : List St} (h : Sts w a xs) (hk : Kept No w w') : Sts w' a xs := by
  intro i x hi
  obtain ⟨b, off, e, hc⟩ := h i x hi
  exact ⟨b, off, e, fun j u hu => hk.cell (hc j u hu) (fun e => e)⟩
theorem StOk.no {w w' : World} {x : St} (h : StOk w x) (hk : Kept No w w') : StOk w' x := ⟨h.nums.no hk, h.len, h.big⟩
theorem Nums.block {q : IntKind} {w : World} {a : Option Addr} {zs : List Int} (h : Nums q w a zs) (h0 : 0 < zs.length) {k : Nat} (hk : At a k) : k < w.heap.size := by
  obtain ⟨b, off, e, hc⟩ := h 0 h0
  obtain ⟨ad, e', rfl⟩ := hk
  rw [e] at e'
  cases e'
  obtain ⟨o, ho, _⟩ := cells_of_cell hc
  exact (Array.getElem?_eq_some_iff.1 ho).1
/-- A net's blocks are of few types. -/
theorem NetM.typ {w : World} {n : Nat} {s : Ns} {I : Nat → Prop} (h : NetM w n s I) : NetM w n s (fun k => I k ∧ ∀ cs T fr, w.heap[k]? = some (.cells cs T fr) → T = 69 ∨ T = 3 ∨ T = 5) := by
  have hbox : ∀ {g : Nat} {T : TypeId} {cs : Array Value}, Box w g T cs → ∀ cs' T' fr, w.heap[g]? = some (.cells cs' T' fr) → T' = T := fun {g T cs} hb cs' T' fr e => by
    have hb' : w.heap[g]? = some (.cells cs T (0, 0)) := hb
    rw [hb'] at e
    simp only [Option.some.injEq, Obj.cells.injEq] at e
    exact e.2.1.symm
  have hmap : ∀ {K : Type} [DecidableEq K] {mk : K → Value} {b : Nat} {g : K → Option Value}, MapG mk w b g → ∀ cs' T' fr, w.heap[b]? ≠ some (.cells cs' T' fr) := fun {K} _ {mk b g} hm cs' T' fr e => by
    obtain ⟨es, c, hb, _⟩ := hm
    rw [hb] at e; cases e
  rcases h with ⟨h1, h2, h3⟩ | ⟨b1, b2, b3, P, h⟩
  · exact .inl ⟨h1, h2, h3, fun cs T fr e => .inl (hbox h2 cs T fr e)⟩
  · refine .inr ⟨b1, b2, b3, P, { h with inn := ⟨⟨h.inn.1, fun cs T fr e => .inl (hbox h.box cs T fr e)⟩, ⟨h.inn.2.1, fun cs T fr e => absurd e (hmap h.m1 cs T fr)⟩, ⟨h.inn.2.2.1, fun cs T fr e => absurd e (hmap h.m2 cs T fr)⟩, ⟨h.inn.2.2.2, fun cs T fr e => absurd e (hmap h.m3 cs T fr)⟩⟩, inp := fun q hq => ⟨h.inp q hq, fun cs T fr e => ?_⟩, ind := fun q hq k hk => ⟨h.ind q hq k hk, fun cs T fr e => ?_⟩ }⟩
    · obtain ⟨c, h1⟩ := (h.pl q hq).typ
      rw [h1] at e
      simp only [Option.some.injEq, Obj.cells.injEq] at e
      exact .inr (.inl e.2.1.symm)
    · obtain ⟨c, h1⟩ := Gx.own_type (h.dt q hq) hk
      rw [h1] at e
      simp only [Option.some.injEq, Obj.cells.injEq] at e
      exact .inr (.inr e.2.1.symm)
/-- What NetCounts holds while it runs. -/
structure Cn (w0 w : World) (n : Nat) (s : Ns) (ss : List Ad) (sa : Option Addr) (sc : Nat) : Prop where
  net : ∃ I, NetM w n s I ∧ ∀ k, I k → w0.heap.size ≤ k ∧ ¬ At sa k
  own : Own 34 2 w w0.heap.size sa sc ss.length (ss.flatMap adC)
  kept : Kept No w0 w
  len : ∀ q ∈ s.L, q.zs.length ≤ 140737488355328
section
variable {w0 w w' : World} {n : Nat} {s s' : Ns} {ss : List Ad} {sa : Option Addr} {sc : Nat}
theorem Cn.no (h : Cn w0 w n s ss sa sc) (hk : Kept No w w') : Cn w0 w' n s ss sa sc := by
  obtain ⟨I, hN, hI⟩ := h.net
  exact ⟨⟨I, hN.no hk, hI⟩, h.own.no hk, h.kept.then hk, h.len⟩
theorem Cn.step (h : Cn w0 w n s ss sa sc) {I I' : Nat → Prop} (hI : ∀ k, I k → w0.heap.size ≤ k ∧ ¬ At sa k) (hk : Kept I w w') (hN : NetM w' n s' I') (hI' : ∀ k, I' k → I k ∨ w.heap.size ≤ k) (hl : ∀ q ∈ s'.L, q.zs.length ≤ 140737488355328) : Cn w0 w' n s' ss sa sc where
  net := ⟨I', hN, fun k e => by
    rcases hI' k e with e | e
    · exact hI k e
    · exact ⟨Nat.le_trans h.kept.size e, fun f => by have := Own.ltA h.own f; omega⟩⟩
  own := h.own.kept hk (fun k e f => (hI k f).2 e)
  kept := h.kept.trans hk (fun _ e => e) (fun i hi e => by have := (hI i e).1; omega)
  len := hl
theorem Cn.app {ss' : List Ad} {sa' : Option Addr} {sc' : Nat} (h : Cn w0 w n s ss sa sc) (hk : Kept (At sa) w w') (hO : Own 34 2 w' w0.heap.size sa' sc' ss'.length (ss'.flatMap adC)) : Cn w0 w' n s ss' sa' sc' := by
  obtain ⟨I, hN, hI⟩ := h.net
  refine ⟨⟨_, (hN.kept hk (fun k e _ => ⟨(hI k e).2, e⟩)).typ, fun k e => ⟨(hI k e.1).1, fun f => ?_⟩⟩, hO, h.kept.trans hk (fun _ e => e) (fun i hi e => by have := h.own.base e; omega), h.len⟩
  obtain ⟨c, h1⟩ := Gx.own_type hO f
  have := e.2 _ _ _ h1
  simp at this
/-- The net's blocks below a bound. -/
theorem Cn.use (h : Cn w0 w n s ss sa sc) : ∃ I, NetM w n s I ∧ ∀ k, I k → w0.heap.size ≤ k ∧ ¬ At sa k ∧ k < w.heap.size := by
  obtain ⟨I, hN, hI⟩ := h.net
  exact ⟨_, hN.cut, fun k e => ⟨(hI k e.1).1, (hI k e.1).2, e.2⟩⟩
end
/-- The cells of a step in its box. -/
def StAt (W : World) (g : Nat) (x : St) : Prop := W.cell? ⟨g, 0, none⟩ = some (.int .i64 x.k) ∧ W.cell? ⟨g, 1, none⟩ = some (.bool x.f.1) ∧ W.cell? ⟨g, 2, none⟩ = some (.int .i64 x.f.2) ∧ W.cell? ⟨g, 3, none⟩ = some (.bool x.t.1) ∧ W.cell? ⟨g, 4, none⟩ = some (.int .i64 x.t.2) ∧ W.cell? ⟨g, 5, none⟩ = some (.int .i64 x.c) ∧ W.cell? ⟨g, 6, none⟩ = some (.slice x.a x.l x.cp)
theorem Box.stAt {W : World} {g : Nat} {x : St} (h : Box W g 37 x.cs.toArray) : StAt W g x := ⟨h.cell 0, h.cell 1, h.cell 2, h.cell 3, h.cell 4, h.cell 5, h.cell 6⟩
theorem und27 : Try.prog.underlying 27 = some (.slice 34) := by kernel_rfl
theorem info34 : (Try.prog.info? 34).map (fun i => (i.zero, i.size, i.bytes)) = some (some (.agg #[.bool false, .int .i64 0]), 2, 16) := by kernel_rfl
end Go.Proofs.Ytphiokehcgbldaa
