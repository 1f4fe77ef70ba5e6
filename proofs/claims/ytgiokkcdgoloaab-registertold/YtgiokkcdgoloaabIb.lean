import Derived.Test.YtgiokkcdgoloaabHh
import Derived.Test.YtgiokkcdgoloaabHi
import Derived.Test.YtgiokkcdgoloaabHj
import Derived.Test.YtgiokkcdgoloaabHn
namespace Go.Proofs.Ytgiokkcdgoloaab
open Go.RowKit
set_option linter.unusedVariables false
set_option linter.unusedSimpArgs false
theorem Own.lt0 {t : TypeId} {c : Nat} {w : World} {base : Nat} {a : Option Addr} {cap n : Nat} {vs : List Value} (h : Own t c w base a cap n vs) {k : Nat} (hk : At a k) : k < w.heap.size := by
  obtain ⟨ad, e, rfl⟩ := hk
  rcases h.2 with ⟨hv, _⟩ | ⟨g, cap', cur, hv, hb, hg, _⟩
  · simp only [Value.slice.injEq] at hv; rw [hv.1] at e; cases e
  · simp only [Value.slice.injEq] at hv; rw [hv.1] at e; cases e; exact (Array.getElem?_eq_some_iff.1 hg).1
def x7 : MS := ⟨3, 1, 1, 3, 1, 0, [1, 2, 3, 4, 5], 7⟩
def x8 : MS := ⟨3, 1, 1, 3, 1, 0, [1, 2, 3, 4, 5], 8⟩
def T0 : TS Bk := tNew Bk [1, 2, 3, 4, 5] 3
def U0 : TS Unit := tNew Unit [1, 2, 3, 4, 5] 3
/-- Bytes that a machine holds: where they lie, what they are. -/
abbrev Hb := Option Addr × Nat × List Int
structure Held (I N : Nat → Prop) (W : World) (H : List Hb) : Prop where
  ok : ∀ h ∈ H, OwnB W 0 h.1 h.2.1 h.2.2 ∧ ∀ k, At h.1 k → I k ∧ ¬ N k
theorem OwnB.lower0 {W : World} {b : Nat} {a : Option Addr} {c : Nat} {zs : List Int} (h : OwnB W b a c zs) : OwnB W 0 a c zs := Own.lower h (Nat.zero_le _)
theorem OwnB.keptS {S : Nat → Prop} {W W' : World} {b : Nat} {a : Option Addr} {c : Nat} {zs : List Int} (h : OwnB W b a c zs) (hk : Kept S W W') (hS : ∀ k, At a k → ¬ S k) : OwnB W' b a c zs := Own.kept h hk hS
theorem Held.to {S I I' N N' : Nat → Prop} {W W' : World} {H : List Hb} (h : Held I N W H) (hk : Kept S W W') (hS : ∀ k, I k → k < W.heap.size → ¬ N k → ¬ S k ∧ I' k ∧ ¬ N' k) : Held I' N' W' H :=
  ⟨fun x hx => by
    obtain ⟨h1, h2⟩ := h.ok x hx
    exact ⟨h1.keptS hk (fun k e => (hS k (h2 k e).1 (h1.lt e) (h2 k e).2).1), fun k e => (hS k (h2 k e).1 (h1.lt e) (h2 k e).2).2⟩⟩
theorem Held.add {I N : Nat → Prop} {W : World} {H : List Hb} (h : Held I N W H) {x : Hb} (ho : OwnB W 0 x.1 x.2.1 x.2.2) (hx : ∀ k, At x.1 k → I k ∧ ¬ N k) : Held I N W (H ++ [x]) :=
  ⟨fun y hy => by
    rcases List.mem_append.1 hy with hy | hy
    · exact h.ok y hy
    · rw [List.mem_singleton.1 hy]; exact ⟨ho, hx⟩⟩
/-- A machine that has not begun. -/
structure Fre (I : Nat → Prop) (ai : TypeId) (av : Value) (H : List Hb) (m : Nat) (W : World) : Prop where
  ex : ∃ a cap, Mach W m a cap x7 109 (.agg #[.iface ai av]) ∧ Held I (MB m a) W H ∧ ∀ k, MB m a k → I k
/-- .. that asks. -/
structure Ask (I : Nat → Prop) (ai : TypeId) (av : Value) (H : List Hb) (m : Nat) (X : TS Bk) (W : World) : Prop where
  ex : ∃ a cap tb bb ct at', Mach W m a cap x7 150 (.agg #[.iface ai av, .pointer (some ⟨tb, 0, none⟩)]) ∧ Tal 153 ansB W tb bb at' ct X ∧ Held I (fun k => MB m a k ∨ TB tb bb at' k) W H ∧ (∀ k, MB m a k → I k) ∧ (∀ k, TB tb bb at' k → I k) ∧ ∀ k, MB m a k → ¬ TB tb bb at' k
/-- .. that lays down. -/
structure Lay (I : Nat → Prop) (n c : Int) (pa : Option Addr) (pl pk : Nat) (H : List Hb) (m : Nat) (W : World) : Prop where
  ex : ∃ a cap sn sc da dl dc ub ubb ut ua, Mach W m a cap x8 163 (layV n c pa pl pk 0 sn sc da dl dc ub) ∧ Tal 117 ansU W ub ubb ua ut U0 ∧ Held I (fun k => k = m) W H ∧ (∀ k, MB m a k → I k) ∧ ∀ k, TB ub ubb ua k → I k
/-- .. that has ended. -/
structure Fin (I : Nat → Prop) (da : Option Addr) (dl dc : Nat) (H : List Hb) (m : Nat) (W : World) : Prop where
  ex : ∃ a cap sn sc, Mach W m a cap x7 145 (endV 0 sn sc da dl dc) ∧ Held I (fun k => k = m) W H ∧ ∀ k, MB m a k → I k
section
variable {S I I' : Nat → Prop} {ai : TypeId} {av : Value} {H : List Hb} {m : Nat} {X : TS Bk} {W W' : World} {n c : Int} {pa : Option Addr} {pl pk : Nat}
theorem Fre.kept (h : Fre I ai av H m W) (hk : Kept S W W') (hS : ∀ k, I k → k < W.heap.size → ¬ S k ∧ I' k) : Fre I' ai av H m W' := by
  obtain ⟨a, cap, h1, h2, h3⟩ := h
  have hl : ∀ k, MB m a k → k < W.heap.size := fun k e => by
    rcases e with rfl | e
    · exact h1.box.lt
    · exact Own.lt0 h1.row e
  exact ⟨a, cap, h1.kept hk (fun k e => (hS k (h3 k e) (hl k e)).1), h2.to hk (fun k e l ne => ⟨(hS k e l).1, (hS k e l).2, ne⟩), fun k e => (hS k (h3 k e) (hl k e)).2⟩
theorem Lay.kept (h : Lay I n c pa pl pk H m W) (hk : Kept S W W') (hS : ∀ k, I k → k < W.heap.size → ¬ S k ∧ I' k) : Lay I' n c pa pl pk H m W' := by
  obtain ⟨a, cap, sn, sc, da, dl, dc, ub, ubb, ut, ua, h1, h2, h3, h4, h5⟩ := h
  have hl : ∀ k, MB m a k → k < W.heap.size := fun k e => by
    rcases e with rfl | e
    · exact h1.box.lt
    · exact Own.lt0 h1.row e
  have hl2 : ∀ k, TB ub ubb ua k → k < W.heap.size := fun k e => by
    rcases e with rfl | rfl | e
    · exact h2.box.lt
    · exact h2.map.lt
    · exact Own.lt0 h2.row e
  exact ⟨a, cap, sn, sc, da, dl, dc, ub, ubb, ut, ua, h1.kept hk (fun k e => (hS k (h4 k e) (hl k e)).1), h2.kept hk (fun k e => (hS k (h5 k e) (hl2 k e)).1), h3.to hk (fun k e l ne => ⟨(hS k e l).1, (hS k e l).2, ne⟩), fun k e => (hS k (h4 k e) (hl k e)).2, fun k e => (hS k (h5 k e) (hl2 k e)).2⟩
theorem Fin.kept {da : Option Addr} {dl dc : Nat} (h : Fin I da dl dc H m W) (hk : Kept S W W') (hS : ∀ k, I k → k < W.heap.size → ¬ S k ∧ I' k) : Fin I' da dl dc H m W' := by
  obtain ⟨a, cap, sn, sc, h1, h3, h4⟩ := h
  have hl : ∀ k, MB m a k → k < W.heap.size := fun k e => by
    rcases e with rfl | e
    · exact h1.box.lt
    · exact Own.lt0 h1.row e
  exact ⟨a, cap, sn, sc, h1.kept hk (fun k e => (hS k (h4 k e) (hl k e)).1), h3.to hk (fun k e l ne => ⟨(hS k e l).1, (hS k e l).2, ne⟩), fun k e => (hS k (h4 k e) (hl k e)).2⟩
theorem Ask.kept (h : Ask I ai av H m X W) (hk : Kept S W W') (hS : ∀ k, I k → k < W.heap.size → ¬ S k ∧ I' k) : Ask I' ai av H m X W' := by
  obtain ⟨a, cap, tb, bb, ct, at', h1, h2, h3, h4, h5, h6⟩ := h
  have hl : ∀ k, MB m a k → k < W.heap.size := fun k e => by
    rcases e with rfl | e
    · exact h1.box.lt
    · exact Own.lt0 h1.row e
  have hl2 : ∀ k, TB tb bb at' k → k < W.heap.size := fun k e => by
    rcases e with rfl | rfl | e
    · exact h2.box.lt
    · exact h2.map.lt
    · exact Own.lt0 h2.row e
  exact ⟨a, cap, tb, bb, ct, at', h1.kept hk (fun k e => (hS k (h4 k e) (hl k e)).1), h2.kept hk (fun k e => (hS k (h5 k e) (hl2 k e)).1), h3.to hk (fun k e l ne => ⟨(hS k e l).1, (hS k e l).2, ne⟩), fun k e => (hS k (h4 k e) (hl k e)).2, fun k e => (hS k (h5 k e) (hl2 k e)).2, h6⟩
end
theorem needs7 : needI x7 = 3 := by decide
section
variable {I : Nat → Prop} {ai : TypeId} {av : Value} {H : List Hb} {m : Nat} {X : TS Bk} {W : World} {n c : Int} {pa : Option Addr} {pl pk : Nat}
theorem begin_f (h : Fre I ai av H m W) : Calls Try.prog 61 #[.pointer (some ⟨m, 0, none⟩)] W (fun e W' => (∃ la lc, e = .returned (.slice la 5 lc)) ∧ Ask (fun k => I k ∨ W.heap.size ≤ k) ai av H m T0 W' ∧ Kept (Only m) W W') := by
  obtain ⟨a, cap, h1, h2, h3⟩ := h
  have hl : ∀ k, MB m a k → k < W.heap.size := fun k e => by
    rcases e with rfl | e
    · exact h1.box.lt
    · exact Own.lt0 h1.row e
  refine (begin_any m a cap x7 ai av W h1 (by decide) (by decide) (by decide)).mono ?_
  rintro e W' ⟨a', cap', qs, tb, bb, at', ct, rfl, hq, hM, hMa, hT, hB, hk⟩
  have hql : qs.length = 5 := by have := congrArg List.length hq; simpa [x7] using this
  rw [hql]
  refine ⟨⟨_, _, rfl⟩, ⟨a, cap, tb, bb, ct, at', hMa, ?_, h2.to hk (fun k e l ne => ⟨fun f => ne (.inl f), .inl e, fun f => ?_⟩), fun k e => .inl (h3 k e), fun k e => .inr (hB k e), fun k e f => ?_⟩, hk⟩
  · rw [needs7] at hT; exact hT
  · rcases f with f | f
    · exact ne f
    · have := hB k f; omega
  · have := hl k e; have := hB k f; omega
theorem ask_no (h : Ask I ai av H m X W) (d : MD) (hok : MdOk d) (kn kc : Int) (kz : List Int)
    (hc : ∀ a cap tb bb ct at' wr, Mach wr m a cap x7 150 (.agg #[.iface ai av, .pointer (some ⟨tb, 0, none⟩)]) → Tal 153 ansB wr tb bb at' ct X → (∀ k, MB m a k → ¬ Tb2 tb bb k) → Kept No W wr → Calls Try.prog 84 #[.agg #[.iface ai av, .pointer (some ⟨tb, 0, none⟩)], .pointer (some ⟨m, 0, none⟩), .agg d.cells] wr (TakeNo wr m a cap x7 150 (.agg #[.iface ai av, .pointer (some ⟨tb, 0, none⟩)]) tb bb ct at' X d.fi kn kc kz)) :
    Calls Try.prog 64 #[.pointer (some ⟨m, 0, none⟩), .agg d.cells] W (fun e W' => e = .returned (.slice none 0 0) ∧ ∃ ka kk, Ask (fun k => I k ∨ W.heap.size ≤ k) ai av (H ++ [(ka, kk, kz)]) m (takeS X d.fi ⟨kn, kc, ka, kz.length, kk⟩) W' ∧ Kept I W W') := by
  obtain ⟨a, cap, tb, bb, ct, at', h1, h2, h3, h4, h5, h6⟩ := h
  have hl : ∀ k, MB m a k → k < W.heap.size := fun k e => by
    rcases e with rfl | e
    · exact h1.box.lt
    · exact Own.lt0 h1.row e
  have hl2 : ∀ k, TB tb bb at' k → k < W.heap.size := fun k e => by
    rcases e with rfl | rfl | e
    · exact h2.box.lt
    · exact h2.map.lt
    · exact Own.lt0 h2.row e
  have t2 : ∀ k, Tb2 tb bb k → TB tb bb at' k := fun k e => by
    rcases e with rfl | rfl
    · exact .inl rfl
    · exact .inr (.inl rfl)
  refine machTakeA_any m a cap x7 _ _ d W _ h1 hok (fun w => meth_takeA _ _ w) (fun wr hk => ?_)
  refine (hc a cap tb bb ct at' wr (h1.no hk) (h2.no hk) (fun k e f => h6 k e (t2 k f)) hk).mono ?_
  rintro e W' ⟨ka, kk, rfl, hT, hM, hO, hK⟩
  have hkk : Kept (Tb2 tb bb) W W' := hk.of_no.then hK
  have hs := hk.size
  refine ⟨⟨_, _, _, rfl⟩, rfl, ka, kk, ⟨a, cap, tb, bb, ct, at', hM, hT, (h3.to hkk (fun k e l ne => ⟨fun f => ne (.inr (t2 k f)), .inl e, ne⟩)).add hO.lower0 (fun k e => ?_), fun k e => .inl (h4 k e), fun k e => .inl (h5 k e), h6⟩, hkk.mono (fun k _ e => h5 k (t2 k e))⟩
  have hb := Own.base hO e
  refine ⟨.inr (by omega), fun f => ?_⟩
  rcases f with f | f
  · have := hl k f; omega
  · have := hl2 k f; omega
theorem ask_lay (h : Ask I ai av H m X W) (d : MD) (hok : MdOk d) (kn kc : Int) (kz : List Int) (pn pc : Bk → Int) (pa : Bk → Option Addr) (pl pk : Bk → Nat) (sn sc : Bk → Int) (da : Bk → Option Addr) (dl dc : Bk → Nat) (pz : Bk → List Int)
    (hc : ∀ a cap tb bb ct at' wr, Mach wr m a cap x7 150 (.agg #[.iface ai av, .pointer (some ⟨tb, 0, none⟩)]) → Tal 153 ansB wr tb bb at' ct X → (∀ k, MB m a k → ¬ Tb2 tb bb k) → Held I (fun k => MB m a k ∨ TB tb bb at' k) wr H → Kept No W wr → Calls Try.prog 84 #[.agg #[.iface ai av, .pointer (some ⟨tb, 0, none⟩)], .pointer (some ⟨m, 0, none⟩), .agg d.cells] wr (TakeLay wr m a cap x7 tb bb ct at' X d.fi kn kc kz pn pc pa pl pk sn sc da dl dc pz)) :
    Calls Try.prog 64 #[.pointer (some ⟨m, 0, none⟩), .agg d.cells] W (fun e W' => ∃ ka kk la lc qs b B, b = (⟨kn, kc, ka, kz.length, kk⟩ : Bk) ∧ e = .returned (.slice la 5 lc) ∧ qs.length = 5 ∧ W.heap.size ≤ B ∧ Msgs W' B la lc x8 ⟨2, pn b, pc b, pl b⟩ (pz b) qs ∧ Lay (fun k => I k ∨ W.heap.size ≤ k) (pn b) (pc b) (pa b) (pl b) (pk b) (H ++ [(ka, kk, kz)]) m W' ∧ Kept I W W') := by
  obtain ⟨a, cap, tb, bb, ct, at', h1, h2, h3, h4, h5, h6⟩ := h
  have hl : ∀ k, MB m a k → k < W.heap.size := fun k e => by
    rcases e with rfl | e
    · exact h1.box.lt
    · exact Own.lt0 h1.row e
  have t2 : ∀ k, Tb2 tb bb k → TB tb bb at' k := fun k e => by
    rcases e with rfl | rfl
    · exact .inl rfl
    · exact .inr (.inl rfl)
  refine machTakeA_any m a cap x7 _ _ d W _ h1 hok (fun w => meth_takeA _ _ w) (fun wr hk => ?_)
  refine (hc a cap tb bb ct at' wr (h1.no hk) (h2.no hk) (fun k e f => h6 k e (t2 k f)) (h3.to hk (fun k e _ ne => ⟨fun f => f, e, ne⟩)) hk).mono ?_
  rintro e W' ⟨ka, kk, ub, ubb, ut, ua, a', cap', qs, b, hb, rfl, hq, hMs, hM, hT, _, hO, hU, hK⟩
  have hql : qs.length = 5 := by have := congrArg List.length hq; simpa [x7] using this
  have hkk : Kept (fun k => k = m ∨ Tb2 tb bb k) W W' := hk.of_no.then hK
  have hs := hk.size
  rw [needs7] at hT
  refine ⟨⟨_, _, _, rfl⟩, ka, kk, a', cap', qs, b, wr.heap.size, hb, by rw [hql], hql, hs, hMs, ⟨a, cap, _, _, _, _, _, ub, ubb, ut, ua, hM, hT, (h3.to hkk (fun k e l ne => ⟨fun f => ?_, .inl e, fun f => ne (.inl (.inl f))⟩)).add hO.lower0 (fun k e => ?_), fun k e => .inl (h4 k e), fun k e => .inr (by have := hU k e; omega)⟩, hkk.mono (fun k _ e => ?_)⟩
  · rcases f with f | f
    · exact ne (.inl (.inl f))
    · exact ne (.inr (t2 k f))
  · have hb := Own.base hO e
    refine ⟨.inr (by omega), fun f => ?_⟩
    have := hl m (.inl rfl)
    have f : k = m := f
    omega
  · rcases e with e | e
    · exact h4 k (.inl e)
    · exact h5 k (t2 k e)
theorem ask_fin (h : Ask I ai av H m X W) (d : MD) (hok : MdOk d) (kn kc : Int) (kz : List Int) (sn sc : Bk → Int) (da : Bk → Option Addr) (dl dc : Bk → Nat)
    (hc : ∀ a cap tb bb ct at' wr, Mach wr m a cap x7 150 (.agg #[.iface ai av, .pointer (some ⟨tb, 0, none⟩)]) → Tal 153 ansB wr tb bb at' ct X → (∀ k, MB m a k → ¬ Tb2 tb bb k) → Kept No W wr → Calls Try.prog 84 #[.agg #[.iface ai av, .pointer (some ⟨tb, 0, none⟩)], .pointer (some ⟨m, 0, none⟩), .agg d.cells] wr (TakeEnd wr m a cap x7 tb bb ct at' X d.fi kn kc kz sn sc da dl dc)) :
    Calls Try.prog 64 #[.pointer (some ⟨m, 0, none⟩), .agg d.cells] W (fun e W' => ∃ ka kk b, b = (⟨kn, kc, ka, kz.length, kk⟩ : Bk) ∧ e = .returned (.slice none 0 0) ∧ Fin (fun k => I k ∨ W.heap.size ≤ k) (da b) (dl b) (dc b) (H ++ [(ka, kk, kz)]) m W' ∧ Kept I W W') := by
  obtain ⟨a, cap, tb, bb, ct, at', h1, h2, h3, h4, h5, h6⟩ := h
  have hl : ∀ k, MB m a k → k < W.heap.size := fun k e => by
    rcases e with rfl | e
    · exact h1.box.lt
    · exact Own.lt0 h1.row e
  have t2 : ∀ k, Tb2 tb bb k → TB tb bb at' k := fun k e => by
    rcases e with rfl | rfl
    · exact .inl rfl
    · exact .inr (.inl rfl)
  refine machTakeA_any m a cap x7 _ _ d W _ h1 hok (fun w => meth_takeA _ _ w) (fun wr hk => ?_)
  refine (hc a cap tb bb ct at' wr (h1.no hk) (h2.no hk) (fun k e f => h6 k e (t2 k f)) hk).mono ?_
  rintro e W' ⟨ka, kk, b, hb, rfl, hM, _, hO, hK⟩
  have hkk : Kept (fun k => k = m ∨ Tb2 tb bb k) W W' := hk.of_no.then hK
  have hs := hk.size
  refine ⟨⟨_, _, _, rfl⟩, ka, kk, b, hb, rfl, ⟨a, cap, _, _, hM, (h3.to hkk (fun k e l ne => ⟨fun f => ?_, .inl e, fun f => ne (.inl (.inl f))⟩)).add hO.lower0 (fun k e => ?_), fun k e => .inl (h4 k e)⟩, hkk.mono (fun k _ e => ?_)⟩
  · rcases f with f | f
    · exact ne (.inl (.inl f))
    · exact ne (.inr (t2 k f))
  · have hb := Own.base hO e
    refine ⟨.inr (by omega), fun f => ?_⟩
    have := hl m (.inl rfl)
    have f : k = m := f
    omega
  · rcases e with e | e
    · exact h4 k (.inl e)
    · exact h5 k (t2 k e)
theorem lay_tick (h : Lay I n c pa pl pk H m W) (pz : List Int) (hz : pz.length = pl) (hzl : pl ≤ 140737488355328) (hb : Bytes W pa pz) :
    Calls Try.prog 65 #[.pointer (some ⟨m, 0, none⟩)] W (fun e W' => ∃ la lc qs, e = .returned (.slice la 5 lc) ∧ qs.length = 5 ∧ Msgs W' W.heap.size la lc x8 ⟨2, n, c, pl⟩ pz qs ∧ Kept No W W') := by
  obtain ⟨a, cap, sn, sc, da, dl, dc, ub, ubb, ut, ua, h1, h2, h3, h4, h5⟩ := h
  refine (machTickL_any m a cap x8 n c pa pl pk 0 sn sc da dl dc ub ubb ut ua U0 pz W h1 h2 (by decide) hz hzl hb).mono ?_
  rintro e W' ⟨la, lc, qs, rfl, hq, hM, hk⟩
  have hql : qs.length = 5 := by have := congrArg List.length hq; rw [List.length_map] at this; rw [this]; decide
  exact ⟨la, lc, qs, by rw [hql], hql, hM, hk⟩
theorem fin_tick {da : Option Addr} {dl dc : Nat} (h : Fin I da dl dc H m W) : Calls Try.prog 65 #[.pointer (some ⟨m, 0, none⟩)] W (fun e W' => e = .returned (.slice none 0 0) ∧ Kept No W W') := by
  obtain ⟨a, cap, sn, sc, h1, h2, h3⟩ := h
  exact machTickE_any m a cap x7 0 sn sc da dl dc W h1
theorem fin_done {da : Option Addr} {dl dc : Nat} (h : Fin I da dl dc H m W) (zs : List Int) (hz : zs.length = dl) (hzl : dl ≤ 140737488355328) (hb : Bytes W da zs) : Calls Try.prog 62 #[.pointer (some ⟨m, 0, none⟩)] W (fun e W' => ∃ sn sc ra rc, e = .returned (.tuple #[.agg (resC 0 sn sc ra zs.length rc), .bool true]) ∧ OwnB W' W.heap.size ra rc zs ∧ Kept No W W') := by
  obtain ⟨a, cap, sn, sc, h1, h2, h3⟩ := h
  refine (machDoneE_any m a cap x7 0 sn sc da dl dc zs W h1 hz hzl hb).mono ?_
  rintro e W' ⟨ra, rc, rfl, ho, hk⟩
  exact ⟨sn, sc, ra, rc, rfl, ho, hk⟩
end

def wv (da : Option Addr) (n dc : Nat) : Value := .agg #[.int .i64 3, .slice da n dc]
def rv : Value := .agg #[.int .i64 4]
/-- What the three answers come to. -/
def T1 (b1 : Bk) : TS Bk := takeS T0 1 b1
def T2 (b1 b2 : Bk) : TS Bk := takeS (T1 b1) 2 b2
theorem tb1 : takeB T0 1 = false := by decide
theorem T1_v (b1 : Bk) : T1 b1 = putS T0 1 b1 := by unfold T1 takeS; rw [if_pos (by decide)]
theorem T1_cnt (b1 : Bk) : cnt (T1 b1) = 1 := by rw [T1_v]; rfl
theorem T1_may (b1 : Bk) : mayB (T1 b1) 2 = true := by rw [T1_v]; rfl
theorem tb2 (b1 : Bk) : takeB (T1 b1) 2 = false := by rw [T1_v]; rfl
theorem T2_v (b1 b2 : Bk) : T2 b1 b2 = putS (putS T0 1 b1) 2 b2 := by unfold T2 takeS; rw [if_pos (T1_may b1), T1_v]
theorem tb3 (b1 b2 : Bk) : takeB (T2 b1 b2) 3 = true := by rw [T2_v]; rfl
theorem T3_v (b1 b2 b : Bk) : takeS (T2 b1 b2) 3 b = putS (putS (putS T0 1 b1) 2 b2) 3 b := by
  unfold takeS
  rw [if_pos (by rw [T2_v]; rfl), T2_v]
theorem T3_cnt (b1 b2 b : Bk) : cnt (takeS (T2 b1 b2) 3 b) = 3 := by rw [T3_v]; rfl
theorem T3_got (b1 b2 b : Bk) : (gotL (takeS (T2 b1 b2) 3 b)).map Prod.snd = [b1, b2, b] := by rw [T3_v]; rfl
theorem best_up (a1 a2 b : Bk) (h1 : a1.n = 1 ∧ a1.c = 2) (h2 : a2.n = 2 ∧ a2.c = 2) (hn : b.n = 3) (hc : b.c = 2) : bestP [a1, a2, b] = b := by
  obtain ⟨n1, c1, x1, y1, z1⟩ := a1
  obtain ⟨n2, c2, x2, y2, z2⟩ := a2
  obtain ⟨n3, c3, x3, y3, z3⟩ := b
  simp only at h1 h2 hn hc
  obtain ⟨rfl, rfl⟩ := h1
  obtain ⟨rfl, rfl⟩ := h2
  subst hn hc
  rfl
theorem best_z (a1 a2 b : Bk) (h1 : a1.n = 0 ∧ a1.c = 0) (h2 : a2.n = 0 ∧ a2.c = 0) (hn : b.n = 0) (hc : b.c = 0) : bestP [a1, a2, b] = a1 ∧ [a1, a2, b].any (otherB a1) = false := by
  obtain ⟨n1, c1, x1, y1, z1⟩ := a1
  obtain ⟨n2, c2, x2, y2, z2⟩ := a2
  obtain ⟨n3, c3, x3, y3, z3⟩ := b
  simp only at h1 h2 hn hc
  obtain ⟨rfl, rfl⟩ := h1
  obtain ⟨rfl, rfl⟩ := h2
  subst hn hc
  exact ⟨rfl, rfl⟩
theorem any_up (a1 a2 b : Bk) (h1 : a1.n = 1 ∧ a1.c = 2) (hn : b.n = 3) (hc : b.c = 2) : [a1, a2, b].any (otherB b) = true := by
  simp [otherB, h1.1, h1.2, hn, hc]
section
variable {I : Nat → Prop} {H : List Hb} {m : Nat} {W : World} {da : Option Addr} {n dc : Nat}
theorem w_take1 (h : Ask I 96 (wv da n dc) H m T0 W) (ba : Option Addr) (bl bk : Nat) : Calls Try.prog 64 #[.pointer (some ⟨m, 0, none⟩), .agg (valD 1 7 1 2 ba bl bk).cells] W (fun e W' => e = .returned (.slice none 0 0) ∧ ∃ ka kk, Ask (fun k => I k ∨ W.heap.size ≤ k) 96 (wv da n dc) (H ++ [(ka, kk, [])]) m (T1 ⟨1, 2, ka, 0, kk⟩) W' ∧ Kept I W W') :=
  ask_no h _ (valD_ok _ _ _ _ _ _ _) 1 2 [] (fun a cap tb bb ct at' wr hM hT hd hk => takeA_noW m a cap x7 _ tb bb ct at' T0 _ 1 2 [] wr hM hT (valD_ok _ _ _ _ _ _ _) rfl (meth_keepW 3 da n dc) (fun wr' _ => keepW_any 3 da n dc _ wr') tb1 hd)
theorem w_take2 {b1 : Bk} (h : Ask I 96 (wv da n dc) H m (T1 b1) W) (ba : Option Addr) (bl bk : Nat) : Calls Try.prog 64 #[.pointer (some ⟨m, 0, none⟩), .agg (valD 2 7 2 2 ba bl bk).cells] W (fun e W' => e = .returned (.slice none 0 0) ∧ ∃ ka kk, Ask (fun k => I k ∨ W.heap.size ≤ k) 96 (wv da n dc) (H ++ [(ka, kk, [])]) m (T2 b1 ⟨2, 2, ka, 0, kk⟩) W' ∧ Kept I W W') :=
  ask_no h _ (valD_ok _ _ _ _ _ _ _) 2 2 [] (fun a cap tb bb ct at' wr hM hT hd hk => takeA_noW m a cap x7 _ tb bb ct at' _ _ 2 2 [] wr hM hT (valD_ok _ _ _ _ _ _ _) rfl (meth_keepW 3 da n dc) (fun wr' _ => keepW_any 3 da n dc _ wr') (tb2 b1) hd)
theorem w_take3 {b1 b2 : Bk} (zs : List Int) (hb1 : b1.n = 1 ∧ b1.c = 2) (hb2 : b2.n = 2 ∧ b2.c = 2) (hz : zs.length = n) (hn : n ≤ 140737488355328) (hH : (da, dc, zs) ∈ H) (h : Ask I 96 (wv da n dc) H m (T2 b1 b2) W) (ba : Option Addr) (bl bk : Nat) : Calls Try.prog 64 #[.pointer (some ⟨m, 0, none⟩), .agg (valD 3 7 3 2 ba bl bk).cells] W (fun e W' => ∃ la lc qs B ka kk, e = .returned (.slice la 5 lc) ∧ qs.length = 5 ∧ W.heap.size ≤ B ∧ Msgs W' B la lc x8 ⟨2, 4, 3, n⟩ zs qs ∧ Lay (fun k => I k ∨ W.heap.size ≤ k) 4 3 da n dc (H ++ [(ka, kk, [])]) m W' ∧ Kept I W W') := by
  refine (ask_lay h _ (valD_ok _ _ _ _ _ _ _) 3 2 [] (fun _ => 4) (fun _ => 3) (fun _ => da) (fun _ => n) (fun _ => dc) (fun _ => 4) (fun _ => 3) (fun _ => none) (fun _ => 0) (fun _ => 0) (fun _ => zs) (fun a cap tb bb ct at' wr hM hT hd hHd hk => takeA_layW m a cap x7 _ tb bb ct at' _ _ 3 2 [] wr hM hT (valD_ok _ _ _ _ _ _ _) rfl (meth_keepW 3 da n dc) (meth_setW 3 da n dc) (fun wr' _ => keepW_any 3 da n dc _ wr') (tb3 b1 b2) hd (fun b => by rw [show (valD 3 7 3 2 ba bl bk).fi = 3 from rfl, T3_cnt]; exact ⟨by decide, by decide⟩) _ _ _ _ _ _ _ _ _ _ _ (fun ka kk => ⟨hz, hn⟩) (fun ka kk wr' hk' _ => ?_) (by decide) (by decide) (by decide) (fun b hbn hbc wr' => ?_))).mono ?_
  · obtain ⟨h1, h2⟩ := hHd.ok _ hH
    refine ⟨(h1.keptS hk' (fun k e f => (h2 k e).2 (.inr ?_))).bytes, fun e => (h2 m e).2 (.inl (.inl rfl))⟩
    rcases f with f | f
    · exact .inl f
    · exact .inr (.inl f)
  · rw [show (valD 3 7 3 2 ba bl bk).fi = 3 from rfl, T3_got, best_up b1 b2 b hb1 hb2 hbn hbc]
    have := settleW_any 3 da n dc b.n b.c b.a b.l b.k (!([b1, b2, b].any (otherB b))) wr' (by rw [hbn]; decide) (by rw [hbn]; decide)
    rw [hbn] at this
    unfold bkV
    rw [hbn]
    exact this
  · rintro e W' ⟨ka, kk, la, lc, qs, b, B, hb, he, hq, hB, hM, hL, hK⟩
    exact ⟨la, lc, qs, B, ka, kk, he, hq, hB, hM, hL, hK⟩
theorem r_take1 (h : Ask I 93 rv H m T0 W) (ba : Option Addr) (bl bk : Nat) (bz : List Int) (hl : bz.length = bl) (hbl : bl ≤ 140737488355328) (hb : Bytes W ba bz) : Calls Try.prog 64 #[.pointer (some ⟨m, 0, none⟩), .agg (valD 1 7 1 2 ba bl bk).cells] W (fun e W' => e = .returned (.slice none 0 0) ∧ ∃ ka kk, Ask (fun k => I k ∨ W.heap.size ≤ k) 93 rv (H ++ [(ka, kk, bz)]) m (T1 ⟨1, 2, ka, bz.length, kk⟩) W' ∧ Kept I W W') :=
  ask_no h _ (valD_ok _ _ _ _ _ _ _) 1 2 bz (fun a cap tb bb ct at' wr hM hT hd hk => takeA_noR m a cap x7 _ tb bb ct at' T0 _ 1 2 bz wr hM hT (valD_ok _ _ _ _ _ _ _) rfl (meth_keepR 4) (fun wr' hk' => keepR1_any 4 _ bz wr' (by intro h; exact absurd h.1 (by show ¬ (_ : Int) = 0; simp [valD])) hl hbl ((hb.no hk).no hk')) tb1 hd)
theorem r_take2 {b1 : Bk} (h : Ask I 93 rv H m (T1 b1) W) (ba : Option Addr) (bl bk : Nat) (bz : List Int) (hl : bz.length = bl) (hbl : bl ≤ 140737488355328) (hb : Bytes W ba bz) : Calls Try.prog 64 #[.pointer (some ⟨m, 0, none⟩), .agg (valD 2 7 2 2 ba bl bk).cells] W (fun e W' => e = .returned (.slice none 0 0) ∧ ∃ ka kk, Ask (fun k => I k ∨ W.heap.size ≤ k) 93 rv (H ++ [(ka, kk, bz)]) m (T2 b1 ⟨2, 2, ka, bz.length, kk⟩) W' ∧ Kept I W W') :=
  ask_no h _ (valD_ok _ _ _ _ _ _ _) 2 2 bz (fun a cap tb bb ct at' wr hM hT hd hk => takeA_noR m a cap x7 _ tb bb ct at' _ _ 2 2 bz wr hM hT (valD_ok _ _ _ _ _ _ _) rfl (meth_keepR 4) (fun wr' hk' => keepR1_any 4 _ bz wr' (by intro h; exact absurd h.1 (by show ¬ (_ : Int) = 0; simp [valD])) hl hbl ((hb.no hk).no hk')) (tb2 b1) hd)
theorem r_take3 {b1 b2 : Bk} (hb1 : b1.n = 1 ∧ b1.c = 2) (hb2 : b2.n = 2 ∧ b2.c = 2) (h : Ask I 93 rv H m (T2 b1 b2) W) (ba : Option Addr) (bl bk : Nat) (bz : List Int) (hl : bz.length = bl) (hbl : bl ≤ 140737488355328) (hb : Bytes W ba bz) : Calls Try.prog 64 #[.pointer (some ⟨m, 0, none⟩), .agg (valD 3 7 3 2 ba bl bk).cells] W (fun e W' => ∃ la lc qs B ka kk, e = .returned (.slice la 5 lc) ∧ qs.length = 5 ∧ W.heap.size ≤ B ∧ Msgs W' B la lc x8 ⟨2, 3, 2, bz.length⟩ bz qs ∧ Lay (fun k => I k ∨ W.heap.size ≤ k) 3 2 ka bz.length kk (H ++ [(ka, kk, bz)]) m W' ∧ Kept I W W') := by
  refine (ask_lay h _ (valD_ok _ _ _ _ _ _ _) 3 2 bz (fun b => b.n) (fun b => b.c) (fun b => b.a) (fun b => b.l) (fun b => b.k) (fun b => b.n) (fun b => b.c) (fun b => b.a) (fun b => b.l) (fun b => b.k) (fun _ => bz) (fun a cap tb bb ct at' wr hM hT hd hHd hk => takeA_layR m a cap x7 _ tb bb ct at' _ _ 3 2 bz wr hM hT (valD_ok _ _ _ _ _ _ _) rfl (meth_keepR 4) (meth_setR 4) (fun wr' hk' => keepR1_any 4 _ bz wr' (by intro h; exact absurd h.1 (by show ¬ (_ : Int) = 0; simp [valD])) hl hbl ((hb.no hk).no hk')) (tb3 b1 b2) hd (fun b => by rw [show (valD 3 7 3 2 ba bl bk).fi = 3 from rfl, T3_cnt]; exact ⟨by decide, by decide⟩) _ _ _ _ _ _ _ _ _ _ _ (fun ka kk => ⟨rfl, by show bz.length ≤ _; omega⟩) (fun ka kk wr' hk' ho => ?_) (by decide) (by decide) (by decide) (fun b hbn hbc wr' => ?_))).mono ?_
  · refine ⟨ho.bytes, fun e => ?_⟩
    have h1 := Own.base ho e
    have h2 := hM.box.lt
    omega
  · rw [show (valD 3 7 3 2 ba bl bk).fi = 3 from rfl, T3_got, best_up b1 b2 b hb1 hb2 hbn hbc, any_up b1 b2 b hb1 hbn hbc]
    exact settleR_any 4 b.n b.c b.a b.l b.k false wr'
  · rintro e W' ⟨ka, kk, la, lc, qs, b, B, rfl, he, hq, hB, hM, hL, hK⟩
    exact ⟨la, lc, qs, B, ka, kk, he, hq, hB, hM, hL, hK⟩
theorem z_take1 (h : Ask I 93 rv H m T0 W) (ba : Option Addr) (bl bk : Nat) : Calls Try.prog 64 #[.pointer (some ⟨m, 0, none⟩), .agg (valD 1 7 0 0 ba bl bk).cells] W (fun e W' => e = .returned (.slice none 0 0) ∧ ∃ ka kk, Ask (fun k => I k ∨ W.heap.size ≤ k) 93 rv (H ++ [(ka, kk, [0, 0, 0, 0])]) m (T1 ⟨0, 0, ka, 4, kk⟩) W' ∧ Kept I W W') :=
  ask_no h _ (valD_ok _ _ _ _ _ _ _) 0 0 [0, 0, 0, 0] (fun a cap tb bb ct at' wr hM hT hd hk => takeA_noR m a cap x7 _ tb bb ct at' T0 _ 0 0 [0, 0, 0, 0] wr hM hT (valD_ok _ _ _ _ _ _ _) rfl (meth_keepR 4) (fun wr' hk' => keepR0_any 4 _ wr' (by decide) (by decide) rfl rfl) tb1 hd)
theorem z_take2 {b1 : Bk} (h : Ask I 93 rv H m (T1 b1) W) (ba : Option Addr) (bl bk : Nat) : Calls Try.prog 64 #[.pointer (some ⟨m, 0, none⟩), .agg (valD 2 7 0 0 ba bl bk).cells] W (fun e W' => e = .returned (.slice none 0 0) ∧ ∃ ka kk, Ask (fun k => I k ∨ W.heap.size ≤ k) 93 rv (H ++ [(ka, kk, [0, 0, 0, 0])]) m (T2 b1 ⟨0, 0, ka, 4, kk⟩) W' ∧ Kept I W W') :=
  ask_no h _ (valD_ok _ _ _ _ _ _ _) 0 0 [0, 0, 0, 0] (fun a cap tb bb ct at' wr hM hT hd hk => takeA_noR m a cap x7 _ tb bb ct at' _ _ 0 0 [0, 0, 0, 0] wr hM hT (valD_ok _ _ _ _ _ _ _) rfl (meth_keepR 4) (fun wr' hk' => keepR0_any 4 _ wr' (by decide) (by decide) rfl rfl) (tb2 b1) hd)
theorem z_take3 {b1 b2 : Bk} (hb1 : b1.n = 0 ∧ b1.c = 0) (hb2 : b2.n = 0 ∧ b2.c = 0) (h : Ask I 93 rv H m (T2 b1 b2) W) (ba : Option Addr) (bl bk : Nat) : Calls Try.prog 64 #[.pointer (some ⟨m, 0, none⟩), .agg (valD 3 7 0 0 ba bl bk).cells] W (fun e W' => ∃ ka kk, e = .returned (.slice none 0 0) ∧ Fin (fun k => I k ∨ W.heap.size ≤ k) b1.a b1.l b1.k (H ++ [(ka, kk, [0, 0, 0, 0])]) m W' ∧ Kept I W W') := by
  refine (ask_fin h _ (valD_ok _ _ _ _ _ _ _) 0 0 [0, 0, 0, 0] (fun _ => b1.n) (fun _ => b1.c) (fun _ => b1.a) (fun _ => b1.l) (fun _ => b1.k) (fun a cap tb bb ct at' wr hM hT hd hk => takeA_endR m a cap x7 _ tb bb ct at' _ _ 0 0 [0, 0, 0, 0] wr hM hT (valD_ok _ _ _ _ _ _ _) rfl (meth_keepR 4) (meth_setR 4) (fun wr' hk' => keepR0_any 4 _ wr' (by decide) (by decide) rfl rfl) (tb3 b1 b2) hd (fun b => by rw [show (valD 3 7 0 0 ba bl bk).fi = 3 from rfl, T3_cnt]; exact ⟨by decide, by decide⟩) (fun _ => b1.n) (fun _ => b1.c) (fun _ => b1.a) (fun _ => b1.l) (fun _ => b1.k) _ _ _ _ _ (fun b hbn hbc wr' => ?_))).mono ?_
  · rw [show (valD 3 7 0 0 ba bl bk).fi = 3 from rfl, T3_got, (best_z b1 b2 b hb1 hb2 hbn hbc).1, (best_z b1 b2 b hb1 hb2 hbn hbc).2]
    exact settleR_any 4 b1.n b1.c b1.a b1.l b1.k true wr'
  · rintro e W' ⟨ka, kk, b, rfl, he, hF, hK⟩
    exact ⟨ka, kk, he, hF, hK⟩
end

end Go.Proofs.Ytgiokkcdgoloaab
