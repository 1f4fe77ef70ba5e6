import Derived.Test.YtfemlnfknebalabUa
namespace Go.Proofs.Ytfemlnfknebalab
open Go.RowKit
set_option linter.unusedVariables false
set_option linter.unusedSimpArgs false

theorem Try.und45 : Try.prog.underlying 45 = some (.slice 36) := by kernel_rfl
theorem Try.und45e : Try.prog.underlying 45 = some (.slice (Try.prog.elem 45)) := by kernel_rfl
theorem Try.size45e : (Try.prog.info? (Try.prog.elem 45)).map (·.size) = some 6 := by kernel_rfl
theorem Try.info56 : (Try.prog.info? 36).map (fun i => (i.zero, i.size, i.bytes)) = some (some (.agg avZ.cells), 6, 72) := by kernel_rfl
theorem slice1_av (b : Av) (w : World) : (Instr.buildSlice 45 1 #[(0, .agg b.cells)]).run Try.prog w = .ok (.slice (some ⟨w.heap.size, 0, none⟩) 1 1) (w.alloc (.cells b.cells 36)) := by kernel_rfl
theorem results_ctt {fn : Func} {p q u : Tmp} {t : TypeId} (h : fn.results = #[.cell p t, .tmp q, .tmp u]) (tmps : Array Value) (w : World) (g : Nat) (cs : Array Value) (hp : tmps.getD p undef = .pointer (some ⟨g, 0, none⟩)) (hrun : (loadVar t ⟨g, 0, none⟩).run Try.prog w = .ok (.agg cs) w) :
    (results fn tmps).run Try.prog w = .ok (.tuple #[.agg cs, tmps.getD q undef, tmps.getD u undef]) w := by
  have hp' : tmps[p]?.getD undef = .pointer (some ⟨g, 0, none⟩) := by simpa using hp
  simp only [results, h]
  simp [Sem.run_bind, Result.andThen, hp', asAddr, hrun]
/-- A row of commands. -/
def errR (room : Int) : Bk → List Cm → Int
  | _, [] => 0
  | b, c :: t => if refS b.up c = 0 then errR room (stepS b c room).1 t else refS b.up c
def runB (room : Int) : Bk → List Cm → Bk
  | b, [] => b
  | b, c :: t => runB room (stepS b c room).1 t
def runA (room : Int) : Bk → List Cm → List An
  | _, [] => []
  | b, c :: t => (stepS b c room).2 :: runA room (stepS b c room).1 t
def resB (room : Int) (b : Bk) (l : List Cm) : Bk := if errR room b l = 0 then runB room b l else ⟨0, [], []⟩
def resA (room : Int) (b : Bk) (l : List Cm) : List An := if errR room b l = 0 then runA room b l else []
theorem runB_app (room : Int) : ∀ (x y : List Cm) (b : Bk), runB room b (x ++ y) = runB room (runB room b x) y
  | [], _, _ => rfl
  | c :: x, y, b => runB_app room x y _
theorem runA_app (room : Int) : ∀ (x y : List Cm) (b : Bk), runA room b (x ++ y) = runA room b x ++ runA room (runB room b x) y
  | [], _, _ => rfl
  | c :: x, y, b => by
    show _ :: runA room _ (x ++ y) = _ :: (runA room _ x ++ _)
    rw [runA_app room x y]; rfl
theorem errR_app (room : Int) : ∀ (x y : List Cm) (b : Bk), errR room b (x ++ y) = if errR room b x = 0 then errR room (runB room b x) y else errR room b x
  | [], y, b => by simp [errR, runB]
  | c :: x, y, b => by
    show (if refS b.up c = 0 then errR room _ (x ++ y) else _) = if (if refS b.up c = 0 then errR room _ x else _) = 0 then errR room (runB room _ x) y else (if refS b.up c = 0 then errR room _ x else _)
    by_cases h : refS b.up c = 0
    · simp only [h, if_true]; exact errR_app room x y _
    · simp only [h, if_false]
theorem cut_here {xs : List Cm} {i : Nat} (hi : i < xs.length) : xs.take (i + 1) = xs.take i ++ [cAt xs i] ∧ xs = xs.take i ++ (cAt xs i :: xs.drop (i + 1)) := by
  have h1 := cAt_some hi
  rw [List.getElem?_eq_getElem hi] at h1
  have h2 := Option.some.inj h1
  refine ⟨by rw [List.take_succ_eq_append_getElem hi, h2], ?_⟩
  rw [← h2, ← List.drop_eq_getElem_cons hi, List.take_append_drop]
theorem run_next (room : Int) (b : Bk) {xs : List Cm} {i : Nat} (hi : i < xs.length) : runB room b (xs.take (i + 1)) = (stepS (runB room b (xs.take i)) (cAt xs i) room).1 ∧ runA room b (xs.take (i + 1)) = runA room b (xs.take i) ++ [(stepS (runB room b (xs.take i)) (cAt xs i) room).2] := by
  rw [(cut_here hi).1, runB_app, runA_app]
  exact ⟨rfl, rfl⟩
theorem err_next (room : Int) (b : Bk) {xs : List Cm} {i : Nat} (hi : i < xs.length) (h0 : errR room b (xs.take i) = 0) : (refS (runB room b (xs.take i)).up (cAt xs i) = 0 → errR room b (xs.take (i + 1)) = 0) ∧ (refS (runB room b (xs.take i)).up (cAt xs i) ≠ 0 → errR room b xs = refS (runB room b (xs.take i)).up (cAt xs i)) := by
  constructor
  · intro h
    rw [(cut_here hi).1, errR_app, h0, if_pos rfl]
    show (if _ = 0 then (0 : Int) else _) = 0
    rw [if_pos h]
  · intro h
    have e := (cut_here hi).2
    have h1 : errR room b (xs.take i ++ (cAt xs i :: xs.drop (i + 1))) = refS (runB room b (xs.take i)).up (cAt xs i) := by
      rw [errR_app, h0, if_pos rfl]
      show (if _ = 0 then _ else _) = _
      rw [if_neg h]
    rw [← e] at h1
    exact h1
theorem Fine.run (room : Int) : ∀ (l : List Cm) {k : Nat} {b : Bk}, Fine k b → Fine (k + l.length) (runB room b l)
  | [], _, _, h => h
  | c :: l, k, b, h => by
    have := Fine.run room l (h.step c room)
    rw [show k + (c :: l).length = k + 1 + l.length by simp only [List.length_cons]; omega]
    exact this
theorem resB_0 {room : Int} {b : Bk} {l : List Cm} (h : errR room b l = 0) : resB room b l = runB room b l ∧ resA room b l = runA room b l := by unfold resB resA; rw [if_pos h, if_pos h]; exact ⟨rfl, rfl⟩
theorem resB_1 {room : Int} {b : Bk} {l : List Cm} (h : errR room b l ≠ 0) : resB room b l = ⟨0, [], []⟩ ∧ resA room b l = [] := by unfold resB resA; rw [if_neg h, if_neg h]; exact ⟨rfl, rfl⟩
/-- Answers in a row. -/
def avL (vs : List Av) : List Value := (vs.map Av.cs).flatten
theorem avL_c (vs : List Av) : ∀ x ∈ vs.map Av.cs, x.length = 6 := by intro x hx; obtain ⟨e, _, rfl⟩ := List.mem_map.1 hx; rfl
theorem avL_app (a b : List Av) : avL (a ++ b) = avL a ++ avL b := by simp [avL]
theorem avL_1 (e : Av) : avL [e] = e.cs := by simp [avL]
theorem Av.oneL (e : Av) : ∀ v ∈ e.cs, v.oneCell' = true := by simp [Av.cs, Sl.v, Value.oneCell']
theorem app1A {w : World} {base : Nat} {sa : Option Addr} {n c : Nat} {out : List Av} (hb : base ≤ w.heap.size) (ho : Own 36 6 w base sa c n (avL out)) (y : Av) (hn : n ≤ 1000000) :
    ∃ a' c' W2, (Builtin.append_ #[45, 45] 45 #[.slice sa n c, .slice (some ⟨w.heap.size, 0, none⟩) 1 1]).run Try.prog (w.alloc (.cells y.cells 36)) = .ok (.slice a' (n + 1) c') W2 ∧ Own 36 6 W2 base a' c' (n + 1) (avL (out ++ [y])) ∧ Kept (At sa) w W2 := by
  have h1 : Kept No w (w.alloc (.cells y.cells 36)) := (Kept.refl No _).alloc _
  have ho1 := ho.no h1
  have hx := Box.new w 36 y.cells
  obtain ⟨a', c', W2, hrun, hO, hk, hA⟩ := run_appN (w := w.alloc (.cells y.cells 36)) 45 45 36 6 72 (.agg avZ.cells) Try.und45 Try.info56 rfl (by omega) base n c sa (avL out) ho1 (some ⟨w.heap.size, 0, none⟩) 1 1 y.cs rfl (fun e => by cases e) (fun j u hj => ⟨_, rfl, by rw [addr_add, Nat.zero_add, hx.cell]; show y.cs.toArray[j]? = _; rw [List.getElem?_toArray]; exact hj⟩) y.oneL (by omega) (by omega) (Nat.le_trans hb h1.size)
  exact ⟨a', c', W2, hrun, by rw [avL_app, avL_1]; exact hO, h1.of_no.then hk⟩
structure AnAt (w : World) (v : Av) (a : An) : Prop where
  er : v.er = a.er
  e : v.e = a.e
  l : RdE w v.l a.l
  ty : ∀ k, At v.l.a k → ∃ cs, Box w k 34 cs
  n : a.l.length ≤ 1000
theorem AnAt.kept {S : Nat → Prop} {w w' : World} {v : Av} {a : An} (h : AnAt w v a) (hk : Kept S w w') (hS : ∀ k, At v.l.a k → ¬ S k) : AnAt w' v a :=
  ⟨h.er, h.e, h.l.kept hk hS, fun k hk' => by obtain ⟨cs, hb⟩ := h.ty k hk'; exact ⟨cs, hb.kept hk (hS k hk')⟩, h.n⟩
theorem AnAt.not {w : World} {v : Av} {a : An} (h : AnAt w v a) {k : Nat} {T : TypeId} {cs : Array Value} (hb : Box w k T cs) (hT : T ≠ 34) : ¬ At v.l.a k := fun hk => by
  obtain ⟨cs', hb'⟩ := h.ty k hk
  exact box_ne hb hb' hT rfl
theorem AnAt.lt {w : World} {v : Av} {a : An} (h : AnAt w v a) {k : Nat} (hk : At v.l.a k) : k < w.heap.size := by
  obtain ⟨cs, hb⟩ := h.ty k hk
  exact hb.lt
structure Ans (w : World) (base : Nat) (s : Sl) (vs : List Av) (az : List An) : Prop where
  own : Own 36 6 w base s.a s.k s.l (avL vs)
  lv : vs.length = s.l
  la : az.length = s.l
  get : ∀ (i : Nat) v, vs[i]? = some v → ∃ a, az[i]? = some a ∧ AnAt w v a
theorem Ans.nil (w : World) (base : Nat) : Ans w base ⟨none, 0, 0⟩ [] [] := ⟨Own.nil _ _ _ _, rfl, rfl, fun i v h => by simp at h⟩
theorem Ans.kept {S : Nat → Prop} {w w' : World} {base : Nat} {s : Sl} {vs : List Av} {az : List An} (h : Ans w base s vs az) (hk : Kept S w w') (h1 : ∀ k, At s.a k → ¬ S k) (h2 : ∀ (i : Nat) v, vs[i]? = some v → ∀ k, At v.l.a k → ¬ S k) : Ans w' base s vs az :=
  ⟨h.own.kept hk h1, h.lv, h.la, fun i v e => by obtain ⟨a, e1, e2⟩ := h.get i v e; exact ⟨a, e1, e2.kept hk (h2 i v e)⟩⟩
theorem Ans.no {w w' : World} {base : Nat} {s : Sl} {vs : List Av} {az : List An} (h : Ans w base s vs az) (hk : Kept No w w') : Ans w' base s vs az := h.kept hk (fun _ _ e => e) (fun _ _ _ _ _ e => e)
theorem Ans.tys {S : Nat → Prop} {w w' : World} {base : Nat} {s : Sl} {vs : List Av} {az : List An} (h : Ans w base s vs az) (hk : Kept S w w') (hS : ∀ k, S k → ∃ T cs, Box w k T cs ∧ T ≠ 34 ∧ T ≠ 36) : Ans w' base s vs az :=
  h.kept hk (fun k hk' e => by obtain ⟨T, cs, hb, _, hT⟩ := hS k e; exact h.own.notBox hb (Ne.symm hT) hk') (fun i v e k hk' hs => by obtain ⟨T, cs, hb, hT, _⟩ := hS k hs; obtain ⟨a, _, ha⟩ := h.get i v e; exact ha.not hb hT hk')
theorem Ans.row {w : World} {base g : Nat} {s : Sl} {vs : List Av} {az : List An} {T : TypeId} {cs : Array Value} (h : Ans w base s vs az) (hb : Box w g T cs) (h1 : T ≠ 34) (h2 : T ≠ 36) (cs' : Array Value) : Ans (w.setRow g cs') base s vs az := h.tys (Kept.setRow _ _ _) (fun k e => ⟨T, cs, (show k = g from e) ▸ hb, h1, h2⟩)
theorem Ans.lower {w : World} {base base' : Nat} {s : Sl} {vs : List Av} {az : List An} (h : Ans w base s vs az) (hb : base' ≤ base) : Ans w base' s vs az := ⟨h.own.lower hb, h.lv, h.la, h.get⟩
theorem Ans.push {w w' : World} {base : Nat} {sa a' : Option Addr} {n c c' : Nat} {vs : List Av} {az : List An} (h : Ans w base ⟨sa, n, c⟩ vs az) {v : Av} {a : An} (hv : AnAt w v a) (ho : Own 36 6 w' base a' c' (n + 1) (avL (vs ++ [v]))) (hk : Kept (At sa) w w') : Ans w' base ⟨a', n + 1, c'⟩ (vs ++ [v]) (az ++ [a]) := by
  have hl : vs.length = n := h.lv
  have hl2 : az.length = n := h.la
  have hno : ∀ {x : Av} {b : An}, AnAt w x b → ∀ k, At x.l.a k → ¬ At sa k := fun hx k h1 h2 => by
    obtain ⟨cs, hb⟩ := h.own.ty h2
    exact hx.not hb (by decide) h1
  refine ⟨ho, by show (vs ++ [v]).length = n + 1; rw [List.length_append, hl]; rfl, by show (az ++ [a]).length = n + 1; rw [List.length_append, hl2]; rfl, fun i x e => ?_⟩
  by_cases hi : i < vs.length
  · rw [List.getElem?_append_left hi] at e
    obtain ⟨b, h1, h2⟩ := h.get i x e
    exact ⟨b, by rw [List.getElem?_append_left (by omega)]; exact h1, h2.kept hk (hno h2)⟩
  · rw [List.getElem?_append_right (by omega)] at e
    have hd : i - vs.length = 0 := by
      cases hd : i - vs.length with
      | zero => rfl
      | succ d => rw [hd] at e; simp at e
    rw [hd] at e
    have e : v = x := by simpa using e
    subst e
    exact ⟨a, by rw [List.getElem?_append_right (by omega), show i - az.length = 0 by omega]; rfl, hv.kept hk (hno hv)⟩
theorem Ans.at {w : World} {base : Nat} {s : Sl} {vs : List Av} {az : List An} (h : Ans w base s vs az) {i : Nat} (hi : i < s.l) : ∃ v a b off, az[i]? = some a ∧ AnAt w v a ∧ s.a = some ⟨b, off, none⟩ ∧ ∀ (j : Nat) x, v.cs[j]? = some x → w.cell? ⟨b, off + i * 6 + j, none⟩ = some x := by
  have hi2 : i < vs.length := by rw [h.lv]; exact hi
  obtain ⟨a, h1, h2⟩ := h.get i vs[i] (List.getElem?_eq_getElem hi2)
  obtain ⟨b, off, h3, h4⟩ := Own.rows h.own (avL_c vs) (by omega) i vs[i].cs (by rw [List.getElem?_map, List.getElem?_eq_getElem hi2]; rfl)
  exact ⟨vs[i], a, b, off, h1, h2, h3, h4⟩
end Go.Proofs.Ytfemlnfknebalab
