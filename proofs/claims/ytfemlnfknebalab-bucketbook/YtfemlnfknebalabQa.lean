import Derived.Test.YtfemlnfknebalabUa
import Derived.Test.YtfemlnfknebalabSb
import Derived.Test.YtfemlnfknebalabTe
import Derived.Test.YtfemlnfknebalabXa
import Derived.RangeFuncNested
import Derived.RangeFuncBound
import Derived.RangeFuncCalls
import Derived.RangeFuncLeaves
import Derived.RangeFuncBox
import Derived.Shelf.Abstract
import Derived.Sort.QuietTacIn
import Derived.Shelf.RegionOpen
import Derived.OwnWalkIn
import Derived.TacticsInMore
import Derived.LoopNIn
import Derived.LoopN
import Derived.LoopIn
import Derived.Sort.CutIn
import Derived.Deep.CutBlock
import Derived.Sort.QuietLawsIn
namespace Go.Proofs.Ytfemlnfknebalab
open Go.RowKit Go.Shelf
set_option linter.unusedVariables false
set_option linter.unusedSimpArgs false

attribute [local go_sem] Oper.semAt_some
structure WI (F : Fence) (n : Nat) (ops : Array Oper) (Q : Exit → Act → World → Prop) (l : List Oper) (a : Act) (w : World) : Prop where
  out : wpListIn F n Try.prog ops Q l a w
section
variable {F : Fence} {n : Nat} {ops : Array Oper} {rest : List Oper} {o : Oper} {a : Act} {w w' : World} {Q : Exit → Act → World → Prop}
theorem WI.nil (h : Q .normal a w) : WI F n ops Q [] a w := ⟨wpListIn_nil h⟩
theorem WI.start {id : Nat} {l : List Oper} (h : WI F n l.toArray Q l a w) : (Code.region id l.toArray false).wpIn F n Try.prog Q a w := wpIn_region_lit h.out
end
theorem run_store_to {w : World} {g off : Nat} {T ty : TypeId} {cur vs new : List Value} {v : Value} (hb : Box w g T cur.toArray) (hv : v.cells = vs.toArray) (hi : (Try.prog.info? ty).map (·.size) = some vs.length)
    (hl : off + vs.length ≤ cur.length) (h1 : ∀ x ∈ vs, x.oneCell' = true) (hn : putL cur off vs = new) : (storeVar ty ⟨g, off, none⟩ v).run Try.prog w = .ok () (w.setRow g new.toArray) := by
  rw [run_store_at hb hv hi hl h1, hn]
def DefAt (W : World) (D : Nat) : Prop := W.heap[D]? = some (.deferred (some []))
theorem DefAt.kept {S : Nat → Prop} {W W' : World} {D : Nat} (h : DefAt W D) (hk : Kept S W W') (hS : ¬ S D) : DefAt W' D := (hk.block D (Array.getElem?_eq_some_iff.1 h).1 hS).trans h
theorem DefAt.no {W W' : World} {D : Nat} (h : DefAt W D) (hk : Kept No W W') : DefAt W' D := h.kept hk (fun e => e)
theorem DefAt.ne {W : World} {D g : Nat} {T : TypeId} {cs : Array Value} (h : DefAt W D) (hb : Box W g T cs) : D ≠ g := fun e => by
  subst e
  unfold DefAt at h
  unfold Box at hb
  rw [h] at hb; cases hb
section
variable {F : Fence} {n : Nat} {ops : Array Oper} {C : World → Prop} {Q : Act → Prop} {o : Oper} {rest : List Oper} {a : Act}
end
section
variable {F : Fence} {n : Nat} {P : Program}
end
/-- All that stands while the turns go. -/
structure Sq (w : World) (l : List (Nat × TypeId × Array Value)) (lb : Nat) (sa : Option Addr) (sc : Nat) (ma : Option Addr) (mc : Nat) (ns : List En) (ds : List Nat) (W : World) : Prop where
  fr : Fr No w W l
  sq : SeqAt W lb sa sc ns
  wt : OwE W w.heap.size ⟨ma, ns.length, mc⟩ ns
  df : ∀ D ∈ ds, DefAt W D
theorem Fr.grown {w0 W W' : World} {l : List (Nat × TypeId × Array Value)} {row : Option Nat} (h : Fr No w0 W l) (hg : W.grownBy W' row) {B : Nat} (hr : ∀ r, row = some r → B ≤ r ∧ ∃ o : Obj, W.heap[r]? = some o ∧ o.isCells = false) (hB : w0.heap.size ≤ B) : Fr No w0 W' l :=
  ⟨h.kept.grown hg (fun k e hk => by have := (hr k e).1; omega), fun i g T cs hi => box_cells (h.box i g T cs hi) hg (fun r e => by obtain ⟨_, o, h1, h2⟩ := hr r e; exact ⟨o, h1, h2⟩), h.low, h.inj⟩
theorem Sq.grown {w : World} {l : List (Nat × TypeId × Array Value)} {lb : Nat} {sa : Option Addr} {sc : Nat} {ma : Option Addr} {mc : Nat} {ns : List En} {ds : List Nat} {W W' : World} {row : Option Nat} (h : Sq w l lb sa sc ma mc ns ds W) (hg : W.grownBy W' row) {B : Nat} (hr : ∀ r, row = some r → B ≤ r ∧ ∃ o : Obj, W.heap[r]? = some o ∧ o.isCells = false) (hB : w.heap.size ≤ B) (hD : ∀ D ∈ ds, D < B) : Sq w l lb sa sc ma mc ns ds W' := by
  have hr' : ∀ r, row = some r → ∃ o : Obj, W.heap[r]? = some o ∧ o.isCells = false := fun r e => by obtain ⟨_, o, h1, h2⟩ := hr r e; exact ⟨o, h1, h2⟩
  refine ⟨h.fr.grown hg hr hB, ⟨box_cells h.sq.box hg hr', own_cells h.sq.row hg hr'⟩, ⟨own_cells h.wt.own hg hr', h.wt.len⟩, fun D hD' => ?_⟩
  have hk : Kept (fun k => row = some k) W W' := (Kept.refl _ W).grown hg (fun k e _ => e)
  exact (h.df D hD').kept hk (fun e => by have h1 := (hr D e).1; have h2 := hD D hD'; omega)
theorem Sq.own {w : World} {β : Type} {l : β → List (Nat × TypeId × Array Value)} {lb : Nat} {sa : Option Addr} {sc : Nat} {ma : Option Addr} {mc : Nat} {ns : List En} {ds : List Nat} {B : Nat} (hB : w.heap.size ≤ B) (hD : ∀ D ∈ ds, D < B) : OwnFrom B (fun s W => Sq w (l s) lb sa sc ma mc ns ds W) :=
  fun s W W' row h hg hr => h.grown hg hr hB hD
theorem Sq.no {w : World} {l : List (Nat × TypeId × Array Value)} {lb : Nat} {sa : Option Addr} {sc : Nat} {ma : Option Addr} {mc : Nat} {ns : List En} {ds : List Nat} {W W' : World} (h : Sq w l lb sa sc ma mc ns ds W) (hk : Kept No W W') : Sq w l lb sa sc ma mc ns ds W' :=
  ⟨h.fr.no hk, h.sq.kept hk (fun _ _ e => e), h.wt.no hk, fun D hD => (h.df D hD).no hk⟩
theorem Sq.alloc {w : World} {l : List (Nat × TypeId × Array Value)} {lb : Nat} {sa : Option Addr} {sc : Nat} {ma : Option Addr} {mc : Nat} {ns : List En} {ds : List Nat} {W : World} (h : Sq w l lb sa sc ma mc ns ds W) (T : TypeId) (cs : Array Value) : Sq w (l ++ [(W.heap.size, T, cs)]) lb sa sc ma mc ns ds (W.alloc (.cells cs T)) := by
  have h2 := h.no ((Kept.refl No W).alloc (.cells cs T))
  exact ⟨h.fr.alloc T cs, h2.sq, h2.wt, h2.df⟩
theorem Sq.set {w : World} {l : List (Nat × TypeId × Array Value)} {lb : Nat} {sa : Option Addr} {sc : Nat} {ma : Option Addr} {mc : Nat} {ns : List En} {ds : List Nat} {W : World} (h : Sq w l lb sa sc ma mc ns ds W) (i : Nat) {g : Nat} {T : TypeId} {cs : Array Value} (hi : l[i]? = some (g, T, cs)) (hT : T = 3 ∨ T = 4) (cs' : Array Value) : Sq w (l.set i (g, T, cs')) lb sa sc ma mc ns ds (W.setRow g cs') ∧ Kept (NB lb sa) W (W.setRow g cs') := by
  have hb := h.fr.box i g T cs hi
  have n1 : lb ≠ g := box_ne h.sq.box hb (by rcases hT with e | e <;> rw [e] <;> decide)
  have n2 : ¬ At sa g := h.sq.row.notBox hb (by rcases hT with e | e <;> rw [e] <;> decide)
  have n3 : ¬ At ma g := h.wt.own.notBox hb (by rcases hT with e | e <;> rw [e] <;> decide)
  have hk := Kept.setRow W g cs'
  have hnb : ∀ k, SB lb sa k → ¬ Only g k := fun k e f => by
    have f : k = g := f
    subst f
    rcases e with e | e
    · exact n1 e.symm
    · exact n2 e
  exact ⟨⟨h.fr.set i hi cs', h.sq.kept hk hnb, h.wt.kept hk (fun k e f => by have f : k = g := f; subst f; exact n3 e), fun D hD => (h.df D hD).kept hk (fun e => (h.df D hD).ne hb e)⟩, hk.mono (fun k _ e f => hnb k f e)⟩
theorem Sq.front {w : World} {l m : List (Nat × TypeId × Array Value)} {lb : Nat} {sa : Option Addr} {sc : Nat} {ma : Option Addr} {mc : Nat} {ns : List En} {ds : List Nat} {W : World} (h : Sq w (l ++ m) lb sa sc ma mc ns ds W) : Sq w l lb sa sc ma mc ns ds W := ⟨h.fr.front, h.sq, h.wt, h.df⟩
theorem flat_set (c : Nat) (xs : List (List Value)) (hc : ∀ x ∈ xs, x.length = c) (sp : List Value) (i : Nat) (y : List Value) (hy : y.length = c) (hi : i < xs.length) : putL (xs.flatten ++ sp) (i * c) y = (xs.set i y).flatten ++ sp := by
  have h : xs = xs.take i ++ ([xs[i]] ++ xs.drop (i + 1)) := by simp
  have h2 : xs.set i y = xs.take i ++ ([y] ++ xs.drop (i + 1)) := by rw [List.set_eq_take_append_cons_drop]; simp [hi]
  have hl : (xs.take i).flatten.length = i * c := by
    rw [flat_len c _ (fun x hx => hc x (List.mem_of_mem_take hx)), List.length_take]; congr 1; omega
  have hxi : (xs[i]).length = c := hc _ (List.getElem_mem hi)
  have h3 : xs.flatten = (xs.take i).flatten ++ (xs[i] ++ (xs.drop (i + 1)).flatten) := by
    have e := congrArg List.flatten h
    rw [List.flatten_append, List.flatten_append, List.flatten_cons, List.flatten_nil, List.append_nil] at e
    exact e
  rw [h2, h3]
  simp only [List.flatten_append, List.flatten_cons, List.flatten_nil, List.append_nil, List.append_assoc]
  unfold putL
  rw [← hl, List.take_left', ← List.drop_drop, List.drop_left', hy, ← hxi, List.drop_left']
  all_goals rfl
theorem Own.setN {T ty : TypeId} {c : Nat} {W : World} {base : Nat} {a : Option Addr} {cap n : Nat} {xs : List (List Value)} (h : Own T c W base a cap n xs.flatten) (hc : ∀ x ∈ xs, x.length = c) (hl : xs.length = n) {i g : Nat} (hi : i < n) (ha : a = some ⟨g, 0, none⟩) {v : Value} {y : List Value} (hv : v.cells = y.toArray) (hz : (Try.prog.info? ty).map (·.size) = some y.length) (h1 : ∀ x ∈ y, x.oneCell' = true) (hy : y.length = c) :
    ∃ cs', (storeVar ty ⟨g, 0 + i * c, none⟩ v).run Try.prog W = .ok () (W.setRow g cs') ∧ Own T c (W.setRow g cs') base a cap n (xs.set i y).flatten := by
  rcases h.2 with ⟨hv2, hn⟩ | ⟨g', cap', cur, hv2, hb, hg, hle, hm, hs, ht⟩
  · omega
  · simp only [Value.slice.injEq] at hv2
    obtain ⟨ea, -, rfl⟩ := hv2
    rw [ea] at ha
    cases ha
    obtain ⟨cur, rfl⟩ : ∃ l : List Value, cur = l.toArray := ⟨cur.toList, by simp⟩
    have hbox : Box W g T cur.toArray := hg
    have hs : cur.length = cap * c := by simpa using hs
    have ht : cur.take (n * c) = xs.flatten := by simpa using ht
    have hnc : n * c ≤ cap * c := Nat.mul_le_mul_right _ hle
    have hic : i * c + c ≤ n * c := by rw [← Nat.succ_mul]; exact Nat.mul_le_mul_right _ hi
    have hcur : cur = xs.flatten ++ cur.drop (n * c) := by rw [← ht, List.take_append_drop]
    have hfl : xs.flatten.length = n * c := by rw [flat_len c xs hc, hl]
    refine ⟨(putL cur (0 + i * c) y).toArray, run_store_at hbox hv hz (by rw [hy, Nat.zero_add, hs]; omega) h1, ?_⟩
    rw [Nat.zero_add, ea]
    have hp : putL cur (i * c) y = (xs.set i y).flatten ++ cur.drop (n * c) := by
      conv => lhs; rw [hcur]
      exact flat_set c xs hc _ i y hy (by omega)
    rw [hp]
    have hsl : ((xs.set i y).flatten).length = n * c := by
      rw [flat_len c _ (fun x hx => by rcases List.mem_or_eq_of_mem_set hx with hx | hx; exact hc x hx; rw [hx]; exact hy), List.length_set, hl]
    exact Own.shut hb (Box.setRow hbox _) hle (by unfold maxLen at hm; omega) (by rw [List.length_append, hsl, List.length_drop, hs]; omega) (by rw [← hsl]; exact List.take_left' rfl)
theorem OwE.set {W : World} {base : Nat} {s : Sl} {cur : List En} (h : OwE W base s cur) {i g : Nat} (hi : i < s.l) (ha : s.a = some ⟨g, 0, none⟩) (y : En) : ∃ cs', (storeVar 34 ⟨g, 0 + i * 4, none⟩ (.agg (En.cells y))).run Try.prog W = .ok () (W.setRow g cs') ∧ OwE (W.setRow g cs') base s (cur.set i y) := by
  obtain ⟨cs', h1, h2⟩ := Own.setN (ty := 34) (y := y.cs) h.own (enL_c cur) (by rw [List.length_map, h.len]) hi ha (v := .agg y.cells) rfl Try.size54 y.oneL rfl
  exact ⟨cs', h1, ⟨by rw [← List.map_set] at h2; exact h2, by rw [List.length_set]; exact h.len⟩⟩
theorem Own.some {t : TypeId} {c : Nat} {w : World} {base : Nat} {a : Option Addr} {cap n : Nat} {vs : List Value} (h : Own t c w base a cap n vs) (h0 : 0 < n) : ∃ g, a = some ⟨g, 0, none⟩ := by
  obtain ⟨g, _, e, _⟩ := h.op h0
  exact ⟨g, e⟩
theorem Own.le {t : TypeId} {c : Nat} {w : World} {base : Nat} {a : Option Addr} {cap n : Nat} {vs : List Value} (h : Own t c w base a cap n vs) : n ≤ cap := by
  by_cases h0 : 0 < n
  · obtain ⟨_, _, _, _, _, hl, _⟩ := h.op h0
    exact hl
  · omega
theorem DefAt.lt {W : World} {D : Nat} (h : DefAt W D) : D < W.heap.size := (Array.getElem?_eq_some_iff.1 h).1
theorem Fr.lent {S : Nat → Prop} {w0 w w' : World} {l : List (Nat × TypeId × Array Value)} (h : Fr No w0 w l) (hk : Kept S w w') (hlow : ∀ k, S k → w0.heap.size ≤ k) (hne : ∀ x ∈ l, ¬ S x.1) : Fr No w0 w' l :=
  ⟨h.kept.trans hk (fun _ e => e) (fun i hi e => absurd (hlow i e) (by omega)), fun i g T cs hi => (h.box i g T cs hi).kept hk (hne _ (List.mem_of_getElem? hi)), h.low, h.inj⟩
theorem SeqAt.no {W W' : World} {lb cap : Nat} {a : Option Addr} {ps : List En} (h : SeqAt W lb a cap ps) (hk : Kept No W W') : SeqAt W' lb a cap ps := h.kept hk (fun _ _ e => e)
theorem b_addw (x y z : Int) (h : IntKind.i64.wrap (x + y) = z) (w : World) : (binOp .add 3 (.int .i64 x) (.int .i64 y)).run Try.prog w = .ok (.int .i64 z) w := by rw [← h]; kernel_rfl
theorem b_subw (x y z : Int) (h : IntKind.i64.wrap (x - y) = z) (w : World) : (binOp .sub 3 (.int .i64 x) (.int .i64 y)).run Try.prog w = .ok (.int .i64 z) w := by rw [← h]; kernel_rfl
theorem Sq.take {w : World} {l : List (Nat × TypeId × Array Value)} {lb : Nat} {sa : Option Addr} {sc : Nat} {ma : Option Addr} {mc : Nat} {ns : List En} {ds : List Nat} {D : Nat} {W : World} (h : Sq w l lb sa sc ma mc ns (D :: ds) W) (hD : w.heap.size ≤ D) (hn : D ∉ ds) : Sq w l lb sa sc ma mc ns ds (W.putObj D (.deferred none)) := by
  have hg := grownBy_putObj' W D (.deferred none)
  have hd := h.df D (by simp)
  have hr' : ∀ r, some D = some r → ∃ o : Obj, W.heap[r]? = some o ∧ o.isCells = false := fun r e => by cases e; exact ⟨_, hd, rfl⟩
  refine ⟨h.fr.grown hg (B := D) (fun r e => by cases e; exact ⟨Nat.le_refl _, _, hd, rfl⟩) hD, ⟨box_cells h.sq.box hg hr', own_cells h.sq.row hg hr'⟩, ⟨own_cells h.wt.own hg hr', h.wt.len⟩, fun D2 hD2 => ?_⟩
  have hk : Kept (fun k => some D = some k) W (W.putObj D (.deferred none)) := (Kept.refl _ W).grown hg (fun k e _ => e)
  exact (h.df D2 (List.mem_cons_of_mem _ hD2)).kept hk (fun e => by cases e; exact hn hD2)
end Go.Proofs.Ytfemlnfknebalab
