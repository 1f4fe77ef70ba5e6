import Derived.Test.YtpabpeppgpeaoaaZp
import Derived.Deep.Cut
import Derived.Deep.LoopGhost
import Derived.Deep.RegionHeld3
import Derived.Laws.BytesArg
import Derived.Laws.OwnMore
import Derived.Laws.Rows
import Derived.Laws.Strings
import Derived.Laws.StructEq
import Derived.Laws.Tables
import Derived.Lib.AppendZerosOnto
import Derived.Lib.Bytealg
import Derived.Lib.Overlaps
import Derived.Lib.SliceRun
import Derived.LoopIn
import Derived.LoopNIn
import Derived.Maps.AppendAt
import Derived.OwnWalkIn
import Derived.RangeFuncBound
import Derived.RangeFuncBox
import Derived.RangeFuncCalls
import Derived.RangeFuncLeaves
import Derived.RangeFuncNested
import Derived.Shelf.Abstract
import Derived.Shelf.RegionOpen
import Derived.Sort.CutIn
import Derived.Sort.QuietTacIn
import Derived.TacticsInMore
import Derived.WalkSpells
namespace Go.Proofs.Ytpabpeppgpeaoaa.Md
open Go.RowKit
set_option linter.unusedVariables false
set_option linter.unusedSimpArgs false

/-- An entry, a Last, a command. -/
structure En where
  nm : ByteArray
  f0 : Int
  f1 : Int
  sz : Int
structure La where
  cl : Int
  op : Int
  ins : Int
  er : Int
  f0 : Int
  f1 : Int
  sz : Int
structure Cm where
  k : Int
  cl : Int
  op : Int
  nm : ByteArray
  f0 : Int
  f1 : Int
  g0 : Int
  g1 : Int
  sz : Int
def enZ : En := ⟨⟨#[]⟩, 0, 0, 0⟩
def laZ : La := ⟨0, 0, 0, 0, 0, 0, 0⟩
def cZ : Cm := ⟨0, 0, 0, ⟨#[]⟩, 0, 0, 0, 0, 0⟩
instance : Inhabited En := ⟨enZ⟩
instance : Inhabited La := ⟨laZ⟩
instance : Inhabited Cm := ⟨cZ⟩
def En.cs (e : En) : List Value := [.string e.nm, .int .i64 e.f0, .int .i64 e.f1, .int .i64 e.sz]
def La.cs (l : La) : List Value := [.int .i64 l.cl, .int .i64 l.op, .int .i64 l.ins, .int .i64 l.er, .int .i64 l.f0, .int .i64 l.f1, .int .i64 l.sz]
def Cm.cs (c : Cm) : List Value := [.int .i64 c.k, .int .i64 c.cl, .int .i64 c.op, .string c.nm, .int .i64 c.f0, .int .i64 c.f1, .int .i64 c.g0, .int .i64 c.g1, .int .i64 c.sz]
def En.cells (e : En) : Array Value := e.cs.toArray
def La.cells (l : La) : Array Value := l.cs.toArray
def Cm.cells (c : Cm) : Array Value := c.cs.toArray
/-- A slice's value. -/
structure Sl where
  a : Option Addr
  l : Nat
  k : Nat
def Sl.v (s : Sl) : Value := .slice s.a s.l s.k
def slZ : Sl := ⟨none, 0, 0⟩
/-- A bucket and an answer as cells. -/
structure Bv where
  up : Int
  e : Sl
  l : Sl
structure Av where
  er : Int
  e : En
  l : Sl
def bvZ : Bv := ⟨0, slZ, slZ⟩
def Bv.cs (b : Bv) : List Value := [.int .i64 b.up, b.e.v, b.l.v]
def Av.cs (a : Av) : List Value := [.int .i64 a.er, .string a.e.nm, .int .i64 a.e.f0, .int .i64 a.e.f1, .int .i64 a.e.sz, a.l.v]
def Bv.cells (b : Bv) : Array Value := b.cs.toArray
def Av.cells (a : Av) : Array Value := a.cs.toArray
theorem En.one (e : En) : e.cells.all (·.oneCell') = true := by simp [En.cells, En.cs, Value.oneCell']
theorem La.one (e : La) : e.cells.all (·.oneCell') = true := by simp [La.cells, La.cs, Value.oneCell']
theorem Cm.one (e : Cm) : e.cells.all (·.oneCell') = true := by simp [Cm.cells, Cm.cs, Value.oneCell']
theorem Bv.one (e : Bv) : e.cells.all (·.oneCell') = true := by simp [Bv.cells, Bv.cs, Sl.v, Value.oneCell']
theorem Av.one (e : Av) : e.cells.all (·.oneCell') = true := by simp [Av.cells, Av.cs, Sl.v, Value.oneCell']
theorem En.oneL (e : En) : ∀ v ∈ e.cs, v.oneCell' = true := by simp [En.cs, Value.oneCell']
theorem La.oneL (e : La) : ∀ v ∈ e.cs, v.oneCell' = true := by simp [La.cs, Value.oneCell']
theorem Cm.oneL (e : Cm) : ∀ v ∈ e.cs, v.oneCell' = true := by simp [Cm.cs, Value.oneCell']

theorem Try.size47 : (Try.prog.info? 28).map (·.size) = some 9 := by kernel_rfl
section
variable {ops : Array Oper} {rest : List Oper} {o : Oper} {a : Act} {w : World} {Q : Exit → Act → World → Prop}
end
section
variable {ops : Array Oper} {o : Oper} {a : Act} {w w' : World} {Q : Exit → Act → World → Prop} {md : Region.Mode} {S : World → Prop}
end
section
variable {ops : Array Oper} {rest : List Oper} {o : Oper} {a : Act} {w : World} {Q : Exit → Act → World → Prop}
end
section
variable {ops : Array Oper} {o : Oper} {a : Act} {w w' : World} {Q : Exit → Act → World → Prop} {md : Region.Mode} {S : World → Prop} {fuel : Nat} {listed : Array Bool}
end
theorem _root_.Go.Proofs.Ytpabpeppgpeaoaa.Own.nil (t : TypeId) (c : Nat) (w : World) (base : Nat) : Own t c w base none 0 0 [] := ⟨by simp, .inl ⟨rfl, rfl⟩⟩
section
variable {ops : Array Oper} {rest : List Oper} {o : Oper} {a : Act} {w : World} {Q : Exit → Act → World → Prop} {md : Region.Mode} {S : World → Prop}
end

end Go.Proofs.Ytpabpeppgpeaoaa.Md
namespace Go.Proofs.Ytpabpeppgpeaoaa.Md
open Go.RowKit
set_option linter.unusedVariables false
set_option linter.unusedSimpArgs false

/-- What a function holds while it runs: its own variables' blocks. -/
structure Fr (S : Nat → Prop) (w0 w : World) (l : List (Nat × TypeId × Array Value)) : Prop where
  kept : Kept S w0 w
  box : ∀ (i : Nat) g T cs, l[i]? = some (g, T, cs) → Box w g T cs
  low : ∀ (i : Nat) g T cs, l[i]? = some (g, T, cs) → w0.heap.size ≤ g
  inj : ∀ (i j : Nat) g T cs T' cs', l[i]? = some (g, T, cs) → l[j]? = some (g, T', cs') → i = j
theorem Fr.start (S : Nat → Prop) (w : World) : Fr S w w [] := ⟨Kept.refl S w, by simp, by simp, by simp⟩
theorem Fr.drew {S : Nat → Prop} {w0 w : World} {l : List (Nat × TypeId × Array Value)} (h : Fr S w0 w l) : Fr S w0 w.drew l := ⟨h.kept.drew, h.box, h.low, h.inj⟩
theorem Fr.alloc {S : Nat → Prop} {w0 w : World} {l : List (Nat × TypeId × Array Value)} (h : Fr S w0 w l) (T : TypeId) (cs : Array Value) : Fr S w0 (w.alloc (.cells cs T)) (l ++ [(w.heap.size, T, cs)]) := by
  refine ⟨h.kept.alloc _, ?_, ?_, ?_⟩
  · intro i g T' cs' hi
    rw [List.getElem?_append] at hi
    split at hi
    · exact (h.box i g T' cs' hi).alloc _
    · obtain ⟨rfl, rfl, rfl⟩ : w.heap.size = g ∧ T = T' ∧ cs = cs' := by
        have := List.mem_of_getElem? hi
        simpa [eq_comm] using this
      exact Box.new _ _ _
  · intro i g T' cs' hi
    rw [List.getElem?_append] at hi
    split at hi
    · exact h.low i g T' cs' hi
    · obtain ⟨rfl, rfl, rfl⟩ : w.heap.size = g ∧ T = T' ∧ cs = cs' := by
        have := List.mem_of_getElem? hi
        simpa [eq_comm] using this
      exact h.kept.size
  · intro i j g T1 cs1 T2 cs2 hi hj
    rw [List.getElem?_append] at hi hj
    split at hi <;> split at hj
    · exact h.inj i j g T1 cs1 T2 cs2 hi hj
    · have h1 := (h.box i g T1 cs1 hi).lt
      have h2 : g = w.heap.size := by have := List.mem_of_getElem? hj; simp at this; exact this.1
      omega
    · have h1 := (h.box j g T2 cs2 hj).lt
      have h2 : g = w.heap.size := by have := List.mem_of_getElem? hi; simp at this; exact this.1
      omega
    · have h1 := (List.getElem?_eq_some_iff.1 hi).1
      have h2 := (List.getElem?_eq_some_iff.1 hj).1
      simp at h1 h2
      omega
theorem Fr.set {S : Nat → Prop} {w0 w : World} {l : List (Nat × TypeId × Array Value)} (h : Fr S w0 w l) (i : Nat) {g : Nat} {T : TypeId} {cs : Array Value} (hi : l[i]? = some (g, T, cs)) (cs' : Array Value) : Fr S w0 (w.setRow g cs') (l.set i (g, T, cs')) := by
  have hlt := (List.getElem?_eq_some_iff.1 hi).1
  have key : ∀ (j : Nat) g1 T1 cs1, (l.set i (g, T, cs'))[j]? = some (g1, T1, cs1) → (j = i ∧ g1 = g ∧ T1 = T ∧ cs1 = cs') ∨ (j ≠ i ∧ l[j]? = some (g1, T1, cs1)) := by
    intro j g1 T1 cs1 hj
    rw [List.getElem?_set] at hj
    by_cases e : i = j
    · subst e
      simp [hlt] at hj
      exact .inl ⟨rfl, hj.1.symm, hj.2.1.symm, hj.2.2.symm⟩
    · simp [e] at hj
      exact .inr ⟨fun h => e h.symm, hj⟩
  refine ⟨h.kept.newRowS (h.low i g T cs hi) _, ?_, ?_, ?_⟩
  · intro j g1 T1 cs1 hj
    rcases key j g1 T1 cs1 hj with ⟨rfl, rfl, rfl, rfl⟩ | ⟨hne, hj2⟩
    · exact (h.box _ _ _ _ hi).setRow _
    · refine (h.box j g1 T1 cs1 hj2).rowNe (fun e => hne ?_) _
      subst e
      exact h.inj j i _ _ _ _ _ hj2 hi
  · intro j g1 T1 cs1 hj
    rcases key j g1 T1 cs1 hj with ⟨rfl, rfl, rfl, rfl⟩ | ⟨hne, hj⟩
    · exact h.low _ _ _ _ hi
    · exact h.low j g1 T1 cs1 hj
  · intro j k g1 T1 cs1 T2 cs2 hj hk
    rcases key j g1 T1 cs1 hj with ⟨rfl, rfl, rfl, rfl⟩ | ⟨hne, hj2⟩ <;> rcases key k g1 T2 cs2 hk with ⟨rfl, h1, h2, h3⟩ | ⟨hne', hk2⟩
    · rfl
    · exact h.inj _ _ _ _ _ _ _ hi hk2
    · subst h1; exact h.inj _ _ _ _ _ _ _ hj2 hi
    · exact h.inj _ _ _ _ _ _ _ hj2 hk2
theorem Fr.no {S : Nat → Prop} {w0 w w' : World} {l : List (Nat × TypeId × Array Value)} (h : Fr S w0 w l) (hk : Kept No w w') : Fr S w0 w' l :=
  ⟨h.kept.thenNo hk, fun i g T cs hi => (h.box i g T cs hi).kept hk (fun e => e), h.low, h.inj⟩
/-- Of a function's own blocks only some are spoken of further on. -/
theorem Fr.drop {S : Nat → Prop} {w0 w : World} {l : List (Nat × TypeId × Array Value)} (h : Fr S w0 w l) : Fr S w0 w [] := ⟨h.kept, by simp, by simp, by simp⟩

/-- Rows of cells in memory that came in, or that was made. -/
def RowsAt (n : Nat) (w : World) (a : Option Addr) (xs : List (List Value)) : Prop :=
  ∀ (i : Nat) it, xs[i]? = some it → ∃ b off, a = some ⟨b, off, none⟩ ∧ ∀ (j : Nat) v, it[j]? = some v → w.cell? ⟨b, off + i * n + j, none⟩ = some v
theorem RowsAt.kept {n : Nat} {S : Nat → Prop} {w w' : World} {a : Option Addr} {xs : List (List Value)} (h : RowsAt n w a xs) (hk : Kept S w w') (hS : ∀ k, At a k → ¬ S k) : RowsAt n w' a xs := by
  intro i it hi
  obtain ⟨b, off, e, c⟩ := h i it hi
  exact ⟨b, off, e, fun j v hv => hk.cell (c j v hv) (hS b ⟨_, e, rfl⟩)⟩
theorem RowsAt.no {n : Nat} {w w' : World} {a : Option Addr} {xs : List (List Value)} (h : RowsAt n w a xs) (hk : Kept No w w') : RowsAt n w' a xs := h.kept hk (fun _ _ e => e)
theorem RowsAt.nil (n : Nat) (w : World) (a : Option Addr) : RowsAt n w a [] := fun i it h => by simp at h
def enL (es : List En) : List Value := (es.map En.cs).flatten
def laL (es : List La) : List Value := (es.map La.cs).flatten
def Es (w : World) (a : Option Addr) (es : List En) : Prop := RowsAt 4 w a (es.map En.cs)
def Ls (w : World) (a : Option Addr) (es : List La) : Prop := RowsAt 7 w a (es.map La.cs)
def Cs (w : World) (a : Option Addr) (es : List Cm) : Prop := RowsAt 9 w a (es.map Cm.cs)
theorem enL_c (es : List En) : ∀ x ∈ es.map En.cs, x.length = 4 := by intro x hx; obtain ⟨e, _, rfl⟩ := List.mem_map.1 hx; rfl
theorem laL_c (es : List La) : ∀ x ∈ es.map La.cs, x.length = 7 := by intro x hx; obtain ⟨e, _, rfl⟩ := List.mem_map.1 hx; rfl
theorem enL_len (es : List En) : (enL es).length = es.length * 4 := by unfold enL; rw [flat_len 4 _ (enL_c es), List.length_map]
theorem laL_len (es : List La) : (laL es).length = es.length * 7 := by unfold laL; rw [flat_len 7 _ (laL_c es), List.length_map]
theorem enL_one (es : List En) : ∀ v ∈ enL es, v.oneCell' = true := by
  intro v hv
  obtain ⟨x, hx, hv⟩ := List.mem_flatten.1 hv
  obtain ⟨e, _, rfl⟩ := List.mem_map.1 hx
  exact e.oneL v hv
theorem laL_one (es : List La) : ∀ v ∈ laL es, v.oneCell' = true := by
  intro v hv
  obtain ⟨x, hx, hv⟩ := List.mem_flatten.1 hv
  obtain ⟨e, _, rfl⟩ := List.mem_map.1 hx
  exact e.oneL v hv
def eAt (es : List En) (i : Nat) : En := es[i]?.getD enZ
def lAt (es : List La) (i : Nat) : La := es[i]?.getD laZ
def cAt (es : List Cm) (i : Nat) : Cm := es[i]?.getD cZ
theorem eAt_some {es : List En} {i : Nat} (h : i < es.length) : es[i]? = some (eAt es i) := by simp [eAt, List.getElem?_eq_getElem h]
theorem lAt_some {es : List La} {i : Nat} (h : i < es.length) : es[i]? = some (lAt es i) := by simp [lAt, List.getElem?_eq_getElem h]
theorem cAt_some {es : List Cm} {i : Nat} (h : i < es.length) : es[i]? = some (cAt es i) := by simp [cAt, List.getElem?_eq_getElem h]
theorem Es.at {w : World} {a : Option Addr} {es : List En} (h : Es w a es) {i : Nat} (hi : i < es.length) : ∃ b off, a = some ⟨b, off, none⟩ ∧ ∀ (j : Nat) v, (eAt es i).cs[j]? = some v → w.cell? ⟨b, off + i * 4 + j, none⟩ = some v :=
  h i _ (by rw [List.getElem?_map, eAt_some hi]; rfl)
theorem Ls.at {w : World} {a : Option Addr} {es : List La} (h : Ls w a es) {i : Nat} (hi : i < es.length) : ∃ b off, a = some ⟨b, off, none⟩ ∧ ∀ (j : Nat) v, (lAt es i).cs[j]? = some v → w.cell? ⟨b, off + i * 7 + j, none⟩ = some v :=
  h i _ (by rw [List.getElem?_map, lAt_some hi]; rfl)
theorem Cs.at {w : World} {a : Option Addr} {es : List Cm} (h : Cs w a es) {i : Nat} (hi : i < es.length) : ∃ b off, a = some ⟨b, off, none⟩ ∧ ∀ (j : Nat) v, (cAt es i).cs[j]? = some v → w.cell? ⟨b, off + i * 9 + j, none⟩ = some v :=
  h i _ (by rw [List.getElem?_map, cAt_some hi]; rfl)
/-- Numbers compared. -/
theorem b_lss (x y : Int) (w : World) : (binOp .lss 3 (.int .i64 x) (.int .i64 y)).run Try.prog w = .ok (.bool (decide (x < y))) w := by kernel_rfl
theorem b_leq (x y : Int) (w : World) : (binOp .leq 3 (.int .i64 x) (.int .i64 y)).run Try.prog w = .ok (.bool (decide (x ≤ y))) w := by kernel_rfl
theorem b_geq (x y : Int) (w : World) : (binOp .geq 3 (.int .i64 x) (.int .i64 y)).run Try.prog w = .ok (.bool (decide (y ≤ x))) w := by kernel_rfl

end Go.Proofs.Ytpabpeppgpeaoaa.Md
namespace Go.Proofs.Ytpabpeppgpeaoaa.Md
open Go.RowKit
set_option linter.unusedVariables false
set_option linter.unusedSimpArgs false

theorem Fr.ne {S : Nat → Prop} {w0 w : World} {l : List (Nat × TypeId × Array Value)} (h : Fr S w0 w l) (i j : Nat) {g g' : Nat} {T T' : TypeId} {cs cs' : Array Value} (hi : l[i]? = some (g, T, cs)) (hj : l[j]? = some (g', T', cs')) (hne : i ≠ j) : g ≠ g' := by
  rintro rfl
  exact hne (h.inj i j _ _ _ _ _ hi hj)
/-- The search. -/
def bs (p : Nat → Bool) : Nat → Nat → Nat → Nat
  | 0, lo, _ => lo
  | f + 1, lo, hi => if lo < hi then (if p ((lo + hi) / 2) then bs p f ((lo + hi) / 2 + 1) hi else bs p f lo ((lo + hi) / 2)) else lo
/-- A bucket, an answer, what a command makes. -/
structure Bk where
  up : Int
  es : List En
  ls : List La
structure An where
  er : Int
  e : En
  l : List En
def eqF (a b c d : Int) : Bool := a == c && b == d
def eqN (a b : ByteArray) : Bool := a.toList == b.toList
theorem eqN_iff {a b : ByteArray} : eqN a b = true ↔ a = b := by
  unfold eqN
  rw [ByteArray.toList_eq, ByteArray.toList_eq]
  constructor
  · intro h
    cases a; cases b
    simp at h
    simp [h]
  · rintro rfl; simp
/-- The model's equality. -/
def fld (n : String) (t : TypeId) (o : Nat) (b : Nat) : Field := { name := n, type := t, offset := o, embedded := false, tag := "", pkgPath := "", byteOffset := b }
theorem b_eql (a b : Int) (w : World) : (binOp .eql 3 (.int .i64 a) (.int .i64 b)).run Try.prog w = .ok (.bool (a == b)) w := by
  kernel_rfl
theorem b_neq (a b : Int) (w : World) : (binOp .neq 3 (.int .i64 a) (.int .i64 b)).run Try.prog w = .ok (.bool (!(a == b))) w := by
  kernel_rfl
end Go.Proofs.Ytpabpeppgpeaoaa.Md
namespace Go.Proofs.Ytpabpeppgpeaoaa.Md
open Go.RowKit
set_option linter.unusedVariables false
set_option linter.unusedSimpArgs false

/-- A list that can be read: the slice's value and what lies there. -/
structure RdE (w : World) (s : Sl) (es : List En) : Prop where
  row : Es w s.a es
  len : es.length = s.l
  cap : s.a = none → s.k = 0
structure RdL (w : World) (s : Sl) (es : List La) : Prop where
  row : Ls w s.a es
  len : es.length = s.l
  cap : s.a = none → s.k = 0
theorem RdE.kept {S : Nat → Prop} {w w' : World} {s : Sl} {es : List En} (h : RdE w s es) (hk : Kept S w w') (hS : ∀ k, At s.a k → ¬ S k) : RdE w' s es := ⟨RowsAt.kept h.row hk hS, h.len, h.cap⟩
theorem RdL.kept {S : Nat → Prop} {w w' : World} {s : Sl} {es : List La} (h : RdL w s es) (hk : Kept S w w') (hS : ∀ k, At s.a k → ¬ S k) : RdL w' s es := ⟨RowsAt.kept h.row hk hS, h.len, h.cap⟩
theorem RdE.no {w w' : World} {s : Sl} {es : List En} (h : RdE w s es) (hk : Kept No w w') : RdE w' s es := h.kept hk (fun _ _ e => e)
theorem RdL.no {w w' : World} {s : Sl} {es : List La} (h : RdL w s es) (hk : Kept No w w') : RdL w' s es := h.kept hk (fun _ _ e => e)
theorem RdE.src {w : World} {s : Sl} {es : List En} (h : RdE w s es) : ∀ (j : Nat) u, (enL es)[j]? = some u → ∃ ad, s.a = some ad ∧ w.cell? (ad.add j) = some u := by
  intro j u hj
  have hlt := (List.getElem?_eq_some_iff.1 hj).1
  rw [enL_len] at hlt
  have hi : j / 4 < es.length := by omega
  obtain ⟨b, off, e, hc⟩ := h.row.at hi
  refine ⟨_, e, ?_⟩
  have hj4 : j % 4 < (eAt es (j / 4)).cs.length := by have : (eAt es (j / 4)).cs.length = 4 := rfl; omega
  have := flat_get 4 (es.map En.cs) (enL_c es) (j / 4) (eAt es (j / 4)).cs (by rw [List.getElem?_map, eAt_some hi]; rfl) (j % 4) _ (List.getElem?_eq_getElem hj4)
  rw [show j / 4 * 4 + j % 4 = j by omega] at this
  have e2 : (eAt es (j / 4)).cs[j % 4]? = some u := by rw [List.getElem?_eq_getElem hj4, ← this]; exact hj
  rw [addr_add, show off + j = off + j / 4 * 4 + j % 4 by omega]
  exact hc _ _ e2
theorem RdL.src {w : World} {s : Sl} {es : List La} (h : RdL w s es) : ∀ (j : Nat) u, (laL es)[j]? = some u → ∃ ad, s.a = some ad ∧ w.cell? (ad.add j) = some u := by
  intro j u hj
  have hlt := (List.getElem?_eq_some_iff.1 hj).1
  rw [laL_len] at hlt
  have hi : j / 7 < es.length := by omega
  obtain ⟨b, off, e, hc⟩ := h.row.at hi
  refine ⟨_, e, ?_⟩
  have hj4 : j % 7 < (lAt es (j / 7)).cs.length := by have : (lAt es (j / 7)).cs.length = 7 := rfl; omega
  have := flat_get 7 (es.map La.cs) (laL_c es) (j / 7) (lAt es (j / 7)).cs (by rw [List.getElem?_map, lAt_some hi]; rfl) (j % 7) _ (List.getElem?_eq_getElem hj4)
  rw [show j / 7 * 7 + j % 7 = j by omega] at this
  have e2 : (lAt es (j / 7)).cs[j % 7]? = some u := by rw [List.getElem?_eq_getElem hj4, ← this]; exact hj
  rw [addr_add, show off + j = off + j / 7 * 7 + j % 7 by omega]
  exact hc _ _ e2
/-- A list that is one's own. -/
structure OwE (w : World) (base : Nat) (s : Sl) (es : List En) : Prop where
  own : Own 124 4 w base s.a s.k s.l (enL es)
  len : es.length = s.l
structure OwL (w : World) (base : Nat) (s : Sl) (es : List La) : Prop where
  own : Own 127 7 w base s.a s.k s.l (laL es)
  len : es.length = s.l
theorem OwE.rd {w : World} {base : Nat} {s : Sl} {es : List En} (h : OwE w base s es) : RdE w s es := ⟨Own.rows h.own (enL_c es) (by omega), h.len, h.own.cap0⟩
theorem OwL.rd {w : World} {base : Nat} {s : Sl} {es : List La} (h : OwL w base s es) : RdL w s es := ⟨Own.rows h.own (laL_c es) (by omega), h.len, h.own.cap0⟩
theorem OwE.kept {S : Nat → Prop} {w w' : World} {base : Nat} {s : Sl} {es : List En} (h : OwE w base s es) (hk : Kept S w w') (hS : ∀ k, At s.a k → ¬ S k) : OwE w' base s es := ⟨h.own.kept hk hS, h.len⟩
theorem OwL.kept {S : Nat → Prop} {w w' : World} {base : Nat} {s : Sl} {es : List La} (h : OwL w base s es) (hk : Kept S w w') (hS : ∀ k, At s.a k → ¬ S k) : OwL w' base s es := ⟨h.own.kept hk hS, h.len⟩
theorem OwE.no {w w' : World} {base : Nat} {s : Sl} {es : List En} (h : OwE w base s es) (hk : Kept No w w') : OwE w' base s es := h.kept hk (fun _ _ e => e)
theorem OwL.no {w w' : World} {base : Nat} {s : Sl} {es : List La} (h : OwL w base s es) (hk : Kept No w w') : OwL w' base s es := h.kept hk (fun _ _ e => e)
theorem OwE.nil (w : World) (base : Nat) : OwE w base slZ [] := ⟨Own.nil _ _ _ _, rfl⟩
theorem OwL.nil (w : World) (base : Nat) : OwL w base slZ [] := ⟨Own.nil _ _ _ _, rfl⟩
end Go.Proofs.Ytpabpeppgpeaoaa.Md
namespace Go.Proofs.Ytpabpeppgpeaoaa.Md
open Go.RowKit
set_option linter.unusedVariables false
set_option linter.unusedSimpArgs false

/-- Parts of slices, copies, what is cleared. -/
theorem sliced_in (g off l h m c : Nat) (hl : l < m) : sliced (some ⟨g, off, none⟩) l h m c = .slice (some ⟨g, off + l * c, none⟩) (h - l) (m - l) := by
  unfold sliced
  rw [if_neg (by omega)]
  simp [addr_add]
section
variable {o : Oper} {a : Act} {w : World}
theorem size_of {t : TypeId} {n : Nat} (h : (Try.prog.info? t).map (·.size) = some n) (w : World) : (sizeOf t).run Try.prog w = .ok n w := by
  cases hq : Try.prog.info? t with
  | none => simp [hq] at h
  | some i =>
    have : i.size = n := by simpa [hq] using h
    simp [sizeOf, typeInfo, hq, this]
theorem exec_slH (t : TypeId) (x hi : Operand) (ho : o.op = .slice t x none (some hi) none) (c : Nat) (ht : Try.prog.underlying t = some (.slice (Try.prog.elem t))) (hs : (Try.prog.info? (Try.prog.elem t)).map (·.size) = some c) (ad : Option Addr) (len cap l : Nat)
    (hx : a.eval x = .slice ad len cap) (hl : a.eval hi = .int .i64 (l : Int)) (h : l ≤ cap) : (execOp a.eval o).run Try.prog w = .ok (.value (sliced ad 0 l cap c)) w := by
  simp only [execOp, ho, hx, Option.map_some, Option.map_none, hl, Sem.run_bind, run_sliceAt_slice w t _ _ _ _ ht, run_slice_h w t ad len cap ht .i64 (l : Int) (by omega) (by omega), size_of hs, Result.andThen_ok, Sem.run_pure, Int.toNat_natCast]
end
/-- A row of one's own laid open, and shut. -/
theorem _root_.Go.Proofs.Ytpabpeppgpeaoaa.Own.op {t : TypeId} {c : Nat} {w : World} {base : Nat} {a : Option Addr} {cap n : Nat} {vs : List Value} (h : Own t c w base a cap n vs) (h0 : 0 < n) :
    ∃ g cur, a = some ⟨g, 0, none⟩ ∧ base ≤ g ∧ Box w g t (List.toArray cur) ∧ n ≤ cap ∧ cap ≤ 9223372036854775807 ∧ cur.length = cap * c ∧ cur.take (n * c) = vs := by
  rcases h.2 with ⟨hv, hn⟩ | ⟨g, cap', cur, hv, hb, hg, hle, hm, hs, ht⟩
  · omega
  · simp only [Value.slice.injEq] at hv
    obtain ⟨rfl, -, rfl⟩ := hv
    exact ⟨g, cur.toList, rfl, hb, by unfold Box; simpa using hg, hle, by unfold maxLen at hm; omega, by simpa using hs, ht⟩
theorem _root_.Go.Proofs.Ytpabpeppgpeaoaa.Own.shut {t : TypeId} {c : Nat} {w : World} {base g cap n : Nat} {cur vs : List Value} (hb : base ≤ g) (hg : Box w g t cur.toArray) (hle : n ≤ cap) (hm : cap ≤ 9223372036854775807) (hs : cur.length = cap * c) (ht : cur.take (n * c) = vs) : Own t c w base (some ⟨g, 0, none⟩) cap n vs := by
  refine ⟨?_, .inr ⟨g, cap, cur.toArray, rfl, hb, hg, hle, by unfold maxLen; omega, by simpa using hs, by simpa using ht⟩⟩
  rw [← ht, List.length_take, hs]
  have : n * c ≤ cap * c := Nat.mul_le_mul_right _ hle
  omega
end Go.Proofs.Ytpabpeppgpeaoaa.Md
namespace Go.Proofs.Ytpabpeppgpeaoaa.Md
open Go.RowKit
set_option linter.unusedVariables false
set_option linter.unusedSimpArgs false

theorem sliced0 (g n m c : Nat) (h : 0 < m) : sliced (some ⟨g, 0, none⟩) 0 n m c = .slice (some ⟨g, 0, none⟩) n m := by
  rw [sliced_in g 0 0 n m c h]; simp
theorem made_row (c : Nat) (z : List Value) (hz : z.length = c) (h0 : 0 < c) (n : Nat) : madeCells z.toArray (n * c) = ((List.replicate n z).flatten).toArray := by
  have hc : ∀ x ∈ List.replicate n z, x.length = c := fun x hx => by rw [(List.mem_replicate.1 hx).2]; exact hz
  have hfl : ((List.replicate n z).flatten).length = n * c := by rw [flat_len c _ hc, List.length_replicate]
  apply Array.ext
  · rw [size_madeCells]; simp only [List.size_toArray]; exact hfl.symm
  · intro i h1 h2
    rw [size_madeCells] at h1
    have hi : i / c < n := Nat.div_lt_of_lt_mul (by rw [Nat.mul_comm]; exact h1)
    have hm : i % c < z.length := by rw [hz]; exact Nat.mod_lt _ h0
    have h3 := flat_get c _ hc (i / c) z (by simp [hi]) (i % c) z[i % c] (List.getElem?_eq_getElem hm)
    rw [show i / c * c + i % c = i by rw [Nat.mul_comm]; exact Nat.div_add_mod i c] at h3
    have h4 : ((List.replicate n z).flatten)[i]? = some (((List.replicate n z).flatten)[i]'(by simpa using h2)) := List.getElem?_eq_getElem _
    rw [h4] at h3
    have h5 := Option.some.inj h3
    simp only [List.getElem_toArray, h5]
    simp [madeCells, hz]
    rw [List.getElem?_eq_getElem hm]; rfl
theorem exec_make {o : Oper} {a : Act} {w w' : World} {v : Value} (t : TypeId) (x y : Operand) (ho : o.op = .makeSlice t x y) (vx vy : Value) (hx : a.eval x = vx) (hy : a.eval y = vy) (hrun : (Instr.makeSlice t vx vy).run Try.prog w = .ok v w') : (execOp a.eval o).run Try.prog w = .ok (.value v) w' := by
  simp [execOp, ho, hx, hy, hrun]

end Go.Proofs.Ytpabpeppgpeaoaa.Md
namespace Go.Proofs.Ytpabpeppgpeaoaa.Md
open Go.RowKit
set_option linter.unusedVariables false
set_option linter.unusedSimpArgs false

/-- Stamp, key, address, instance, place, block, held, message, change: as cells. -/
structure Sp where
  n : Int
  c : Int
structure Ky where
  k : Int
  a : Int
  b : Int
  c : Int
structure Ad where
  cl : Bool
  id : Int
structure In where
  p : Sp
  a : Sp
  c : Cm
  d : Bool
structure Pl where
  n : Int
  i : In
structure Bl where
  s : Sp
  d : Sl
structure Hd where
  b : Bl
  k : Bv
  r : Sl
structure Mg where
  k : Int
  fr : Ad
  too : Ad
  op : Int
  rd : Int
  ky : Ky
  st : Sp
  hd : Sp
  bl : Sl
  c : Cm
  bk : Bv
  cm : Sl
  mo : Bool
structure Ch where
  ky : Ky
  b : Bl
  i : In
  bk : Bv
def spZ : Sp := ⟨0, 0⟩
def kyZ : Ky := ⟨0, 0, 0, 0⟩
def adZ : Ad := ⟨false, 0⟩
def inZ : In := ⟨spZ, spZ, cZ, false⟩
def plZ : Pl := ⟨0, inZ⟩
def mgZ : Mg := ⟨0, adZ, adZ, 0, 0, kyZ, spZ, spZ, slZ, cZ, bvZ, slZ, false⟩
instance : Inhabited Pl := ⟨plZ⟩
def Sp.cs (s : Sp) : List Value := [.int .i64 s.n, .int .i64 s.c]
def Ky.cs (s : Ky) : List Value := [.int .i64 s.k, .int .i64 s.a, .int .i64 s.b, .int .i64 s.c]
def Ad.cs (s : Ad) : List Value := [.bool s.cl, .int .i64 s.id]
def In.cs (s : In) : List Value := s.p.cs ++ (s.a.cs ++ (s.c.cs ++ [.bool s.d]))
def Pl.cs (s : Pl) : List Value := [.int .i64 s.n] ++ s.i.cs
def Bl.cs (s : Bl) : List Value := s.s.cs ++ [s.d.v]
def Hd.cs (s : Hd) : List Value := s.b.cs ++ (s.k.cs ++ [s.r.v])
def Mg.cs (m : Mg) : List Value := [.int .i64 m.k] ++ (m.fr.cs ++ (m.too.cs ++ ([.int .i64 m.op, .int .i64 m.rd] ++ (m.ky.cs ++ (m.st.cs ++ (m.hd.cs ++ ([m.bl.v] ++ (m.c.cs ++ (m.bk.cs ++ [m.cm.v, .bool m.mo])))))))))
def Ch.cs (s : Ch) : List Value := s.ky.cs ++ (s.b.cs ++ (s.i.cs ++ s.bk.cs))
def Sp.cells (s : Sp) : Array Value := s.cs.toArray
def Ky.cells (s : Ky) : Array Value := s.cs.toArray
def Ad.cells (s : Ad) : Array Value := s.cs.toArray
def In.cells (s : In) : Array Value := s.cs.toArray
def Pl.cells (s : Pl) : Array Value := s.cs.toArray
def Bl.cells (s : Bl) : Array Value := s.cs.toArray
def Hd.cells (s : Hd) : Array Value := s.cs.toArray
def Mg.cells (s : Mg) : Array Value := s.cs.toArray
def Ch.cells (s : Ch) : Array Value := s.cs.toArray
theorem Sp.oneL (s : Sp) : ∀ v ∈ s.cs, v.oneCell' = true := by simp [Sp.cs, Value.oneCell']
theorem Ky.oneL (s : Ky) : ∀ v ∈ s.cs, v.oneCell' = true := by simp [Ky.cs, Value.oneCell']
theorem Ad.oneL (s : Ad) : ∀ v ∈ s.cs, v.oneCell' = true := by simp [Ad.cs, Value.oneCell']
theorem In.oneL (s : In) : ∀ v ∈ s.cs, v.oneCell' = true := by simp [In.cs, Sp.cs, Cm.cs, Value.oneCell']
theorem Pl.oneL (s : Pl) : ∀ v ∈ s.cs, v.oneCell' = true := by simp [Pl.cs, In.cs, Sp.cs, Cm.cs, Value.oneCell']
theorem Bl.oneL (s : Bl) : ∀ v ∈ s.cs, v.oneCell' = true := by simp [Bl.cs, Sp.cs, Sl.v, Value.oneCell']
theorem Bv.oneL (s : Bv) : ∀ v ∈ s.cs, v.oneCell' = true := by simp [Bv.cs, Sl.v, Value.oneCell']
theorem Hd.oneL (s : Hd) : ∀ v ∈ s.cs, v.oneCell' = true := by simp [Hd.cs, Bl.cs, Bv.cs, Sp.cs, Sl.v, Value.oneCell']
theorem Mg.oneL (s : Mg) : ∀ v ∈ s.cs, v.oneCell' = true := by simp [Mg.cs, Ky.cs, Ad.cs, Bv.cs, Sp.cs, Cm.cs, Sl.v, Value.oneCell']
theorem Ch.oneL (s : Ch) : ∀ v ∈ s.cs, v.oneCell' = true := by simp [Ch.cs, Bl.cs, In.cs, Ky.cs, Bv.cs, Sp.cs, Cm.cs, Sl.v, Value.oneCell']
theorem part_of {cs sub : List Value} {off : Nat} (h : (cs.drop off).take sub.length = sub) : Part cs off sub := fun j v hj => by
  have hlt := (List.getElem?_eq_some_iff.1 hj).1
  rw [← h, List.getElem?_take_of_lt hlt, List.getElem?_drop] at hj
  exact hj
theorem run_store_to {w : World} {g off : Nat} {T ty : TypeId} {cur vs new : List Value} {v : Value} (hb : Box w g T cur.toArray) (hv : v.cells = vs.toArray) (hi : (Try.prog.info? ty).map (·.size) = some vs.length)
    (hl : off + vs.length ≤ cur.length) (h1 : ∀ x ∈ vs, x.oneCell' = true) (hn : putL cur off vs = new) : (storeVar ty ⟨g, off, none⟩ v).run Try.prog w = .ok () (w.setRow g new.toArray) := by
  rw [run_store_at hb hv hi hl h1, hn]
theorem rs {w : World} {g off : Nat} {T ty : TypeId} {v : Value} (cur vs new : List Value) (hb : Box w g T cur.toArray) (hi : (Try.prog.info? ty).map (·.size) = some vs.length) (h1 : ∀ x ∈ vs, x.oneCell' = true) (hv : v.cells = vs.toArray := by kernel_rfl) (hl : Nat.ble (off + vs.length) cur.length = true := by kernel_rfl) (hn : putL cur off vs = new := by kernel_rfl) : (storeVar ty ⟨g, off, none⟩ v).run Try.prog w = .ok () (w.setRow g new.toArray) := run_store_to hb hv hi (Nat.le_of_ble_eq_true hl) h1 hn
theorem Try.und43 : Try.prog.underlying 37 = some (.struct (Try.prog.fieldsOf 37)) := by kernel_rfl
theorem Try.und26 : Try.prog.underlying 40 = some (.slice 5) := by kernel_rfl
theorem Try.info47 : (Try.prog.info? 28).map (fun i => (i.zero, i.size, i.bytes)) = some (some (.agg cZ.cells), 9, 80) := by kernel_rfl
end Go.Proofs.Ytpabpeppgpeaoaa.Md
namespace Go.Proofs.Ytpabpeppgpeaoaa.Md
open Go.RowKit
set_option linter.unusedVariables false
set_option linter.unusedSimpArgs false

theorem eqBool (d : Nat) (a b : Bool) (w : World) : (Op.equalIn (d + 1) 4 (.bool a) (.bool b)).run Try.prog w = .ok (a == b) w := run_equalIn_bool w d 4 a b Try.und4
def eqK (a b : Ky) : Bool := (a.k == b.k) && ((a.a == b.a) && ((a.b == b.b) && ((a.c == b.c))))
theorem flds23 : (Try.prog.fieldsOf 23).toList = [fld "Kind" 3 0 0, fld "A" 3 1 8, fld "B" 3 2 16, fld "C" 3 3 24] := by kernel_rfl
def eqS (a b : Sp) : Bool := (a.n == b.n) && ((a.c == b.c))
theorem eqS_iff {a b : Sp} : eqS a b = true ↔ a = b := by
  obtain ⟨a1, a2⟩ := a
  obtain ⟨b1, b2⟩ := b
  simp [eqS, and_assoc]
theorem eqS_refl (a : Sp) : eqS a a = true := eqS_iff.2 rfl
def eqA (a b : Ad) : Bool := (a.cl == b.cl) && ((a.id == b.id))
theorem flds43 : (Try.prog.fieldsOf 37).toList = [fld "Client" 4 0 0, fld "Id" 3 1 8] := by kernel_rfl
theorem eq43 (d : Nat) (a b : Ad) (w : World) : (Op.equalIn (d + 2) 37 (.agg a.cells) (.agg b.cells)).run Try.prog w = .ok (eqA a b) w := by
  have h0 : ∀ (a : Ad) (w : World), (part 4 a.cells 0).run Try.prog w = .ok (.bool a.cl) w := fun a w => by kernel_rfl
  have h1 : ∀ (a : Ad) (w : World), (part 3 a.cells 1).run Try.prog w = .ok (.int .i64 a.id) w := fun a w => by kernel_rfl
  have g3 : ∀ (a b : Int) (w : World), (Op.equalIn (d + 1) 3 (.int .i64 a) (.int .i64 b)).run Try.prog w = .ok (a == b) w := eqInt d
  have g4 : ∀ (a b : Bool) (w : World), (Op.equalIn (d + 1) 4 (.bool a) (.bool b)).run Try.prog w = .ok (a == b) w := eqBool d
  rw [show d + 2 = (d + 1) + 1 from rfl, run_equalIn_struct w (d + 1) 37 _ _ Try.und43 (by kernel_rfl), flds43]
  unfold eqA
  generalize e0 : (a.cl == b.cl) = q0
  generalize e1 : (a.id == b.id) = q1
  cases q0
  · simp [Op.eqFields, fld, h0, h1, g3, g4, e0, Result.andThen]
  cases q1
  · simp [Op.eqFields, fld, h0, h1, g3, g4, e0, e1, Result.andThen]
  · simp [Op.eqFields, fld, h0, h1, g3, g4, e0, e1, Result.andThen]
def eqC (a b : Cm) : Bool := (a.k == b.k) && ((a.cl == b.cl) && ((a.op == b.op) && (eqN a.nm b.nm && (eqF a.f0 a.f1 b.f0 b.f1 && (eqF a.g0 a.g1 b.g0 b.g1 && ((a.sz == b.sz)))))))
theorem eqC_iff {a b : Cm} : eqC a b = true ↔ a = b := by
  obtain ⟨a1, a2, a3, a4, a5, a6, a7, a8, a9⟩ := a
  obtain ⟨b1, b2, b3, b4, b5, b6, b7, b8, b9⟩ := b
  simp [eqC, eqN_iff, eqF, and_assoc]
theorem eqC_refl (a : Cm) : eqC a a = true := eqC_iff.2 rfl
end Go.Proofs.Ytpabpeppgpeaoaa.Md
namespace Go.Proofs.Ytpabpeppgpeaoaa.Md
open Go.RowKit Go.Shelf
set_option linter.unusedVariables false
set_option linter.unusedSimpArgs false
attribute [local go_sem] Oper.semAt_some
/-- Rows of places, of commands, of changes, bytes: lists that can be read. -/
structure RdP (w : World) (s : Sl) (ps : List Pl) : Prop where
  row : RowsAt 15 w s.a (ps.map Pl.cs)
  len : ps.length = s.l
  cap : s.a = none → s.k = 0
theorem RdP.kept {S : Nat → Prop} {w w' : World} {s : Sl} {ps : List Pl} (h : RdP w s ps) (hk : Kept S w w') (hS : ∀ k, At s.a k → ¬ S k) : RdP w' s ps := ⟨RowsAt.kept h.row hk hS, h.len, h.cap⟩
theorem RdP.no {w w' : World} {s : Sl} {ps : List Pl} (h : RdP w s ps) (hk : Kept No w w') : RdP w' s ps := h.kept hk (fun _ _ e => e)
def pAt (ps : List Pl) (i : Nat) : Pl := ps[i]?.getD plZ
theorem pAt_some {ps : List Pl} {i : Nat} (h : i < ps.length) : ps[i]? = some (pAt ps i) := by simp [pAt, List.getElem?_eq_getElem h]
theorem RdP.at {w : World} {s : Sl} {ps : List Pl} (h : RdP w s ps) {i : Nat} (hi : i < s.l) : ∃ b off, s.a = some ⟨b, off, none⟩ ∧ ∀ (j : Nat) v, (pAt ps i).cs[j]? = some v → w.cell? ⟨b, off + i * 15 + j, none⟩ = some v :=
  h.row i _ (by rw [List.getElem?_map, pAt_some (by rw [h.len]; exact hi)]; rfl)
theorem RowsAt.lt {n : Nat} {w : World} {a : Option Addr} {xs : List (List Value)} (h : RowsAt n w a xs) (h0 : 0 < xs.length) (hx : ∀ x ∈ xs, 0 < x.length) {k : Nat} (hk : At a k) : k < w.heap.size := by
  obtain ⟨ad, rfl, rfl⟩ := hk
  obtain ⟨b, off, e, hc⟩ := h 0 _ (List.getElem?_eq_getElem h0)
  cases e
  have h1 := hx _ (List.getElem_mem h0)
  exact World.block_lt_of_cell? w ⟨b, off + 0 * n + 0, none⟩ (hc 0 _ (List.getElem?_eq_getElem h1))
def SB (lb : Nat) (a : Option Addr) : Nat → Prop := fun k => k = lb ∨ At a k
def NB (lb : Nat) (a : Option Addr) : Nat → Prop := fun k => ¬ SB lb a k
section
variable {F : Fence} {n : Nat} {ops : Array Oper} {a : Act} {w : World} {Q : Exit → Act → World → Prop} {md : Region.Mode}
end
end Go.Proofs.Ytpabpeppgpeaoaa.Md
namespace Go.Proofs.Ytpabpeppgpeaoaa.Md
open Go.RowKit Go.Shelf
set_option linter.unusedVariables false
set_option linter.unusedSimpArgs false

attribute [local go_sem] Oper.semAt_some
section
variable {F : Fence} {n : Nat} {P : Program}
end

end Go.Proofs.Ytpabpeppgpeaoaa.Md
namespace Go.Proofs.Ytpabpeppgpeaoaa.Md
open Go.RowKit
set_option linter.unusedVariables false
set_option linter.unusedSimpArgs false

theorem _root_.Go.Proofs.Ytpabpeppgpeaoaa.Box.no {w w' : World} {g : Nat} {t : TypeId} {cs : Array Value} (h : Box w g t cs) (hk : Kept No w w') : Box w' g t cs := h.kept hk (fun e => e)
/-- A block of the frame that a call has written over. -/
theorem Fr.put {S : Nat → Prop} {w0 w w' : World} {l : List (Nat × TypeId × Array Value)} (h : Fr S w0 w l) (i : Nat) {g : Nat} {T : TypeId} {cs cs' : Array Value} (hi : l[i]? = some (g, T, cs)) (hk : Kept (Only g) w w') (hb : Box w' g T cs') : Fr S w0 w' (l.set i (g, T, cs')) := by
  have hlt := (List.getElem?_eq_some_iff.1 hi).1
  have key : ∀ (j : Nat) g1 T1 cs1, (l.set i (g, T, cs'))[j]? = some (g1, T1, cs1) → (j = i ∧ g1 = g ∧ T1 = T ∧ cs1 = cs') ∨ (j ≠ i ∧ l[j]? = some (g1, T1, cs1)) := by
    intro j g1 T1 cs1 hj
    rw [List.getElem?_set] at hj
    by_cases e : i = j
    · subst e
      simp [hlt] at hj
      exact .inl ⟨rfl, hj.1.symm, hj.2.1.symm, hj.2.2.symm⟩
    · simp [e] at hj
      exact .inr ⟨fun h => e h.symm, hj⟩
  refine ⟨h.kept.trans hk (fun _ e => e) (fun k hk' e => by have h1 := h.low i g T cs hi; have e : k = g := e; omega), ?_, ?_, ?_⟩
  · intro j g1 T1 cs1 hj
    rcases key j g1 T1 cs1 hj with ⟨rfl, rfl, rfl, rfl⟩ | ⟨hne, hj2⟩
    · exact hb
    · refine (h.box j g1 T1 cs1 hj2).kept hk (fun e => hne ?_)
      have e : g1 = g := e
      subst e
      exact h.inj j i _ _ _ _ _ hj2 hi
  · intro j g1 T1 cs1 hj
    rcases key j g1 T1 cs1 hj with ⟨rfl, rfl, rfl, rfl⟩ | ⟨hne, hj⟩
    · exact h.low _ _ _ _ hi
    · exact h.low j g1 T1 cs1 hj
  · intro j k g1 T1 cs1 T2 cs2 hj hk
    rcases key j g1 T1 cs1 hj with ⟨rfl, rfl, rfl, rfl⟩ | ⟨hne, hj2⟩ <;> rcases key k g1 T2 cs2 hk with ⟨rfl, h1, h2, h3⟩ | ⟨hne', hk2⟩
    · rfl
    · exact h.inj _ _ _ _ _ _ _ hi hk2
    · subst h1; exact h.inj _ _ _ _ _ _ _ hj2 hi
    · exact h.inj _ _ _ _ _ _ _ hj2 hk2
/-- Bytes that can be read, bytes of one's own. -/
structure RdB (w : World) (s : Sl) (bs : List Int) : Prop where
  row : Nums .u8 w s.a bs
  len : bs.length = s.l
  cap : s.a = none → s.k = 0
theorem RdB.kept {S : Nat → Prop} {w w' : World} {s : Sl} {bs : List Int} (h : RdB w s bs) (hk : Kept S w w') (hS : ∀ k, At s.a k → ¬ S k) : RdB w' s bs := ⟨h.row.kept hk (fun b off e => hS b ⟨_, e, rfl⟩), h.len, h.cap⟩
theorem RdB.no {w w' : World} {s : Sl} {bs : List Int} (h : RdB w s bs) (hk : Kept No w w') : RdB w' s bs := h.kept hk (fun _ _ e => e)
def u8L (bs : List Int) : List Value := bs.map (Value.int .u8)
structure OwB (w : World) (base : Nat) (s : Sl) (bs : List Int) : Prop where
  own : Own 5 1 w base s.a s.k s.l (u8L bs)
  len : bs.length = s.l
theorem OwB.kept {S : Nat → Prop} {w w' : World} {base : Nat} {s : Sl} {bs : List Int} (h : OwB w base s bs) (hk : Kept S w w') (hS : ∀ k, At s.a k → ¬ S k) : OwB w' base s bs := ⟨h.own.kept hk hS, h.len⟩
theorem OwB.no {w w' : World} {base : Nat} {s : Sl} {bs : List Int} (h : OwB w base s bs) (hk : Kept No w w') : OwB w' base s bs := h.kept hk (fun _ _ e => e)
theorem OwB.nil (w : World) (base : Nat) : OwB w base slZ [] := ⟨Own.nil _ _ _ _, rfl⟩
theorem OwB.rd {w : World} {base : Nat} {s : Sl} {bs : List Int} (h : OwB w base s bs) : RdB w s bs := ⟨Own.nums h.own h.len, h.len, h.own.cap0⟩
theorem RdB.src {w : World} {s : Sl} {bs : List Int} (h : RdB w s bs) : ∀ (j : Nat) u, (u8L bs)[j]? = some u → ∃ ad, s.a = some ad ∧ w.cell? (ad.add j) = some u := by
  intro j u hj
  have hlt := (List.getElem?_eq_some_iff.1 hj).1
  obtain ⟨ad, e, hc⟩ := h.row.src (by simp [u8L] at hlt ⊢; omega)
  exact ⟨ad, e, hc j u hj⟩
end Go.Proofs.Ytpabpeppgpeaoaa.Md
namespace Go.Proofs.Ytpabpeppgpeaoaa.Md
open Go.RowKit Go.Shelf
set_option linter.unusedVariables false
set_option linter.unusedSimpArgs false

attribute [local go_sem] Oper.semAt_some
/-- Steps of a region inside a fence. -/
structure WI (F : Fence) (n : Nat) (ops : Array Oper) (Q : Exit → Act → World → Prop) (l : List Oper) (a : Act) (w : World) : Prop where
  out : wpListIn F n Try.prog ops Q l a w
section
variable {F : Fence} {n : Nat} {ops : Array Oper} {rest : List Oper} {o : Oper} {a : Act} {w w' : World} {Q : Exit → Act → World → Prop}
theorem WI.nil (h : Q .normal a w) : WI F n ops Q [] a w := ⟨wpListIn_nil h⟩
theorem WI.start {id : Nat} {l : List Oper} (h : WI F n l.toArray Q l a w) : (Code.region id l.toArray false).wpIn F n Try.prog Q a w := wpIn_region_lit h.out
end
def cmL (es : List Cm) : List Value := (es.map Cm.cs).flatten
theorem cmL_c (es : List Cm) : ∀ x ∈ es.map Cm.cs, x.length = 9 := by intro x hx; obtain ⟨e, _, rfl⟩ := List.mem_map.1 hx; rfl
theorem cmL_len (es : List Cm) : (cmL es).length = es.length * 9 := by unfold cmL; rw [flat_len 9 _ (cmL_c es), List.length_map]
end Go.Proofs.Ytpabpeppgpeaoaa.Md
namespace Go.Proofs.Ytpabpeppgpeaoaa.Md
open Go.RowKit Go.Shelf
set_option linter.unusedVariables false
set_option linter.unusedSimpArgs false

theorem b_subw (x y z : Int) (h : IntKind.i64.wrap (x - y) = z) (w : World) : (binOp .sub 3 (.int .i64 x) (.int .i64 y)).run Try.prog w = .ok (.int .i64 z) w := by rw [← h]; kernel_rfl
theorem b_addw (x y z : Int) (h : IntKind.i64.wrap (x + y) = z) (w : World) : (binOp .add 3 (.int .i64 x) (.int .i64 y)).run Try.prog w = .ok (.int .i64 z) w := by rw [← h]; kernel_rfl
attribute [local go_sem] Oper.semAt_some
def decF (f : Int) (c : Nat) (l : List (Int × Cm)) : List Cm := l.foldl (fun acc x => if f ≤ x.1 ∧ x.1 - f < c then acc.set (x.1 - f).toNat x.2 else acc) (List.replicate c cZ)
structure OwC (w : World) (base : Nat) (s : Sl) (cs : List Cm) : Prop where
  own : Own 28 9 w base s.a s.k s.l (cmL cs)
  len : cs.length = s.l
/-- What the function holds while it goes over the row. -/
structure DcAt (w : World) (g1 g2 g3 g : Nat) (f : Int) (c : Nat) (l : List (Int × Cm)) (W : World) : Prop where
  b1 : Box W g1 3 #[.int .i64 f]
  b2 : Box W g2 3 #[.int .i64 (c : Int)]
  b3 : Box W g3 45 #[.slice (some ⟨g, 0, none⟩) c c]
  b4 : Box W g 28 (cmL (decF f c l)).toArray
  kept : Kept No w W
theorem DcAt.cells {w : World} {g1 g2 g3 g : Nat} {f : Int} {c : Nat} {l : List (Int × Cm)} {A' B' : World} {row : Option Nat} {N : Nat} (h : DcAt w g1 g2 g3 g f c l A') (hg : A'.grownBy B' row) (hr : ∀ r, row = some r → N ≤ r ∧ ∃ o : Obj, A'.heap[r]? = some o ∧ o.isCells = false) (hN : w.heap.size ≤ N) : DcAt w g1 g2 g3 g f c l B' := by
  have hr' : ∀ r, row = some r → ∃ o : Obj, A'.heap[r]? = some o ∧ o.isCells = false := fun r e => (hr r e).2
  exact ⟨box_cells h.b1 hg hr', box_cells h.b2 hg hr', box_cells h.b3 hg hr', box_cells h.b4 hg hr', h.kept.grown hg (fun k e hk => by have := (hr k e).1; omega)⟩
end Go.Proofs.Ytpabpeppgpeaoaa.Md
namespace Go.Proofs.Ytpabpeppgpeaoaa.Md
open Go.RowKit
set_option linter.unusedVariables false
set_option linter.unusedSimpArgs false

theorem Fr.add {S : Nat → Prop} {w0 w w' : World} {l : List (Nat × TypeId × Array Value)} (h : Fr S w0 w l) {g : Nat} {T : TypeId} {cs : Array Value} (hk : Kept No w w') (hg : w.heap.size ≤ g) (hb : Box w' g T cs) : Fr S w0 w' (l ++ [(g, T, cs)]) := by
  have h1 := h.no hk
  refine ⟨h1.kept, ?_, ?_, ?_⟩
  · intro i g1 T1 cs1 hi
    rw [List.getElem?_append] at hi
    split at hi
    · exact h1.box i g1 T1 cs1 hi
    · obtain ⟨rfl, rfl, rfl⟩ : g = g1 ∧ T = T1 ∧ cs = cs1 := by
        have := List.mem_of_getElem? hi
        simpa [eq_comm] using this
      exact hb
  · intro i g1 T1 cs1 hi
    rw [List.getElem?_append] at hi
    split at hi
    · exact h1.low i g1 T1 cs1 hi
    · obtain ⟨rfl, rfl, rfl⟩ : g = g1 ∧ T = T1 ∧ cs = cs1 := by
        have := List.mem_of_getElem? hi
        simpa [eq_comm] using this
      exact Nat.le_trans h.kept.size hg
  · intro i j g1 T1 cs1 T2 cs2 hi hj
    rw [List.getElem?_append] at hi hj
    split at hi <;> split at hj
    · exact h.inj i j g1 T1 cs1 T2 cs2 hi hj
    · have q1 := (h.box i g1 T1 cs1 hi).lt
      have q2 : g1 = g := by have := List.mem_of_getElem? hj; simp at this; exact this.1
      omega
    · have q1 := (h.box j g1 T2 cs2 hj).lt
      have q2 : g1 = g := by have := List.mem_of_getElem? hi; simp at this; exact this.1
      omega
    · have q1 := (List.getElem?_eq_some_iff.1 hi).1
      have q2 := (List.getElem?_eq_some_iff.1 hj).1
      simp at q1 q2
      omega
end Go.Proofs.Ytpabpeppgpeaoaa.Md
namespace Go.Proofs.Ytpabpeppgpeaoaa.Md
open Go.RowKit
set_option linter.unusedVariables false
set_option linter.unusedSimpArgs false

structure RdC (w : World) (s : Sl) (cs : List Cm) : Prop where
  row : Cs w s.a cs
  len : cs.length = s.l
  cap : s.a = none → s.k = 0
theorem RdC.kept {S : Nat → Prop} {w w' : World} {s : Sl} {cs : List Cm} (h : RdC w s cs) (hk : Kept S w w') (hS : ∀ k, At s.a k → ¬ S k) : RdC w' s cs := ⟨RowsAt.kept h.row hk hS, h.len, h.cap⟩
theorem RdC.no {w w' : World} {s : Sl} {cs : List Cm} (h : RdC w s cs) (hk : Kept No w w') : RdC w' s cs := h.kept hk (fun _ _ e => e)
end Go.Proofs.Ytpabpeppgpeaoaa.Md
namespace Go.Proofs.Ytpabpeppgpeaoaa.Md
open Go.RowKit
set_option linter.unusedVariables false
set_option linter.unusedSimpArgs false
end Go.Proofs.Ytpabpeppgpeaoaa.Md
namespace Go.Proofs.Ytpabpeppgpeaoaa.Md
open Go.RowKit
set_option linter.unusedVariables false
set_option linter.unusedSimpArgs false

theorem RdB.one {w : World} {g : Nat} {z : Int} (hb : Box w g 5 #[.int .u8 z]) : RdB w ⟨some ⟨g, 0, none⟩, 1, 1⟩ [z] := by
  refine ⟨fun i hi => ⟨g, 0, rfl, ?_⟩, rfl, fun e => by cases e⟩
  have hi0 : i = 0 := by simp at hi; exact hi
  subst hi0
  rw [hb.cell]; rfl
theorem RdP.nil (w : World) : RdP w slZ [] := ⟨RowsAt.nil _ _ _, rfl, fun _ => rfl⟩
end Go.Proofs.Ytpabpeppgpeaoaa.Md
