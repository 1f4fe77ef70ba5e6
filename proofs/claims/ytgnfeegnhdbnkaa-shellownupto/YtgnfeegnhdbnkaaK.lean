import Derived.Test.YtgnfeegnhdbnkaaRows
import Derived.WalkKit
import Derived.Deep.DeepMust
import Derived.Deep.QuietTactic
import Derived.Deep.Draws
import Derived.BigQuiet
import Derived.Laws.CopyOwn
import Derived.Laws.AppendOwnNone
import Derived.WalkSmall
import Derived.Laws.BitsLemmas
import Derived.Laws.Closers25b
namespace Go.Proofs.Ytgnfeegnhdbnkaa
open Go.RowKit
set_option linter.unusedVariables false

theorem ret_bool {a b : Bool} (h : a = b) : Ending.returned (.bool a) = .returned (.bool b) := by rw [h]
theorem ret_int {k : IntKind} {a b : Int} (h : a = b) : Ending.returned (.int k a) = .returned (.int k b) := by rw [h]
theorem drewN2 (w : World) (n m : Nat) : (w.drewN n).drewN m = w.drewN (n + m) := by simp [World.drewN, Nat.add_assoc]

/-- From w to w' no old block has turned but those of S; the streams are as they were. -/
structure Kept (S : Nat → Prop) (w w' : World) : Prop where
  os : w'.os = w.os
  tape : w'.tape = w.tape
  output : w'.output = w.output
  size : w.heap.size ≤ w'.heap.size
  block : ∀ k, k < w.heap.size → ¬ S k → w'.heap[k]? = w.heap[k]?

def No : Nat → Prop := fun _ => False
def Only (g : Nat) : Nat → Prop := fun k => k = g

theorem Kept.refl (S : Nat → Prop) (w : World) : Kept S w w := ⟨rfl, rfl, rfl, Nat.le_refl _, fun _ _ _ => rfl⟩

theorem Kept.trans {S T U : Nat → Prop} {a b c : World} (h : Kept S a b) (k : Kept T b c) (hS : ∀ i, S i → U i) (hT : ∀ i, i < a.heap.size → T i → U i) : Kept U a c :=
  ⟨k.os.trans h.os, k.tape.trans h.tape, k.output.trans h.output, Nat.le_trans h.size k.size,
    fun i hi hU => (k.block i (Nat.lt_of_lt_of_le hi h.size) (fun e => hU (hT i hi e))).trans (h.block i hi (fun e => hU (hS i e)))⟩

theorem Kept.mono {S T : Nat → Prop} {a b : World} (h : Kept S a b) (hS : ∀ i, i < a.heap.size → S i → T i) : Kept T a b :=
  ⟨h.os, h.tape, h.output, h.size, fun i hi hT => h.block i hi (fun e => hT (hS i hi e))⟩

theorem Kept.of_no {S : Nat → Prop} {a b : World} (h : Kept No a b) : Kept S a b := h.mono (fun _ _ e => e.elim)

/-- Both keep the same. -/
theorem Kept.then {S : Nat → Prop} {a b c : World} (h : Kept S a b) (k : Kept S b c) : Kept S a c := h.trans k (fun _ e => e) (fun _ _ e => e)

theorem Kept.drewN {S : Nat → Prop} {a w : World} (h : Kept S a w) (n : Nat) : Kept S a (w.drewN n) := ⟨h.os, h.tape, h.output, h.size, h.block⟩
theorem Kept.drew {S : Nat → Prop} {a w : World} (h : Kept S a w) : Kept S a w.drew := ⟨h.os, h.tape, h.output, h.size, h.block⟩

theorem Kept.alloc {S : Nat → Prop} {a w : World} (h : Kept S a w) (o : Obj) : Kept S a (w.alloc o) :=
  h.then ⟨rfl, rfl, rfl, by simp, fun k hk _ => Below.heap_alloc _ _ _ hk⟩

theorem Kept.setCell {S : Nat → Prop} {a w : World} (h : Kept S a w) {p : Addr} (hp : p.block < a.heap.size → S p.block) (u : Value) : Kept S a (w.setCell p u) :=
  ⟨h.os, h.tape, h.output, by simpa [World.setCell] using h.size, fun k hk hS => by
    rw [Below.heap_setCell _ _ _ _ (fun e => hS (by subst e; exact hp hk))]; exact h.block k hk hS⟩

theorem Kept.grown {S : Nat → Prop} {a w w' : World} {row : Option Nat} (h : Kept S a w) (hg : w.grownBy w' row) (hr : ∀ k, row = some k → k < a.heap.size → S k) : Kept S a w' :=
  ⟨hg.os.trans h.os, hg.tape.trans h.tape, hg.output.trans h.output, Nat.le_trans h.size hg.size,
    fun k hk hS => (hg.block k (Nat.lt_of_lt_of_le hk h.size) (fun e => hS (hr k e.symm hk))).trans (h.block k hk hS)⟩

theorem Kept.below {S : Nat → Prop} {w w' : World} {B : Nat} (h : Kept S w w') (hB : B ≤ w.heap.size) (hS : ∀ k, S k → B ≤ k) : Below B w w' :=
  ⟨h.os, h.tape, h.output, h.size, fun k hk => h.block k (by omega) (fun e => by have := hS k e; omega)⟩

theorem Kept.of_below {w w' : World} (h : Below w.heap.size w w') : Kept No w w' := ⟨h.os, h.tape, h.output, h.size, fun k hk _ => h.block k hk⟩

theorem Kept.cell {S : Nat → Prop} {w w' : World} (h : Kept S w w') {p : Addr} {v : Value} (hc : w.cell? p = some v) (hp : ¬ S p.block) : w'.cell? p = some v :=
  (World.cell?_of_block (w := w) (h.block p.block (World.block_lt_of_cell? w p hc) hp)).trans hc


theorem kept_grown {w w' : World} (h : w.grownBy w' none) : Kept No w w' := (Kept.refl No w).grown h (fun _ e => by cases e)
theorem Kept.no_drewN (w : World) (n : Nat) : Kept No w (w.drewN n) := (Kept.refl No w).drewN n

/-- A row of numbers of one kind behind a slice's address. -/
def Nums (q : IntKind) (w : World) (a : Option Addr) (zs : List Int) : Prop :=
  ∀ i, i < zs.length → ∃ b off, a = some ⟨b, off, none⟩ ∧ w.cell? ⟨b, off + i, none⟩ = some (.int q (zs[i]?.getD 0))

theorem Nums.kept {q : IntKind} {S : Nat → Prop} {w w' : World} {a : Option Addr} {zs : List Int} (h : Nums q w a zs) (hk : Kept S w w') (hS : ∀ b off, a = some ⟨b, off, none⟩ → ¬ S b) : Nums q w' a zs := by
  intro i hi
  obtain ⟨b, off, rfl, hc⟩ := h i hi
  exact ⟨b, off, rfl, hk.cell hc (hS b off rfl)⟩

theorem Nums.no {q : IntKind} {w w' : World} {a : Option Addr} {zs : List Int} (h : Nums q w a zs) (hk : Kept No w w') : Nums q w' a zs := h.kept hk (fun _ _ _ e => e)

theorem Nums.nil (q : IntKind) (w : World) (a : Option Addr) : Nums q w a [] := fun i hi => absurd hi (Nat.not_lt_zero _)

theorem addr_add (b off j : Nat) : (⟨b, off, none⟩ : Addr).add j = ⟨b, off + j, none⟩ := by unfold Addr.add; split <;> simp_all

theorem Nums.src {q : IntKind} {w : World} {a : Option Addr} {zs : List Int} (hb : Nums q w a zs) (h0 : 0 < (zs.map (Value.int q)).length) :
    ∃ ad, a = some ad ∧ ∀ (j : Nat) v, (zs.map (Value.int q))[j]? = some v → w.cell? (ad.add j) = some v := by
  simp only [List.length_map] at h0
  obtain ⟨b, off, rfl, _⟩ := hb 0 h0
  refine ⟨_, rfl, fun j v hv => ?_⟩
  have hj : j < zs.length := by
    have := (List.getElem?_eq_some_iff.1 hv).1
    simpa using this
  obtain ⟨b', off', e, hc⟩ := hb j hj
  cases e
  rw [addr_add, hc]
  simp [List.getElem?_eq_getElem hj] at hv ⊢
  exact hv

theorem num_one (q : IntKind) (zs : List Int) : ∀ v ∈ zs.map (Value.int q), v.oneCell' = true := by
  intro v hv
  obtain ⟨z, _, rfl⟩ := List.mem_map.1 hv
  rfl

/-- A slice of values that the call itself has made (or nil), with all that it may grow into: t the element's type, c its cells, n how many. -/
def Own (t : TypeId) (c : Nat) (w : World) (base : Nat) (a : Option Addr) (cap n : Nat) (vs : List Value) : Prop :=
  w.ownsRow base t c (.slice a n cap) n vs

/-- The block behind an address. -/
def At (a : Option Addr) : Nat → Prop := fun k => ∃ ad, a = some ad ∧ ad.block = k
theorem At.none {k : Nat} : ¬ At none k := fun ⟨_, e, _⟩ => by cases e

theorem Own.kept {t : TypeId} {c : Nat} {S : Nat → Prop} {w w' : World} {base : Nat} {a : Option Addr} {cap n : Nat} {vs : List Value} (h : Own t c w base a cap n vs) (hk : Kept S w w') (hS : ∀ k, At a k → ¬ S k) : Own t c w' base a cap n vs := by
  refine ⟨h.1, ?_⟩
  rcases h.2 with hn | ⟨g, cap', cur, hv, hb, hg, rest⟩
  · exact .inl hn
  · refine .inr ⟨g, cap', cur, hv, hb, ?_, rest⟩
    rw [hk.block g (Array.getElem?_eq_some_iff.1 hg).1 (hS g ?_)]
    · exact hg
    · simp only [Value.slice.injEq] at hv
      exact ⟨_, hv.1, rfl⟩

theorem Own.no {t : TypeId} {c : Nat} {w w' : World} {base : Nat} {a : Option Addr} {cap n : Nat} {vs : List Value} (h : Own t c w base a cap n vs) (hk : Kept No w w') : Own t c w' base a cap n vs := h.kept hk (fun _ _ e => e)

theorem Own.lower {t : TypeId} {c : Nat} {w : World} {base base' : Nat} {a : Option Addr} {cap n : Nat} {vs : List Value} (h : Own t c w base a cap n vs) (hb : base' ≤ base) : Own t c w base' a cap n vs := by
  refine ⟨h.1, ?_⟩
  rcases h.2 with hn | ⟨g, cap', cur, hv, hb', rest⟩
  · exact .inl hn
  · exact .inr ⟨g, cap', cur, hv, by omega, rest⟩

theorem Own.base {t : TypeId} {c : Nat} {w : World} {base : Nat} {a : Option Addr} {cap n : Nat} {vs : List Value} (h : Own t c w base a cap n vs) {k : Nat} (hk : At a k) : base ≤ k := by
  obtain ⟨ad, e, rfl⟩ := hk
  rcases h.2 with ⟨hv, _⟩ | ⟨g, cap', cur, hv, hb, rest⟩
  · simp only [Value.slice.injEq] at hv; rw [hv.1] at e; cases e
  · simp only [Value.slice.injEq] at hv; rw [hv.1] at e; cases e; exact hb

/-- What lies in the block. -/
theorem Own.cases {t : TypeId} {c : Nat} {w : World} {base : Nat} {a : Option Addr} {cap n : Nat} {vs : List Value} (h : Own t c w base a cap n vs) (hl : vs.length = n * c) :
    (a = none ∧ cap = 0 ∧ n = 0) ∨ ∃ g, a = some ⟨g, 0, none⟩ ∧ base ≤ g ∧ g < w.heap.size ∧ ∃ sp, w.heap[g]? = some (.cells (vs ++ sp).toArray t (0, 0)) ∧ vs.length + sp.length = cap * c := by
  rcases h.2 with ⟨hv, hn⟩ | ⟨g, cap', cur, hv, hb, hg, hle, hm, hs, ht⟩
  · simp only [Value.slice.injEq] at hv
    exact .inl ⟨hv.1, hv.2.2, hn⟩
  · simp only [Value.slice.injEq] at hv
    obtain ⟨rfl, -, rfl⟩ := hv
    refine .inr ⟨g, rfl, hb, (Array.getElem?_eq_some_iff.1 hg).1, cur.toList.drop (n * c), ?_, ?_⟩
    · rw [← ht, List.take_append_drop, hg]
    · have : n * c ≤ cap * c := Nat.mul_le_mul_right _ hle
      simp; omega

theorem Own.nums {q : IntKind} {t : TypeId} {w : World} {base : Nat} {a : Option Addr} {cap n : Nat} {zs : List Int} (h : Own t 1 w base a cap n (zs.map (Value.int q))) (hl : zs.length = n) : Nums q w a zs := by
  rcases h.cases (by simpa using hl) with ⟨rfl, _, h0⟩ | ⟨g, rfl, _, _, sp, hg, _⟩
  · intro i hi; omega
  · intro i hi
    refine ⟨g, 0, rfl, ?_⟩
    rw [Nat.zero_add, cell_of_row w g i _ t (0, 0) hg]
    simp [List.getElem?_append_left, hi]

/-- A block of cells that the call itself has made. -/
def Box (w : World) (g : Nat) (t : TypeId) (cs : Array Value) : Prop := w.heap[g]? = some (.cells cs t (0, 0))
theorem Box.lt {w : World} {g : Nat} {t : TypeId} {cs : Array Value} (h : Box w g t cs) : g < w.heap.size := (Array.getElem?_eq_some_iff.1 h).1
theorem Box.cell {w : World} {g : Nat} {t : TypeId} {cs : Array Value} (h : Box w g t cs) (i : Nat) : w.cell? ⟨g, i, none⟩ = cs[i]? := cell_of_row w g i _ t (0, 0) h
theorem Box.frozen {w : World} {g : Nat} {t : TypeId} {cs : Array Value} (h : Box w g t cs) (i : Nat) : w.frozen? ⟨g, i, none⟩ = false := frozen_of_row w g i _ t h
theorem Box.set {w : World} {g : Nat} {t : TypeId} {cs : Array Value} (h : Box w g t cs) (i : Nat) (v : Value) : Box (w.setCell ⟨g, i, none⟩ v) g t (cs.setIfInBounds i v) := heap_setCell_same w g i _ t v h
theorem Box.kept {S : Nat → Prop} {w w' : World} {g : Nat} {t : TypeId} {cs : Array Value} (h : Box w g t cs) (hk : Kept S w w') (hS : ¬ S g) : Box w' g t cs := (hk.block g h.lt hS).trans h
theorem Box.new (w : World) (t : TypeId) (cs : Array Value) : Box (w.alloc (.cells cs t)) w.heap.size t cs := by
  unfold Box World.alloc; simp
theorem Box.alloc {w : World} {g : Nat} {t : TypeId} {cs : Array Value} (h : Box w g t cs) (o : Obj) : Box (w.alloc o) g t cs := (Below.heap_alloc _ _ _ h.lt).trans h
theorem Box.nums {w : World} {g : Nat} {t : TypeId} {q : IntKind} {zs : List Int} (h : Box w g t (zs.map (Value.int q)).toArray) (n : Nat) : Nums q w (some ⟨g, 0, none⟩) (zs.take n) := by
  intro i hi
  refine ⟨g, 0, rfl, ?_⟩
  simp only [List.length_take] at hi
  rw [Nat.zero_add, h.cell, List.getElem?_take, if_pos (by omega)]
  simp [List.getElem?_eq_getElem (show i < zs.length by omega)]

theorem Box.other {w : World} {g : Nat} {t : TypeId} {cs : Array Value} (h : Box w g t cs) {p : Addr} (hp : g ≠ p.block) (v : Value) : Box (w.setCell p v) g t cs :=
  (Below.heap_setCell _ _ _ _ hp).trans h
theorem below_kept {B : Nat} {w w' : World} (h : Below B w w') : Kept (fun k => B ≤ k) w w' :=
  ⟨h.os, h.tape, h.output, h.size, fun k hk hS => h.block k (by omega)⟩

end Go.Proofs.Ytgnfeegnhdbnkaa
