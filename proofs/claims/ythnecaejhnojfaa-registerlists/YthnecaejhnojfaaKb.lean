import Derived.Test.YthnecaejhnojfaaRows
import Derived.WalkKit
import Derived.Deep.DeepMust
import Derived.Deep.QuietTactic
import Derived.Deep.Draws
import Derived.BigQuiet
import Derived.Laws.CopyOwn
import Derived.Laws.AppendOwnNone
import Derived.WalkSmall
import Derived.Laws.BitsLemmas
import Derived.Laws.Closers25b
import Derived.Maps.RangeRun
import Derived.Laws.Rows
import Derived.Laws.Tables
namespace Go.Proofs.Ythnecaejhnojfaa
open Go.RowKit
set_option linter.unusedVariables false

theorem ret_bool {a b : Bool} (h : a = b) : Ending.returned (.bool a) = .returned (.bool b) := by rw [h]
theorem ret_int {k : IntKind} {a b : Int} (h : a = b) : Ending.returned (.int k a) = .returned (.int k b) := by rw [h]
theorem drewN2 (w : World) (n m : Nat) : (w.drewN n).drewN m = w.drewN (n + m) := by simp [World.drewN, Nat.add_assoc]

/-- From w to w' no old block has turned but those of S; the streams are as they were. -/
structure Kept (S : Nat → Prop) (w w' : World) : Prop where
  os : w'.os = w.os
  tape : w'.tape = w.tape
  output : w'.output = w.output
  size : w.heap.size ≤ w'.heap.size
  block : ∀ k, k < w.heap.size → ¬ S k → w'.heap[k]? = w.heap[k]?

def No : Nat → Prop := fun _ => False
def Only (g : Nat) : Nat → Prop := fun k => k = g

theorem Kept.refl (S : Nat → Prop) (w : World) : Kept S w w := ⟨rfl, rfl, rfl, Nat.le_refl _, fun _ _ _ => rfl⟩

theorem Kept.trans {S T U : Nat → Prop} {a b c : World} (h : Kept S a b) (k : Kept T b c) (hS : ∀ i, S i → U i) (hT : ∀ i, i < a.heap.size → T i → U i) : Kept U a c :=
  ⟨k.os.trans h.os, k.tape.trans h.tape, k.output.trans h.output, Nat.le_trans h.size k.size,
    fun i hi hU => (k.block i (Nat.lt_of_lt_of_le hi h.size) (fun e => hU (hT i hi e))).trans (h.block i hi (fun e => hU (hS i e)))⟩

theorem Kept.mono {S T : Nat → Prop} {a b : World} (h : Kept S a b) (hS : ∀ i, i < a.heap.size → S i → T i) : Kept T a b :=
  ⟨h.os, h.tape, h.output, h.size, fun i hi hT => h.block i hi (fun e => hT (hS i hi e))⟩

theorem Kept.of_no {S : Nat → Prop} {a b : World} (h : Kept No a b) : Kept S a b := h.mono (fun _ _ e => e.elim)

/-- Both keep the same. -/
theorem Kept.then {S : Nat → Prop} {a b c : World} (h : Kept S a b) (k : Kept S b c) : Kept S a c := h.trans k (fun _ e => e) (fun _ _ e => e)

theorem Kept.drewN {S : Nat → Prop} {a w : World} (h : Kept S a w) (n : Nat) : Kept S a (w.drewN n) := ⟨h.os, h.tape, h.output, h.size, h.block⟩
theorem Kept.drew {S : Nat → Prop} {a w : World} (h : Kept S a w) : Kept S a w.drew := ⟨h.os, h.tape, h.output, h.size, h.block⟩

theorem Kept.alloc {S : Nat → Prop} {a w : World} (h : Kept S a w) (o : Obj) : Kept S a (w.alloc o) :=
  h.then ⟨rfl, rfl, rfl, by simp, fun k hk _ => Below.heap_alloc _ _ _ hk⟩

theorem Kept.setCell {S : Nat → Prop} {a w : World} (h : Kept S a w) {p : Addr} (hp : p.block < a.heap.size → S p.block) (u : Value) : Kept S a (w.setCell p u) :=
  ⟨h.os, h.tape, h.output, by simpa [World.setCell] using h.size, fun k hk hS => by
    rw [Below.heap_setCell _ _ _ _ (fun e => hS (by subst e; exact hp hk))]; exact h.block k hk hS⟩

theorem Kept.grown {S : Nat → Prop} {a w w' : World} {row : Option Nat} (h : Kept S a w) (hg : w.grownBy w' row) (hr : ∀ k, row = some k → k < a.heap.size → S k) : Kept S a w' :=
  ⟨hg.os.trans h.os, hg.tape.trans h.tape, hg.output.trans h.output, Nat.le_trans h.size hg.size,
    fun k hk hS => (hg.block k (Nat.lt_of_lt_of_le hk h.size) (fun e => hS (hr k e.symm hk))).trans (h.block k hk hS)⟩

theorem Kept.below {S : Nat → Prop} {w w' : World} {B : Nat} (h : Kept S w w') (hB : B ≤ w.heap.size) (hS : ∀ k, S k → B ≤ k) : Below B w w' :=
  ⟨h.os, h.tape, h.output, h.size, fun k hk => h.block k (by omega) (fun e => by have := hS k e; omega)⟩

theorem Kept.of_below {w w' : World} (h : Below w.heap.size w w') : Kept No w w' := ⟨h.os, h.tape, h.output, h.size, fun k hk _ => h.block k hk⟩

theorem Kept.cell {S : Nat → Prop} {w w' : World} (h : Kept S w w') {p : Addr} {v : Value} (hc : w.cell? p = some v) (hp : ¬ S p.block) : w'.cell? p = some v :=
  (World.cell?_of_block (w := w) (h.block p.block (World.block_lt_of_cell? w p hc) hp)).trans hc


theorem kept_grown {w w' : World} (h : w.grownBy w' none) : Kept No w w' := (Kept.refl No w).grown h (fun _ e => by cases e)
theorem Kept.no_drewN (w : World) (n : Nat) : Kept No w (w.drewN n) := (Kept.refl No w).drewN n

/-- A row of numbers of one kind behind a slice's address. -/
def Nums (q : IntKind) (w : World) (a : Option Addr) (zs : List Int) : Prop :=
  ∀ i, i < zs.length → ∃ b off, a = some ⟨b, off, none⟩ ∧ w.cell? ⟨b, off + i, none⟩ = some (.int q (zs[i]?.getD 0))

theorem Nums.kept {q : IntKind} {S : Nat → Prop} {w w' : World} {a : Option Addr} {zs : List Int} (h : Nums q w a zs) (hk : Kept S w w') (hS : ∀ b off, a = some ⟨b, off, none⟩ → ¬ S b) : Nums q w' a zs := by
  intro i hi
  obtain ⟨b, off, rfl, hc⟩ := h i hi
  exact ⟨b, off, rfl, hk.cell hc (hS b off rfl)⟩

theorem Nums.no {q : IntKind} {w w' : World} {a : Option Addr} {zs : List Int} (h : Nums q w a zs) (hk : Kept No w w') : Nums q w' a zs := h.kept hk (fun _ _ _ e => e)

theorem Nums.nil (q : IntKind) (w : World) (a : Option Addr) : Nums q w a [] := fun i hi => absurd hi (Nat.not_lt_zero _)

theorem addr_add (b off j : Nat) : (⟨b, off, none⟩ : Addr).add j = ⟨b, off + j, none⟩ := by unfold Addr.add; split <;> simp_all

theorem Nums.src {q : IntKind} {w : World} {a : Option Addr} {zs : List Int} (hb : Nums q w a zs) (h0 : 0 < (zs.map (Value.int q)).length) :
    ∃ ad, a = some ad ∧ ∀ (j : Nat) v, (zs.map (Value.int q))[j]? = some v → w.cell? (ad.add j) = some v := by
  simp only [List.length_map] at h0
  obtain ⟨b, off, rfl, _⟩ := hb 0 h0
  refine ⟨_, rfl, fun j v hv => ?_⟩
  have hj : j < zs.length := by
    have := (List.getElem?_eq_some_iff.1 hv).1
    simpa using this
  obtain ⟨b', off', e, hc⟩ := hb j hj
  cases e
  rw [addr_add, hc]
  simp [List.getElem?_eq_getElem hj] at hv ⊢
  exact hv

theorem num_one (q : IntKind) (zs : List Int) : ∀ v ∈ zs.map (Value.int q), v.oneCell' = true := by
  intro v hv
  obtain ⟨z, _, rfl⟩ := List.mem_map.1 hv
  rfl

/-- A slice of values that the call itself has made (or nil), with all that it may grow into: t the element's type, c its cells, n how many. -/
def Own (t : TypeId) (c : Nat) (w : World) (base : Nat) (a : Option Addr) (cap n : Nat) (vs : List Value) : Prop :=
  w.ownsRow base t c (.slice a n cap) n vs

/-- The block behind an address. -/
def At (a : Option Addr) : Nat → Prop := fun k => ∃ ad, a = some ad ∧ ad.block = k
theorem At.none {k : Nat} : ¬ At none k := fun ⟨_, e, _⟩ => by cases e

theorem Own.kept {t : TypeId} {c : Nat} {S : Nat → Prop} {w w' : World} {base : Nat} {a : Option Addr} {cap n : Nat} {vs : List Value} (h : Own t c w base a cap n vs) (hk : Kept S w w') (hS : ∀ k, At a k → ¬ S k) : Own t c w' base a cap n vs := by
  refine ⟨h.1, ?_⟩
  rcases h.2 with hn | ⟨g, cap', cur, hv, hb, hg, rest⟩
  · exact .inl hn
  · refine .inr ⟨g, cap', cur, hv, hb, ?_, rest⟩
    rw [hk.block g (Array.getElem?_eq_some_iff.1 hg).1 (hS g ?_)]
    · exact hg
    · simp only [Value.slice.injEq] at hv
      exact ⟨_, hv.1, rfl⟩

theorem Own.no {t : TypeId} {c : Nat} {w w' : World} {base : Nat} {a : Option Addr} {cap n : Nat} {vs : List Value} (h : Own t c w base a cap n vs) (hk : Kept No w w') : Own t c w' base a cap n vs := h.kept hk (fun _ _ e => e)

theorem Own.lower {t : TypeId} {c : Nat} {w : World} {base base' : Nat} {a : Option Addr} {cap n : Nat} {vs : List Value} (h : Own t c w base a cap n vs) (hb : base' ≤ base) : Own t c w base' a cap n vs := by
  refine ⟨h.1, ?_⟩
  rcases h.2 with hn | ⟨g, cap', cur, hv, hb', rest⟩
  · exact .inl hn
  · exact .inr ⟨g, cap', cur, hv, by omega, rest⟩

theorem Own.base {t : TypeId} {c : Nat} {w : World} {base : Nat} {a : Option Addr} {cap n : Nat} {vs : List Value} (h : Own t c w base a cap n vs) {k : Nat} (hk : At a k) : base ≤ k := by
  obtain ⟨ad, e, rfl⟩ := hk
  rcases h.2 with ⟨hv, _⟩ | ⟨g, cap', cur, hv, hb, rest⟩
  · simp only [Value.slice.injEq] at hv; rw [hv.1] at e; cases e
  · simp only [Value.slice.injEq] at hv; rw [hv.1] at e; cases e; exact hb

/-- What lies in the block. -/
theorem Own.cases {t : TypeId} {c : Nat} {w : World} {base : Nat} {a : Option Addr} {cap n : Nat} {vs : List Value} (h : Own t c w base a cap n vs) (hl : vs.length = n * c) :
    (a = none ∧ cap = 0 ∧ n = 0) ∨ ∃ g, a = some ⟨g, 0, none⟩ ∧ base ≤ g ∧ g < w.heap.size ∧ ∃ sp, w.heap[g]? = some (.cells (vs ++ sp).toArray t (0, 0)) ∧ vs.length + sp.length = cap * c := by
  rcases h.2 with ⟨hv, hn⟩ | ⟨g, cap', cur, hv, hb, hg, hle, hm, hs, ht⟩
  · simp only [Value.slice.injEq] at hv
    exact .inl ⟨hv.1, hv.2.2, hn⟩
  · simp only [Value.slice.injEq] at hv
    obtain ⟨rfl, -, rfl⟩ := hv
    refine .inr ⟨g, rfl, hb, (Array.getElem?_eq_some_iff.1 hg).1, cur.toList.drop (n * c), ?_, ?_⟩
    · rw [← ht, List.take_append_drop, hg]
    · have : n * c ≤ cap * c := Nat.mul_le_mul_right _ hle
      simp; omega

theorem Own.nums {q : IntKind} {t : TypeId} {w : World} {base : Nat} {a : Option Addr} {cap n : Nat} {zs : List Int} (h : Own t 1 w base a cap n (zs.map (Value.int q))) (hl : zs.length = n) : Nums q w a zs := by
  rcases h.cases (by simpa using hl) with ⟨rfl, _, h0⟩ | ⟨g, rfl, _, _, sp, hg, _⟩
  · intro i hi; omega
  · intro i hi
    refine ⟨g, 0, rfl, ?_⟩
    rw [Nat.zero_add, cell_of_row w g i _ t (0, 0) hg]
    simp [List.getElem?_append_left, hi]

/-- A block of cells that the call itself has made. -/
def Box (w : World) (g : Nat) (t : TypeId) (cs : Array Value) : Prop := w.heap[g]? = some (.cells cs t (0, 0))
theorem Box.lt {w : World} {g : Nat} {t : TypeId} {cs : Array Value} (h : Box w g t cs) : g < w.heap.size := (Array.getElem?_eq_some_iff.1 h).1
theorem Box.cell {w : World} {g : Nat} {t : TypeId} {cs : Array Value} (h : Box w g t cs) (i : Nat) : w.cell? ⟨g, i, none⟩ = cs[i]? := cell_of_row w g i _ t (0, 0) h
theorem Box.frozen {w : World} {g : Nat} {t : TypeId} {cs : Array Value} (h : Box w g t cs) (i : Nat) : w.frozen? ⟨g, i, none⟩ = false := frozen_of_row w g i _ t h
theorem Box.set {w : World} {g : Nat} {t : TypeId} {cs : Array Value} (h : Box w g t cs) (i : Nat) (v : Value) : Box (w.setCell ⟨g, i, none⟩ v) g t (cs.setIfInBounds i v) := heap_setCell_same w g i _ t v h
theorem Box.kept {S : Nat → Prop} {w w' : World} {g : Nat} {t : TypeId} {cs : Array Value} (h : Box w g t cs) (hk : Kept S w w') (hS : ¬ S g) : Box w' g t cs := (hk.block g h.lt hS).trans h
theorem Box.new (w : World) (t : TypeId) (cs : Array Value) : Box (w.alloc (.cells cs t)) w.heap.size t cs := by
  unfold Box World.alloc; simp
theorem Box.alloc {w : World} {g : Nat} {t : TypeId} {cs : Array Value} (h : Box w g t cs) (o : Obj) : Box (w.alloc o) g t cs := (Below.heap_alloc _ _ _ h.lt).trans h
theorem Box.nums {w : World} {g : Nat} {t : TypeId} {q : IntKind} {zs : List Int} (h : Box w g t (zs.map (Value.int q)).toArray) (n : Nat) : Nums q w (some ⟨g, 0, none⟩) (zs.take n) := by
  intro i hi
  refine ⟨g, 0, rfl, ?_⟩
  simp only [List.length_take] at hi
  rw [Nat.zero_add, h.cell, List.getElem?_take, if_pos (by omega)]
  simp [List.getElem?_eq_getElem (show i < zs.length by omega)]

theorem Box.other {w : World} {g : Nat} {t : TypeId} {cs : Array Value} (h : Box w g t cs) {p : Addr} (hp : g ≠ p.block) (v : Value) : Box (w.setCell p v) g t cs :=
  (Below.heap_setCell _ _ _ _ hp).trans h
theorem below_kept {B : Nat} {w w' : World} (h : Below B w w') : Kept (fun k => B ≤ k) w w' :=
  ⟨h.os, h.tape, h.output, h.size, fun k hk hS => h.block k (by omega)⟩

end Go.Proofs.Ythnecaejhnojfaa
namespace Go.Proofs.Ythnecaejhnojfaa
open Go.RowKit
open Go.ChangeMaps (setBlock)
set_option linter.unusedVariables false

theorem isKey_i64 (n : Int) : MapKept.IsKey (.int .i64) (.int .i64 n) := by simp [MapKept.IsKey]

/-- A map from numbers to values. -/
def Ents (es : Array MapEntry) (clock : Nat) (g : Int → Option Value) : Prop :=
  MapKept.Stamped es clock ∧ (∀ e ∈ es.toList, ∃ (n : Int) (s : Value), e.key = .int .i64 n ∧ e.val = s ∧ g n = some s) ∧ ∀ (n : Int) s, g n = some s → ∃ e ∈ es.toList, e.key = .int .i64 n
def MapIs (w : World) (b : Nat) (g : Int → Option Value) : Prop :=
  ∃ es clock, w.heap[b]? = some (.map es clock) ∧ Ents es clock g

theorem Ents.keys {es : Array MapEntry} {clock : Nat} {g : Int → Option Value} (h : Ents es clock g) : ∀ x ∈ es.toList, MapKept.IsKey (.int .i64) x.key := by
  intro x hx
  obtain ⟨n, s, hk, _⟩ := h.2.1 x hx
  rw [hk]; exact isKey_i64 _

theorem MapIs.lt {w : World} {b : Nat} {g : Int → Option Value} (h : MapIs w b g) : b < w.heap.size := by
  obtain ⟨es, c, hb, _⟩ := h
  exact (Array.getElem?_eq_some_iff.1 hb).1
theorem MapIs.kept {S : Nat → Prop} {w w' : World} {b : Nat} {g : Int → Option Value} (h : MapIs w b g) (hk : Kept S w w') (hS : ¬ S b) : MapIs w' b g := by
  have hlt := h.lt
  obtain ⟨es, c, hb, r⟩ := h
  exact ⟨es, c, (hk.block b hlt hS).trans hb, r⟩
theorem MapIs.new (w : World) : MapIs (w.alloc (.map #[] 0)) w.heap.size (fun _ => none) :=
  ⟨#[], 0, (MapKept.heap_alloc w _).1, ⟨MapKept.stamped_empty 0, by simp, by simp⟩⟩

theorem kept_setBlock {w : World} {b : Nat} {o : Obj} : Kept (Only b) w (setBlock w b o) :=
  ⟨rfl, rfl, rfl, by simp [setBlock], fun k hk hS => by
    have : k ≠ b := hS
    simp [setBlock, Ne.symm this]⟩

def tupOk (v : Value) (b : Bool) (ok : Bool) : Value := if ok then .tuple #[v, .bool b] else v

variable {P : Program}

theorem run_lookup_v {w : World} {b : Nat} {g : Int → Option Value} (h : MapIs w b g) {t e : TypeId} (ht : P.underlying t = some (.map 3 e)) (h3 : P.underlying 3 = some (.int .i64)) {z : Value} (hz : (zeroValue e).run P w = .ok z w) (n : Int) (ok : Bool) :
    (Instr.lookup t (.map (some b)) (.int .i64 n) ok).run P w = .ok (tupOk ((g n).getD z) (g n).isSome ok) w := by
  obtain ⟨es, c, hb, he⟩ := h
  have hck := @MapKept.run_checkKey P w 3 _ (.int .i64 n) h3 (isKey_i64 n) es.isEmpty 9999
  rcases MapKept.findNow_spec (isKey_i64 n) es.toList 0 he.keys with ⟨h1, h2⟩ | ⟨j, e, h1, h2, h3'⟩
  · have hg : g n = none := by
      cases hgn : g n with
      | none => rfl
      | some s =>
        obtain ⟨e, hm, hk⟩ := he.2.2 n s hgn
        exact absurd hk (h2 e hm)
    cases ok <;> simp [Instr.lookup, run_underlying ht, MapKept.run_getObj_map hb, hck, MapKept.run_findKey h3 h1, hz, hg, Result.andThen, tupOk]
  · obtain ⟨n', s, hk, hv, hg⟩ := he.2.1 e (List.mem_of_getElem? h2)
    rw [hk] at h3'
    simp only [Value.int.injEq, true_and] at h3'
    subst h3'
    cases ok <;> simp [Instr.lookup, run_underlying ht, MapKept.run_getObj_map hb, hck, MapKept.run_findKey h3 h1, hv, hg, Result.andThen, tupOk]

def updG (g : Int → Option Value) (n : Int) (v : Option Value) : Int → Option Value := fun m => if m = n then v else g m

theorem mem_modify {es : Array MapEntry} {i : Nat} {f : MapEntry → MapEntry} {x : MapEntry} (h : x ∈ (es.modify i f).toList) : (∃ j, j ≠ i ∧ es[j]? = some x) ∨ ∃ e, es[i]? = some e ∧ x = f e := by
  obtain ⟨j, hj⟩ := List.mem_iff_getElem?.1 h
  simp only [Array.getElem?_toList, Array.getElem?_modify] at hj
  by_cases e : i = j
  · subst e
    simp only [if_true] at hj
    cases he : es[i]? with
    | none => simp [he] at hj
    | some e0 => simp [he] at hj; exact .inr ⟨e0, rfl, hj.symm⟩
  · simp only [e, if_false] at hj
    exact .inl ⟨j, fun h => e h.symm, hj⟩

theorem run_update_v {w : World} {b : Nat} {g : Int → Option Value} (h : MapIs w b g) {t e : TypeId} (ht : P.underlying t = some (.map 3 e)) (h3 : P.underlying 3 = some (.int .i64)) (n : Int) (s : Value) :
    ∃ w', (Instr.mapUpdate t (.map (some b)) (.int .i64 n) s).run P w = .ok () w' ∧ MapIs w' b (updG g n (some s)) ∧ Kept (Only b) w w' ∧ w'.heap.size = w.heap.size := by
  obtain ⟨es, c, hb, he⟩ := h
  have hck := @MapKept.run_checkKey P w 3 _ (.int .i64 n) h3 (isKey_i64 n) false 9999
  rcases MapKept.findNow_spec (isKey_i64 n) es.toList 0 he.keys with ⟨h1, h2⟩ | ⟨j, e, h1, h2, h3'⟩
  · refine ⟨setBlock w b (.map (es.push { key := .int .i64 n, val := s, born := c }) (c + 1)), ?_, ⟨_, _, (MapKept.heap_set hb).1, MapKept.stamped_push he.1 (fun x hx => h2 x hx), ?_, ?_⟩, kept_setBlock, by simp [setBlock]⟩
    · simp [Instr.mapUpdate, run_underlying ht, MapKept.run_getObj_map hb, hck, MapKept.run_findKey h3 h1, MapKept.run_setObj_map _ hb, Result.andThen, setBlock]
    · intro x hx
      simp only [Array.toList_push, List.mem_append, List.mem_singleton] at hx
      rcases hx with hx | rfl
      · obtain ⟨m, s', hk, hv, hg⟩ := he.2.1 x hx
        refine ⟨m, s', hk, hv, ?_⟩
        have : m ≠ n := fun e => h2 x hx (by rw [hk, e])
        simp [updG, this, hg]
      · exact ⟨n, s, rfl, rfl, by simp [updG]⟩
    · intro m s' hm
      simp only [updG] at hm
      split at hm
      · rename_i e; subst e; exact ⟨_, by simp; exact .inr rfl, rfl⟩
      · obtain ⟨x, hx, hk⟩ := he.2.2 m s' hm
        exact ⟨x, by simp only [Array.toList_push, List.mem_append]; exact .inl hx, hk⟩
  · have hes : es[j]? = some e := by simpa using h2
    refine ⟨setBlock w b (.map (es.modify j fun e => { e with key := .int .i64 n, val := s }) c), ?_, ⟨_, _, (MapKept.heap_set hb).1, MapKept.stamped_modify he.1 j _ (fun _ _ => rfl) (fun x hx hj => ?_), ?_, ?_⟩, kept_setBlock, by simp [setBlock]⟩
    · simp [Instr.mapUpdate, run_underlying ht, MapKept.run_getObj_map hb, hck, MapKept.run_findKey h3 h1, MapKept.run_setObj_map _ hb, Result.andThen, setBlock, Instr.keyThatStays, hes, h3', Instr.sameBits]
    · rw [hes] at hj; cases hj; exact h3'.symm
    · intro x hx
      rcases mem_modify hx with ⟨k, hk, hx'⟩ | ⟨e0, _, rfl⟩
      · obtain ⟨m, s', hkx, hv, hg⟩ := he.2.1 x (List.mem_of_getElem? (by simpa using hx'))
        refine ⟨m, s', hkx, hv, ?_⟩
        have hne : m ≠ n := fun em => by
          have hnd := he.1.2.2
          have hj' : (es.toList.map (·.key))[j]? = some (.int .i64 n) := by simp [hes, h3']
          have hk' : (es.toList.map (·.key))[k]? = some (.int .i64 n) := by simp [hx', hkx, em]
          have hlt : k < (es.toList.map (·.key)).length := (List.getElem?_eq_some_iff.1 hk').1
          exact hk ((List.getElem?_inj hlt hnd).1 (hk'.trans hj'.symm))
        simp [updG, hne, hg]
      · exact ⟨n, s, rfl, rfl, by simp [updG]⟩
    · intro m s' hm
      simp only [updG] at hm
      have hkeys : (es.modify j fun e => { e with key := Value.int .i64 n, val := s }).toList.map (·.key) = es.toList.map (·.key) := MapKept.modify_keys j _ (fun x hx => by rw [hes] at hx; cases hx; exact h3'.symm)
      have : (Value.int .i64 m) ∈ es.toList.map (·.key) := by
        split at hm
        · rename_i em; subst em; exact List.mem_map.2 ⟨e, List.mem_of_getElem? h2, h3'⟩
        · obtain ⟨x, hx, hk⟩ := he.2.2 m s' hm
          exact List.mem_map.2 ⟨x, hx, hk⟩
      rw [← hkeys] at this
      obtain ⟨x, hx, hk⟩ := List.mem_map.1 this
      exact ⟨x, hx, hk⟩

section
variable {ops : Array Oper} {rest : List Oper} {o : Oper} {a : Act} {w : World} {Q : Exit → Act → World → Prop}

theorem wp_runTo (hg : o.guard = none) (v : Value) (w' : World) (hrun : (execOp a.eval o).run Try.prog w = .ok (.value v) w')
    (h : wpList Try.prog ops Q rest (a.put o.dst v) w') : wpList Try.prog ops Q (o :: rest) a w := by
  refine wpList_plain hg fun K hK => ?_
  unfold Oper.wp
  rw [hrun, Oper.upon_value]
  exact hK _ _ h

theorem wp_lookupV (hg : o.guard = none) (x y : Operand) (t e : TypeId) (ok : Bool) (ho : o.op = .lookup t x y ok) (b : Nat) (n : Int) (hx : a.eval x = .map (some b)) (hy : a.eval y = .int .i64 n) {g : Int → Option Value} (hm : MapIs w b g)
    (ht : Try.prog.underlying t = some (.map 3 e)) {z : Value} (hz : (zeroValue e).run Try.prog w = .ok z w) (v : Value) (hv : tupOk ((g n).getD z) (g n).isSome ok = v)
    (h : wpList Try.prog ops Q rest (a.put o.dst v) w) : wpList Try.prog ops Q (o :: rest) a w := by
  subst hv
  refine wp_runTo hg _ w ?_ h
  have h3 : Try.prog.underlying 3 = some (.int .i64) := by kernel_rfl
  simp [execOp, ho, hx, hy, run_lookup_v hm ht h3 hz n, Result.andThen]

theorem wp_updateV (hg : o.guard = none) (x y z : Operand) (t e : TypeId) (ho : o.op = .mapUpdate t x y z) (b : Nat) (n : Int) (s : Value) (hx : a.eval x = .map (some b)) (hy : a.eval y = .int .i64 n) (hz : a.eval z = s) {g : Int → Option Value} (hm : MapIs w b g)
    (ht : Try.prog.underlying t = some (.map 3 e))
    (h : ∀ w', Hid (MapIs w' b (updG g n (some s))) → Hid (Kept (Only b) w w') → w'.heap.size = w.heap.size → wpList Try.prog ops Q rest (a.put o.dst undef) w') : wpList Try.prog ops Q (o :: rest) a w := by
  have h3 : Try.prog.underlying 3 = some (.int .i64) := by kernel_rfl
  obtain ⟨w', hrun, h1, h2, h4⟩ := run_update_v hm ht h3 n s
  refine wpList_plain hg fun K hK => ?_
  unfold Oper.wp execOp
  simp only [ho, hx, hy, hz, hrun, Sem.run_bind, Result.andThen_ok, Sem.run_pure]
  exact hK _ _ (h w' h1 h2 h4)
end

end Go.Proofs.Ythnecaejhnojfaa
namespace Go.Proofs.Ythnecaejhnojfaa
open Go.RowKit
set_option linter.unusedVariables false
set_option linter.unusedSimpArgs false

/-- A row of bytes that lies behind a slice's address. -/
abbrev Bytes (w : World) (a : Option Addr) (zs : List Int) : Prop := Nums .u8 w a zs
/-- Each number is a byte. -/
def U8 (zs : List Int) : Prop := ∀ i : Nat, 0 ≤ zs[i]?.getD 0 ∧ zs[i]?.getD 0 ≤ 255

/-- The block of a slice that has bytes. -/
theorem Bytes.lt {w : World} {b off : Nat} {zs : List Int} (h : Bytes w (some ⟨b, off, none⟩) zs) (h0 : 0 < zs.length) : b < w.heap.size := by
  obtain ⟨b', off', e, hc⟩ := h 0 h0
  cases e
  exact World.block_lt_of_cell? w _ hc

/-- A block of bytes that the call itself has made. -/
def Blk (w : World) (g : Nat) (zs : List Int) : Prop := w.heap[g]? = some (.cells (zs.map (Value.int .u8)).toArray 5 (0, 0))

theorem Blk.lt {w : World} {g : Nat} {zs : List Int} (h : Blk w g zs) : g < w.heap.size := (Array.getElem?_eq_some_iff.1 h).1

theorem Blk.cell {w : World} {g : Nat} {zs : List Int} (h : Blk w g zs) (i : Nat) (hi : i < zs.length) : w.cell? ⟨g, i, none⟩ = some (.int .u8 (zs[i]?.getD 0)) := by
  rw [cell_of_row w g i _ 5 (0, 0) h]; simp [List.getElem?_eq_getElem hi]

theorem Blk.frozen {w : World} {g : Nat} {zs : List Int} (h : Blk w g zs) (i : Nat) : w.frozen? ⟨g, i, none⟩ = false := frozen_of_row w g i _ 5 h

theorem Blk.set {w : World} {g : Nat} {zs : List Int} (h : Blk w g zs) (i : Nat) (x : Int) : Blk (w.setCell ⟨g, i, none⟩ (.int .u8 x)) g (zs.set i x) := by
  have := heap_setCell_same w g i _ 5 (.int .u8 x) h
  unfold Blk
  rw [this]
  simp [List.map_set]

theorem Blk.kept {S : Nat → Prop} {w w' : World} {g : Nat} {zs : List Int} (h : Blk w g zs) (hk : Kept S w w') (hS : ¬ S g) : Blk w' g zs :=
  (hk.block g h.lt hS).trans h

theorem Blk.bytes {w : World} {g : Nat} {zs : List Int} (h : Blk w g zs) (off n : Nat) : Bytes w (some ⟨g, off, none⟩) ((zs.drop off).take n) := by
  intro i hi
  refine ⟨g, off, rfl, ?_⟩
  simp only [List.length_take, List.length_drop] at hi
  rw [h.cell _ (by omega), List.getElem?_take, if_pos (by omega), List.getElem?_drop]

theorem Blk.bytes0 {w : World} {g : Nat} {zs : List Int} (h : Blk w g zs) (n : Nat) : Bytes w (some ⟨g, 0, none⟩) (zs.take n) := h.bytes 0 n
theorem Blk.all {w : World} {g : Nat} {zs : List Int} (h : Blk w g zs) : Bytes w (some ⟨g, 0, none⟩) zs := by
  have := h.bytes0 zs.length; rwa [List.take_length] at this

theorem Blk.of_owns {w : World} {base g n : Nat} {zs : List Int} (h : w.ownsRow base 5 1 (.slice (some ⟨g, 0, none⟩) n n) n (zs.map (Value.int .u8))) : Blk w g zs ∧ base ≤ g := by
  rcases h.2 with ⟨h', _⟩ | ⟨g', cap', cur, h', hb, hg, _, _, hcs, htake⟩
  · simp at h'
  · simp only [Value.slice.injEq, Option.some.injEq, Addr.mk.injEq, and_true, true_and] at h'
    obtain ⟨rfl, rfl⟩ := h'
    refine ⟨?_, hb⟩
    rw [List.take_of_length_le (by simp [hcs])] at htake
    unfold Blk
    rw [hg, ← htake]

theorem U8.take {zs : List Int} (h : U8 zs) (n : Nat) : U8 (zs.take n) := by
  intro i
  rw [List.getElem?_take]
  split
  · exact h i
  · simp

theorem U8.drop {zs : List Int} (h : U8 zs) (n : Nat) : U8 (zs.drop n) := by
  intro i; rw [List.getElem?_drop]; exact h _

theorem U8.nil : U8 [] := by intro i; simp

theorem U8.append {xs ys : List Int} (h : U8 xs) (k : U8 ys) : U8 (xs ++ ys) := by
  intro i
  rw [List.getElem?_append]
  split
  · exact h i
  · exact k _

theorem U8.cons {x : Int} {xs : List Int} (h : 0 ≤ x ∧ x ≤ 255) (k : U8 xs) : U8 (x :: xs) := by
  intro i
  cases i with
  | zero => simpa using h
  | succ i => simpa using k i

theorem U8.replicate (n : Nat) {x : Int} (h : 0 ≤ x ∧ x ≤ 255) : U8 (List.replicate n x) := by
  induction n with
  | zero => exact U8.nil
  | succ n ih => rw [List.replicate_succ]; exact U8.cons h ih

theorem U8.set {xs : List Int} (h : U8 xs) (i : Nat) {x : Int} (hx : 0 ≤ x ∧ x ≤ 255) : U8 (xs.set i x) := by
  intro j
  rw [List.getElem?_set]
  split
  · split
    · simpa using hx
    · simp
  · exact h j


def eqB (xs ys : List Int) : Bool := decide (xs = ys)
theorem eqB_len {xs ys : List Int} (h : xs.length ≠ ys.length) : false = eqB xs ys := by
  unfold eqB; symm; exact decide_eq_false (fun e => h (by rw [e]))
theorem eqB_not {xs ys : List Int} (k : Nat) (h : xs[k]?.getD 0 ≠ ys[k]?.getD 0) : false = eqB xs ys := by
  unfold eqB; symm; exact decide_eq_false (fun e => h (by rw [e]))
theorem eqB_all {xs ys : List Int} (hl : xs.length = ys.length) (h : ∀ j, j < xs.length → xs[j]?.getD 0 = ys[j]?.getD 0) : true = eqB xs ys := by
  unfold eqB; symm; refine decide_eq_true (List.ext_getElem hl fun i h1 h2 => ?_)
  have := h i h1
  simpa [List.getElem?_eq_getElem h1, List.getElem?_eq_getElem h2] using this
theorem eqB_refl (xs : List Int) : eqB xs xs = true := by simp [eqB]
set_option maxRecDepth 100000 in
set_option maxHeartbeats 400000 in
theorem same_any (a b : Option Addr) (ca cb : Nat) (xs ys : List Int) (w : World) (hm : xs.length ≤ 281474976710656) (hn : ys.length ≤ 281474976710656) (hx : Bytes w a xs) (hy : Bytes w b ys) :
    Calls Try.prog 33 #[.slice a xs.length ca, .slice b ys.length cb] w fun e w' => e = .returned (.bool (eqB xs ys)) ∧ ∃ n, w' = w.drewN n := by
  have HX : Hid (Bytes w a xs) := hx
  have HY : Hid (Bytes w b ys) := hy
  clear hx hy
  by_cases hl : xs.length = ys.length
  · have HL : Hid (xs.length = ys.length) := hl
    go_enter Try.func33, Try.ntmps33
    go_wp2
    go_loopw [5] (fun i wr => ∃ k : Nat, k ≤ xs.length ∧ i = .int .i64 k ∧ Hid (∀ j, j < k → xs[j]?.getD 0 = ys[j]?.getD 0) ∧ ∃ n, wr = w.drewN n) (fun i _ => xs.length - (intOf i).toNat)
    case atStart => exact ⟨0, Nat.zero_le _, rfl, fun j hj => absurd hj (Nat.not_lt_zero _), 0, rfl⟩
    case round =>
      obtain ⟨k, hk, rfl, HE, n, rfl⟩ := hrel
      by_cases hlt : k < xs.length
      · have hlt2 : k < ys.length := by omega
        clear hl
        obtain ⟨b1, o1, rfl, hc1⟩ := HX.out k hlt
        obtain ⟨b2, o2, rfl, hc2⟩ := HY.out k hlt2
        by_cases he : xs[k]?.getD 0 = ys[k]?.getD 0
        · have HE' : Hid (∀ j, j < k + 1 → xs[j]?.getD 0 = ys[j]?.getD 0) := fun j hj => by
            by_cases e : j = k
            · subst e; exact he
            · exact HE.out j (by omega)
          rw [← he] at hc2
          clear he HE
          generalize xs[k]?.getD 0 = z at hc1 hc2
          go_wp2
          go_quiet (fail)
          go_wp2
          go_roundw
          case rel => exact ⟨k + 1, by omega, by go_num, HE', _, rfl⟩
          case measure => simp [intOf]; omega
        · have HN : Hid (xs[k]?.getD 0 ≠ ys[k]?.getD 0) := he
          have hne : (xs[k]?.getD 0 == ys[k]?.getD 0) = false := by simpa using he
          clear he HE
          generalize hz : xs[k]?.getD 0 = z at hc1 hne
          generalize hu : ys[k]?.getD 0 = u at hc2 hne
          have HZ : Hid (xs[k]?.getD 0 = z) := hz
          have HU : Hid (ys[k]?.getD 0 = u) := hu
          clear hz hu
          go_wp2
          go_quiet (fail)
          go_wp2
          go_ret
          exact ⟨ret_bool (eqB_not k HN.out), _, drewN2 _ _ _⟩
      · clear hl
        go_wp2
        go_ret
        exact ⟨ret_bool (eqB_all HL.out (fun j hj => HE.out j (by omega))), _, rfl⟩
  · have hl' : ((xs.length : Int) == (ys.length : Int)) = false := by simp; omega
    go_enter Try.func33, Try.ntmps33
    go_wp2
    go_ret
    exact ⟨ret_bool (eqB_len hl), 0, rfl⟩


theorem Try.info5 : (Try.prog.info? 5).map (fun i => (i.zero, i.size, i.bytes)) = some (some (.int .u8 0), 1, 1) := by kernel_rfl
theorem Try.size5 : (Try.prog.info? 5).map (·.size) = some 1 := by kernel_rfl

theorem made_bytes (n : Nat) : (madeCells (Value.int .u8 0).cells (n * 1)).toList = (List.replicate n (0 : Int)).map (Value.int .u8) := by
  apply List.ext_getElem
  · simp [size_madeCells]
  · intro i h1 h2
    simp [madeCells, Value.cells, Nat.mod_one]

/-- What Lend's loop has made behind j marks. -/
def lent (zs : List Int) (j : Nat) : List Int := zs ++ (List.replicate j 169 ++ List.replicate (5 - j) 0)
theorem lent_len (zs : List Int) (j : Nat) (h : j ≤ 5) : (lent zs j).length = zs.length + 5 := by simp [lent]; omega
theorem lent_set (zs : List Int) (j : Nat) (h : j < 5) : (lent zs j).set (zs.length + j) 169 = lent zs (j + 1) := by
  unfold lent
  rw [List.set_append_right _ _ (by omega), List.set_append_right _ _ (by simp)]
  congr 1
  have e : 5 - j = (5 - (j + 1)) + 1 := by omega
  rw [e, List.replicate_succ]
  simp [List.replicate_succ', List.append_assoc]
theorem lent_0 (zs : List Int) : splice ((List.replicate (zs.length + 5) (0 : Int)).map (Value.int .u8)) 0 (zs.map (Value.int .u8)) = (lent zs 0).map (Value.int .u8) := by
  simp [splice, lent]
theorem lend_made {w1 : World} {B n : Nat} (h : w1.ownsRow B 5 1 (.slice (some ⟨B, 0, none⟩) n n) n (madeCells (Value.int .u8 0).cells (n * 1)).toList) :
    w1.heap[B]? = some (.cells ((List.replicate n (0 : Int)).map (Value.int .u8)).toArray 5 (0, 0)) := by
  rw [made_bytes] at h
  exact (Blk.of_owns h).1

theorem u8_one (zs : List Int) : ∀ v ∈ zs.map (Value.int .u8), v.oneCell' = true := by
  intro v hv
  obtain ⟨z, _, rfl⟩ := List.mem_map.1 hv
  rfl


set_option maxRecDepth 100000 in
set_option maxHeartbeats 400000 in
theorem lend_any (a : Option Addr) (cap : Nat) (zs : List Int) (w : World) (hm : zs.length ≤ 140737488355328) (hb : Bytes w a zs) :
    Calls Try.prog 16 #[.slice a zs.length cap] w fun e w' => e = .returned (.slice (some ⟨w.heap.size, 0, none⟩) zs.length (zs.length + 5)) ∧ Blk w' w.heap.size (lent zs 5) ∧ Kept No w w' := by
  have HB : Hid (Bytes w a zs) := hb
  clear hb
  obtain ⟨i0, hi, hz0, hz1, hz2⟩ := info_parts Try.info5
  go_enter Try.func16, Try.ntmps16
  go_wp2_with (first
    | (at_make; go_must (refine wpList_make_full _ rfl (.tmp 7) (.tmp 7) 25 rfl w.heap.size 5 i0 (.int .u8 0) 1 Try.underlying25 hi hz0 hz1 .i64 .i64 _ _ (zs.length + 5) rfl rfl (by omega) (by omega) (by rw [hz2]; omega) (by unfold maxLen; omega) (Nat.le_refl _) ?_; intro w1 hown hgrow; have HG : Hid _ := lend_made hown; have HK : Hid _ := kept_grown hgrow; clear hown hgrow))
    | (refine wpList_copy_splice rfl (.tmp 9) (.tmp 10) 25 25 rfl 5 Try.underlying25 Try.size5 _ a (zs.length + 5) (zs.length + 5) zs.length cap rfl rfl w.heap.size 0 ((List.replicate (zs.length + 5) (0 : Int)).map (Value.int .u8)) 5 HG.out (zs.map (Value.int .u8)) (by rw [List.length_map]; exact (Nat.min_eq_left (by omega)).symm) (fun h0 => ⟨rfl, (HB.out.no HK.out).src h0⟩) (by simp) (u8_one zs) w.heap.size w (HK.out.below (Nat.le_refl _) (fun _ e => e.elim)) (Nat.le_refl _) ?_; intro w2 HG2 hbel; have HB2 : Hid (Blk w2 w.heap.size (lent zs 0)) := (by have := HG2.out; rw [lent_0] at this; exact this); have HK2 : Hid (Kept No w w2) := Kept.of_below hbel; clear HG2 hbel HK HG))
  go_loopw [4] (fun i wr => ∃ j : Nat, j ≤ 5 ∧ i = .int .i64 ((zs.length + j : Nat) : Int) ∧ Hid (Blk wr w.heap.size (lent zs j)) ∧ Hid (Kept No w wr)) (fun i _ => zs.length + 5 - (intOf i).toNat)
  case atStart => exact ⟨0, Nat.zero_le _, rfl, HB2, HK2⟩
  case round =>
    obtain ⟨j, hj, rfl, HBr, HKr⟩ := hrel
    clear HB2 HK2
    by_cases hlt : j < 5
    · have hfr := HBr.out.frozen (zs.length + j)
      have hcl := HBr.out.cell (zs.length + j) (by rw [lent_len _ _ hj]; omega)
      generalize (lent zs j)[zs.length + j]?.getD 0 = z at hcl
      have HBn : Hid (Blk (wr.setCell ⟨w.heap.size, zs.length + j, none⟩ (.int .u8 169)) w.heap.size (lent zs (j + 1))) := by
        have := HBr.out.set (zs.length + j) 169
        rw [lent_set _ _ hlt] at this
        exact this
      have HKn : Hid (Kept No w (wr.setCell ⟨w.heap.size, zs.length + j, none⟩ (.int .u8 169))) := HKr.out.setCell (fun h => absurd h (Nat.lt_irrefl _)) _
      clear HBr HKr
      go_wp2
      go_roundw
      case rel => exact ⟨j + 1, by omega, by go_num, HBn, HKn⟩
      case measure => simp [intOf]; omega
    · obtain rfl : j = 5 := by omega
      go_wp2
      go_ret
      exact ⟨rfl, HBr.out, HKr.out⟩


theorem lent_take (zs : List Int) : (lent zs 5).take zs.length = zs := by simp [lent]
theorem lent_mark (zs : List Int) (j : Nat) (h : j < 5) : (lent zs 5)[zs.length + j]?.getD 0 = 169 := by
  rw [lent, List.getElem?_append_right (by omega), List.getElem?_append_left (by simp; omega), List.getElem?_replicate, if_pos (by omega)]
  rfl


set_option maxRecDepth 100000 in
set_option maxHeartbeats 400000 in
theorem back_any (g : Nat) (a : Option Addr) (cap : Nat) (zs : List Int) (w : World) (hm : zs.length ≤ 140737488355328) (hB : Blk w g (lent zs 5)) (hb : Bytes w a zs) :
    Calls Try.prog 18 #[.slice (some ⟨g, 0, none⟩) zs.length (zs.length + 5), .slice a zs.length cap] w fun e w' => e = .returned (.bool true) ∧ Kept (Only g) w w' := by
  have HB : Hid (Bytes w a zs) := hb
  have HG : Hid (Blk w g (lent zs 5)) := hB
  clear hb hB
  have HS : Hid (Bytes w (some ⟨g, 0, none⟩) zs) := (by have := HG.out.bytes0 zs.length; rw [lent_take] at this; exact this)
  go_enter Try.func18, Try.ntmps18
  go_wp2_with fail
  refine (same_any _ _ _ _ zs zs _ (by omega) (by omega) HS.out HB.out).mono ?_
  rintro e w1 ⟨rfl, n, rfl⟩
  rw [eqB_refl]
  have HG1 : Hid (Blk (w.drewN n) g (lent zs 5)) := HG.out
  have HK1 : Hid (Kept (Only g) w (w.drewN n)) := (Kept.no_drewN w n).of_no
  clear HG HB HS
  generalize w.drewN n = w1 at HG1 HK1
  go_wp2
  go_loop [5, 7] (fun o i => ∃ j : Nat, j ≤ 5 ∧ i = .int .i64 ((zs.length + j : Nat) : Int) ∧ o = .bool true) (fun _ i => zs.length + 5 - (intOf i).toNat)
  case atStart => exact ⟨0, Nat.zero_le _, rfl, rfl⟩
  case round =>
    obtain ⟨j, hj, rfl, rfl⟩ := hrel
    by_cases hlt : j < 5
    · have hcl := HG1.out.cell (zs.length + j) (by rw [lent_len _ _ (Nat.le_refl _)]; omega)
      rw [lent_mark _ _ hlt] at hcl
      go_wp2
      go_round
      case rel => exact ⟨j + 1, by omega, by go_num, rfl⟩
      case measure => simp [intOf]; omega
    · obtain rfl : j = 5 := by omega
      go_wp2
      go_loopw [8] (fun i wr => ∃ k : Nat, k ≤ zs.length + 5 ∧ i = .int .i64 (k : Int) ∧ Hid (∃ ms : List Int, ms.length = zs.length + 5 ∧ Blk wr g ms) ∧ Hid (Kept (Only g) w wr)) (fun i _ => zs.length + 5 - (intOf i).toNat)
      case atStart => exact ⟨0, Nat.zero_le _, rfl, ⟨_, lent_len _ _ (Nat.le_refl _), HG1.out⟩, HK1⟩
      case round =>
        obtain ⟨k, hk, rfl, HM, HK⟩ := hrel
        clear HG1 HK1
        by_cases hlt2 : k < zs.length + 5
        · obtain ⟨ms, hml, hmb⟩ := HM.out
          have hfr := hmb.frozen k
          have hcl := hmb.cell k (by omega)
          generalize ms[k]?.getD 0 = z at hcl
          have HMn : Hid (∃ ms : List Int, ms.length = zs.length + 5 ∧ Blk (wr.setCell ⟨g, k, none⟩ (.int .u8 94)) g ms) := ⟨_, by rw [List.length_set]; exact hml, hmb.set k 94⟩
          have HKn : Hid (Kept (Only g) w (wr.setCell ⟨g, k, none⟩ (.int .u8 94))) := HK.out.setCell (p := ⟨g, k, none⟩) (fun _ => (rfl : g = g)) _
          clear HM HK hml hmb
          go_wp2
          go_roundw
          case rel => exact ⟨k + 1, by omega, by go_num, HMn, HKn⟩
          case measure => simp [intOf]; omega
        · go_wp2
          go_ret
          exact ⟨rfl, HK.out⟩

end Go.Proofs.Ythnecaejhnojfaa
