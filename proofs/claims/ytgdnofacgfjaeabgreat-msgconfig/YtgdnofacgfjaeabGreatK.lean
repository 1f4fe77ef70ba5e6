import Derived.Test.YtgdnofacgfjaeabGreatM
import Derived.Deep.Draws
import Derived.Laws.CopyOwn
import Derived.Laws.AppendOwnNone
import Derived.WalkSmall
namespace Go.Proofs.YtgdnofacgfjaeabGreat
open Go.RowKit

/-- From w to w' no old block has turned but those of S; the streams are as they were. -/
structure Kept (S : Nat → Prop) (w w' : World) : Prop where
  os : w'.os = w.os
  tape : w'.tape = w.tape
  output : w'.output = w.output
  size : w.heap.size ≤ w'.heap.size
  block : ∀ k, k < w.heap.size → ¬ S k → w'.heap[k]? = w.heap[k]?

def No : Nat → Prop := fun _ => False
def Only (g : Nat) : Nat → Prop := fun k => k = g

theorem Kept.refl (S : Nat → Prop) (w : World) : Kept S w w := ⟨rfl, rfl, rfl, Nat.le_refl _, fun _ _ _ => rfl⟩

theorem Kept.trans {S T U : Nat → Prop} {a b c : World} (h : Kept S a b) (k : Kept T b c) (hS : ∀ i, S i → U i) (hT : ∀ i, i < a.heap.size → T i → U i) : Kept U a c :=
  ⟨k.os.trans h.os, k.tape.trans h.tape, k.output.trans h.output, Nat.le_trans h.size k.size,
    fun i hi hU => (k.block i (Nat.lt_of_lt_of_le hi h.size) (fun e => hU (hT i hi e))).trans (h.block i hi (fun e => hU (hS i e)))⟩

theorem Kept.mono {S T : Nat → Prop} {a b : World} (h : Kept S a b) (hS : ∀ i, i < a.heap.size → S i → T i) : Kept T a b :=
  ⟨h.os, h.tape, h.output, h.size, fun i hi hT => h.block i hi (fun e => hT (hS i hi e))⟩

theorem Kept.of_no {S : Nat → Prop} {a b : World} (h : Kept No a b) : Kept S a b := h.mono (fun _ _ e => e.elim)

/-- Both keep the same. -/
theorem Kept.then {S : Nat → Prop} {a b c : World} (h : Kept S a b) (k : Kept S b c) : Kept S a c := h.trans k (fun _ e => e) (fun _ _ e => e)

theorem Kept.drewN {S : Nat → Prop} {a w : World} (h : Kept S a w) (n : Nat) : Kept S a (w.drewN n) := ⟨h.os, h.tape, h.output, h.size, h.block⟩
theorem Kept.drew {S : Nat → Prop} {a w : World} (h : Kept S a w) : Kept S a w.drew := ⟨h.os, h.tape, h.output, h.size, h.block⟩

theorem Kept.alloc {S : Nat → Prop} {a w : World} (h : Kept S a w) (o : Obj) : Kept S a (w.alloc o) :=
  h.then ⟨rfl, rfl, rfl, by simp, fun k hk _ => Below.heap_alloc _ _ _ hk⟩

theorem Kept.setCell {S : Nat → Prop} {a w : World} (h : Kept S a w) {p : Addr} (hp : p.block < a.heap.size → S p.block) (u : Value) : Kept S a (w.setCell p u) :=
  ⟨h.os, h.tape, h.output, by simpa [World.setCell] using h.size, fun k hk hS => by
    rw [Below.heap_setCell _ _ _ _ (fun e => hS (by subst e; exact hp hk))]; exact h.block k hk hS⟩

theorem Kept.grown {S : Nat → Prop} {a w w' : World} {row : Option Nat} (h : Kept S a w) (hg : w.grownBy w' row) (hr : ∀ k, row = some k → k < a.heap.size → S k) : Kept S a w' :=
  ⟨hg.os.trans h.os, hg.tape.trans h.tape, hg.output.trans h.output, Nat.le_trans h.size hg.size,
    fun k hk hS => (hg.block k (Nat.lt_of_lt_of_le hk h.size) (fun e => hS (hr k e.symm hk))).trans (h.block k hk hS)⟩

theorem Kept.below {S : Nat → Prop} {w w' : World} {B : Nat} (h : Kept S w w') (hB : B ≤ w.heap.size) (hS : ∀ k, S k → B ≤ k) : Below B w w' :=
  ⟨h.os, h.tape, h.output, h.size, fun k hk => h.block k (by omega) (fun e => by have := hS k e; omega)⟩

theorem Kept.of_below {w w' : World} (h : Below w.heap.size w w') : Kept No w w' := ⟨h.os, h.tape, h.output, h.size, fun k hk _ => h.block k hk⟩

theorem Kept.cell {S : Nat → Prop} {w w' : World} (h : Kept S w w') {p : Addr} {v : Value} (hc : w.cell? p = some v) (hp : ¬ S p.block) : w'.cell? p = some v :=
  (World.cell?_of_block (w := w) (h.block p.block (World.block_lt_of_cell? w p hc) hp)).trans hc

theorem Bytes.kept {S : Nat → Prop} {w w' : World} {a : Option Addr} {zs : List Int} (h : Bytes w a zs) (hk : Kept S w w') (hS : ∀ b off, a = some ⟨b, off, none⟩ → ¬ S b) : Bytes w' a zs := by
  intro i hi
  obtain ⟨b, off, rfl, hc⟩ := h i hi
  exact ⟨b, off, rfl, hk.cell hc (hS b off rfl)⟩

theorem Bytes.no {w w' : World} {a : Option Addr} {zs : List Int} (h : Bytes w a zs) (hk : Kept No w w') : Bytes w' a zs := h.kept hk (fun _ _ _ e => e)

/-- The block of a slice that has bytes. -/
theorem Bytes.lt {w : World} {b off : Nat} {zs : List Int} (h : Bytes w (some ⟨b, off, none⟩) zs) (h0 : 0 < zs.length) : b < w.heap.size := by
  obtain ⟨b', off', e, hc⟩ := h 0 h0
  cases e
  exact World.block_lt_of_cell? w _ hc

/-- A block of bytes that the call itself has made. -/
def Blk (w : World) (g : Nat) (zs : List Int) : Prop := w.heap[g]? = some (.cells (zs.map (Value.int .u8)).toArray 5 (0, 0))

theorem Blk.lt {w : World} {g : Nat} {zs : List Int} (h : Blk w g zs) : g < w.heap.size := (Array.getElem?_eq_some_iff.1 h).1

theorem Blk.cell {w : World} {g : Nat} {zs : List Int} (h : Blk w g zs) (i : Nat) (hi : i < zs.length) : w.cell? ⟨g, i, none⟩ = some (.int .u8 (zs[i]?.getD 0)) := by
  rw [cell_of_row w g i _ 5 (0, 0) h]; simp [List.getElem?_eq_getElem hi]

theorem Blk.frozen {w : World} {g : Nat} {zs : List Int} (h : Blk w g zs) (i : Nat) : w.frozen? ⟨g, i, none⟩ = false := frozen_of_row w g i _ 5 h

theorem Blk.set {w : World} {g : Nat} {zs : List Int} (h : Blk w g zs) (i : Nat) (x : Int) : Blk (w.setCell ⟨g, i, none⟩ (.int .u8 x)) g (zs.set i x) := by
  have := heap_setCell_same w g i _ 5 (.int .u8 x) h
  unfold Blk
  rw [this]
  simp [List.map_set]

theorem Blk.kept {S : Nat → Prop} {w w' : World} {g : Nat} {zs : List Int} (h : Blk w g zs) (hk : Kept S w w') (hS : ¬ S g) : Blk w' g zs :=
  (hk.block g h.lt hS).trans h

theorem Blk.bytes {w : World} {g : Nat} {zs : List Int} (h : Blk w g zs) (off n : Nat) : Bytes w (some ⟨g, off, none⟩) ((zs.drop off).take n) := by
  intro i hi
  refine ⟨g, off, rfl, ?_⟩
  simp only [List.length_take, List.length_drop] at hi
  rw [h.cell _ (by omega), List.getElem?_take, if_pos (by omega), List.getElem?_drop]

theorem Blk.bytes0 {w : World} {g : Nat} {zs : List Int} (h : Blk w g zs) (n : Nat) : Bytes w (some ⟨g, 0, none⟩) (zs.take n) := h.bytes 0 n
theorem Blk.all {w : World} {g : Nat} {zs : List Int} (h : Blk w g zs) : Bytes w (some ⟨g, 0, none⟩) zs := by
  have := h.bytes0 zs.length; rwa [List.take_length] at this

theorem Blk.of_owns {w : World} {base g n : Nat} {zs : List Int} (h : w.ownsRow base 5 1 (.slice (some ⟨g, 0, none⟩) n n) n (zs.map (Value.int .u8))) : Blk w g zs ∧ base ≤ g := by
  rcases h.2 with ⟨h', _⟩ | ⟨g', cap', cur, h', hb, hg, _, _, hcs, htake⟩
  · simp at h'
  · simp only [Value.slice.injEq, Option.some.injEq, Addr.mk.injEq, and_true, true_and] at h'
    obtain ⟨rfl, rfl⟩ := h'
    refine ⟨?_, hb⟩
    rw [List.take_of_length_le (by simp [hcs])] at htake
    unfold Blk
    rw [hg, ← htake]

theorem Blk.owns {w : World} {base g : Nat} {zs : List Int} (h : Blk w g zs) (hb : base ≤ g) (hm : zs.length ≤ maxLen) : w.ownsRow base 5 1 (.slice (some ⟨g, 0, none⟩) zs.length zs.length) zs.length (zs.map (Value.int .u8)) :=
  ⟨by simp, .inr ⟨g, zs.length, _, rfl, hb, h, Nat.le_refl _, hm, by simp, by rw [List.take_of_length_le (by simp)]⟩⟩

theorem U8.take {zs : List Int} (h : U8 zs) (n : Nat) : U8 (zs.take n) := by
  intro i
  rw [List.getElem?_take]
  split
  · exact h i
  · simp

theorem U8.drop {zs : List Int} (h : U8 zs) (n : Nat) : U8 (zs.drop n) := by
  intro i; rw [List.getElem?_drop]; exact h _

theorem U8.nil : U8 [] := by intro i; simp

theorem U8.append {xs ys : List Int} (h : U8 xs) (k : U8 ys) : U8 (xs ++ ys) := by
  intro i
  rw [List.getElem?_append]
  split
  · exact h i
  · exact k _

theorem U8.cons {x : Int} {xs : List Int} (h : 0 ≤ x ∧ x ≤ 255) (k : U8 xs) : U8 (x :: xs) := by
  intro i
  cases i with
  | zero => simpa using h
  | succ i => simpa using k i

theorem U8.replicate (n : Nat) {x : Int} (h : 0 ≤ x ∧ x ≤ 255) : U8 (List.replicate n x) := by
  induction n with
  | zero => exact U8.nil
  | succ n ih => rw [List.replicate_succ]; exact U8.cons h ih

theorem U8.set {xs : List Int} (h : U8 xs) (i : Nat) {x : Int} (hx : 0 ≤ x ∧ x ≤ 255) : U8 (xs.set i x) := by
  intro j
  rw [List.getElem?_set]
  split
  · split
    · simpa using hx
    · simp
  · exact h j

end Go.Proofs.YtgdnofacgfjaeabGreat
