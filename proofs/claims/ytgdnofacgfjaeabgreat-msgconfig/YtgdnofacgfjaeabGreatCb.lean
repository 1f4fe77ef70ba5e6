import Derived.Test.YtgdnofacgfjaeabGreatVr
namespace Go.Proofs.YtgdnofacgfjaeabGreat
open Go.RowKit
set_option linter.unusedVariables false

/-- A Reader, whatever it holds. -/
def Rdr (w : World) (g : Nat) : Prop := ∃ v0 v1 v2 v3, w.heap[g]? = some (.cells #[v0, v1, v2, v3] 190 (0, 0))
theorem Rd.rdr {w : World} {g : Nat} {la : Option Addr} {lc : Nat} {zs : List Int} {at_ : Nat} (h : Rd w g la lc zs at_) : Rdr w g := ⟨_, _, _, _, h.cell⟩

/-- A Reader with a fault. -/
def RdF (w : World) (g : Nat) (place : Nat) (code : Int) : Prop := w.heap[g]? = some (.cells #[.slice none 0 0, .int .i64 0, .int .i64 (place : Int), .int .i64 code] 190 (0, 0))

/-- What a caught call leaves: OK of it, or the fault c with BAD c. -/
def Caught (g at_ : Nat) (OK : World → World → Prop) (BAD : Int → Prop) (w : World) (e : Ending) (w' : World) : Prop :=
  e = .returned (.tuple #[]) ∧ ((∃ W, Kept No w W ∧ OK W w') ∨ ∃ c, BAD c ∧ RdF w' g at_ c ∧ Kept (Only g) w w')

/-- What a call leaves that may throw. -/
def Throws (g : Nat) (OK : World → World → Prop) (BAD : Int → Prop) (w : World) (e : Ending) (w' : World) : Prop :=
  (e = .returned (.tuple #[]) ∧ OK w w') ∨ ∃ c, e = Thrown c ∧ BAD c ∧ Rdr w' g ∧ Kept (Only g) w w'

set_option maxRecDepth 1000000 in
set_option maxHeartbeats 1000000 in
theorem catch_any (F : Nat) (caps : Array Value) (hrun : ∀ W, (callFunc F caps).run Tryz.prog W = .ok (.enter F caps) W) (g : Nat) (la : Option Addr) (lc : Nat) (zs : List Int) (at_ : Nat) (OK : World → World → Prop) (BAD : Int → Prop) (w : World)
    (h : Rd w g la lc zs at_) (hcall : ∀ W, Kept No w W → Calls Tryz.prog F caps W (Throws g OK BAD W)) :
    Calls Tryz.prog 132 #[.pointer (some ⟨g, 0, none⟩), .func (Fn.func F) #[] caps] w (Caught g at_ OK BAD w) := by
  have hmf : ∀ (fn : Fn) (first cap : Array Value) (w : World), (Instr.makeFunc fn first cap).run Tryz.prog w = .ok (.func fn first cap) w := fun _ _ _ _ => rfl
  have c3 : w.cell? ⟨g, 3, none⟩ = some (.int .i64 0) := by rw [cell_of_row w g 3 _ 190 (0, 0) h.cell]; rfl
  have c1 : w.cell? ⟨g, 1, none⟩ = some (.int .i64 (at_ : Int)) := by rw [cell_of_row w g 1 _ 190 (0, 0) h.cell]; rfl
  have hg : g < w.heap.size := h.lt
  have HR : Hid (Rd w g la lc zs at_) := h
  have HC : Hid (∀ W, Kept No w W → Calls Tryz.prog F caps W (Throws g OK BAD W)) := hcall
  clear h hcall
  go_enter_defers Tryz.func132, Tryz.ntmps132
  go_wp2_with fail
  refine (HC.out _ (((Kept.refl No w).alloc _).alloc _)).mono ?_
  rintro e w1 (⟨rfl, hok⟩ | ⟨c, rfl, hbad, ⟨v0, v1, v2, v3, hrd⟩, hk⟩)
  · have HF : Hid (∃ W, Kept No w W ∧ OK W w1) := ⟨_, ((Kept.refl No w).alloc _).alloc _, hok⟩
    clear hok
    go_wp2
    refine leaves_cons (f := 176) (args := #[.pointer (some ⟨w.heap.size + 1, 0, none⟩), .pointer (some ⟨w.heap.size, 0, none⟩)]) (by simp) (by simp [go_sem]) ?_
    refine (catch_idle _ _ _).mono ?_
    rintro e u' w'' ⟨rfl, rfl, rfl⟩
    have : Caught g at_ OK BAD w (.returned (.tuple #[])) w'' := ⟨rfl, .inl HF.out⟩
    simpa [Leaves, settle, results, Tryz.results132] using this
  · have hp : w1.cell? ⟨w.heap.size + 1, 0, none⟩ = some (.int .i64 (at_ : Int)) := hk.cell (by simp) (fun e => by have e' : w.heap.size + 1 = g := e; omega)
    have hq : w1.cell? ⟨w.heap.size, 0, none⟩ = some (.pointer (some ⟨g, 0, none⟩)) := hk.cell (by simp) (fun e => by have e' : w.heap.size = g := e; omega)
    have d0 : w1.cell? ⟨g, 0, none⟩ = some v0 := by rw [cell_of_row w1 g 0 _ 190 (0, 0) hrd]; rfl
    have d1 : w1.cell? ⟨g, 1, none⟩ = some v1 := by rw [cell_of_row w1 g 1 _ 190 (0, 0) hrd]; rfl
    have d2 : w1.cell? ⟨g, 2, none⟩ = some v2 := by rw [cell_of_row w1 g 2 _ 190 (0, 0) hrd]; rfl
    have d3 : w1.cell? ⟨g, 3, none⟩ = some v3 := by rw [cell_of_row w1 g 3 _ 190 (0, 0) hrd]; rfl
    refine leaves_cons (f := 176) (args := #[.pointer (some ⟨w.heap.size + 1, 0, none⟩), .pointer (some ⟨w.heap.size, 0, none⟩)]) (by simp) (by simp [go_sem]) ?_
    refine (catch_panicking (w.heap.size + 1) w.heap.size g at_ c v0 v1 v2 v3 [] w1 hp hq d0 d1 d2 d3 (frozen_of_row w1 g 0 _ 190 hrd) (frozen_of_row w1 g 1 _ 190 hrd) (frozen_of_row w1 g 2 _ 190 hrd) (frozen_of_row w1 g 3 _ 190 hrd)).mono ?_
    rintro e u' w'' ⟨rfl, rfl, hw⟩
    have h1 := heap_setCell_same w1 g 0 _ 190 (.slice none 0 0) hrd
    have h2 := heap_setCell_same _ g 1 _ 190 (.int .i64 0) h1
    have h3 := heap_setCell_same _ g 2 _ 190 (.int .i64 (at_ : Int)) h2
    have h4 := heap_setCell_same _ g 3 _ 190 (.int .i64 c) h3
    have hK : Kept (Only g) w w'' := by
      rw [hw]
      exact (((((((Kept.refl No w).alloc _).alloc _).of_no.then hk).setCell (p := ⟨g, 0, none⟩) (fun _ => (rfl : g = g)) _).setCell (p := ⟨g, 1, none⟩) (fun _ => (rfl : g = g)) _).setCell (p := ⟨g, 2, none⟩) (fun _ => (rfl : g = g)) _).setCell (p := ⟨g, 3, none⟩) (fun _ => (rfl : g = g)) _
    have hF : RdF w'' g at_ c := by rw [hw]; unfold RdF; rw [h4]; rfl
    have : Caught g at_ OK BAD w (.returned (.tuple #[])) w'' := ⟨rfl, .inr ⟨c, hbad, hF, hK⟩⟩
    simpa [Leaves, settle, results, Tryz.results132] using this

end Go.Proofs.YtgdnofacgfjaeabGreat
