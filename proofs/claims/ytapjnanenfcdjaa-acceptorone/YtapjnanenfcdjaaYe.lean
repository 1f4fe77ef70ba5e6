import Derived.Test.YtapjnanenfcdjaaYd
import Derived.Laws.MakeOwn
namespace Go.Proofs.Ytapjnanenfcdjaa
open Go.RowKit
set_option linter.unusedVariables false
set_option linter.unusedSimpArgs false

def acZ : Ac := ⟨0, 0, 0, sZ, false⟩
theorem zero71 : (Try.prog.info? 71).bind (·.zero) = some (.agg acZ.cells) := by kernel_rfl
theorem Try.und71 : Try.prog.underlying 71 = some (.struct (Try.prog.fieldsOf 71)) := by kernel_rfl
theorem Try.size71 : (Try.prog.info? 71).map (·.size) = some 6 := by kernel_rfl
theorem Ac.one (x : Ac) : x.cells.all (·.oneCell') = true := by simp [Ac.cells, Ac.cs, Value.oneCell']
theorem load_A {w : World} {g off : Nat} {x : Ac} (h : ∀ (j : Nat) v, x.cs[j]? = some v → w.cell? ⟨g, off + j, none⟩ = some v) : (loadVar 71 ⟨g, off, none⟩).run Try.prog w = .ok (.agg x.cells) w := run_load_cells h Try.und71 rfl Try.size71
theorem store_A {w : World} {g : Nat} {x : Ac} {cur : Array Value} (hb : Box w g 71 cur) (hl : cur.size = 6) : (storeVar 71 ⟨g, 0, none⟩ (.agg x.cells)).run Try.prog w = .ok () (w.setRow g x.cells) :=
  run_storeVar_row w g 71 71 cur x.cells hb Try.size71 (by rw [hl]; rfl) x.one
theorem Ac.partB (x : Ac) : Part x.cs 3 [.int .i64 x.b.n, .int .i64 x.b.c] := fun j v h => by
  match j, h with
  | 0, h => exact h
  | 1, h => exact h
theorem mulN (a : Int) (w : World) (h0 : 0 ≤ a) (h1 : a ≤ 1000) : (binOp .mul 3 (.int .i64 2) (.int .i64 a)).run Try.prog w = .ok (.int .i64 (2 * a)) w := by
  have e : (binOp .mul 3 (.int .i64 2) (.int .i64 a)).run Try.prog w = .ok (.int .i64 (IntKind.i64.wrap (2 * a))) w := by kernel_rfl
  rw [e, IntKind.wrap_i64]
  congr 3
  omega
theorem made0 : madeCells iZ.cells ((2 * 0 + 1) * 14) = ((List.replicate (2 * 0 + 1) iZ).map In.cs).flatten.toArray := by kernel_rfl
theorem made1 : madeCells iZ.cells ((2 * 1 + 1) * 14) = ((List.replicate (2 * 1 + 1) iZ).map In.cs).flatten.toArray := by kernel_rfl
theorem made2 : madeCells iZ.cells ((2 * 2 + 1) * 14) = ((List.replicate (2 * 2 + 1) iZ).map In.cs).flatten.toArray := by kernel_rfl
theorem made3 : madeCells iZ.cells ((2 * 3 + 1) * 14) = ((List.replicate (2 * 3 + 1) iZ).map In.cs).flatten.toArray := by kernel_rfl
theorem made_eq (r : Nat) (h : r < 4) : madeCells iZ.cells ((2 * r + 1) * 14) = ((List.replicate (2 * r + 1) iZ).map In.cs).flatten.toArray := by
  have : r = 0 ∨ r = 1 ∨ r = 2 ∨ r = 3 := by omega
  rcases this with rfl | rfl | rfl | rfl
  · exact made0
  · exact made1
  · exact made2
  · exact made3
theorem exec_make {o : Oper} {a : Act} {w : World} (x : Operand) (ho : o.op = .makeSlice 66 x x) (r : Nat) (h : r < 4) (hx : a.eval x = .int .i64 (2 * (r : Int) + 1)) :
    (execOp a.eval o).run Try.prog w = .ok (.value (.slice (some ⟨w.heap.size, 0, none⟩) (2 * r + 1) (2 * r + 1))) (w.alloc (.cells ((List.replicate (2 * r + 1) iZ).map In.cs).flatten.toArray 29)) := by
  obtain ⟨i0, hi, hz0, hz1, hz2⟩ := info_parts (t := 29) (z := some (.agg iZ.cells)) (s := 14) (b := 120) (by kernel_rfl)
  have hrun := run_makeSlice (P := Try.prog) w 66 29 i0 (.agg iZ.cells) Try.und66 hi hz0 .i64 .i64 (2 * (r : Int) + 1) (2 * (r : Int) + 1) (by omega) (by omega) (by rw [hz1]; omega) (by rw [hz2]; omega) (by omega)
  have e1 : (2 * (r : Int) + 1).toNat = 2 * r + 1 := by omega
  rw [e1, hz1, show (Value.agg iZ.cells).cells = iZ.cells from rfl, made_eq r h] at hrun
  simp only [execOp, ho, hx, Sem.run_bind, hrun, Result.andThen_ok, Sem.run_pure]
section
variable {w0 w w' : World} {p bI : Nat} {la : Option Addr} {lc : Nat} {st : PS} {xs : List Px}
theorem PM.keep71 (h : PM w0 w p bI la lc st xs none) (hk : Kept (PSet p bI la xs) w w') {g : Nat} {cs : Array Value} (hb : Box w g 71 cs) : Box w' g 71 cs := by
  refine hb.kept hk (fun e => ?_)
  rcases e with e | e | e | ⟨k, x, hx, e | e⟩
  · exact box_ne hb h.box (by decide) e
  · exact box_ne hb h.ins (by decide) e
  · exact own_box h.row hb (by decide) e rfl
  · exact own_box (h.pown k x hx (by simp)) hb (by decide) e rfl
  · exact own_box (h.aown k x hx (by simp)) hb (by decide) e rfl
theorem PM.keepNo (h : PM w0 w p bI la lc st xs none) (hk : Kept (PSet p bI la xs) w w') (h0 : Kept No w0 w) : Kept No w0 w' := by
  refine h0.trans hk (fun _ e => e) (fun i hi e => ?_)
  rcases e with e | e | e | ⟨k, x, hx, e | e⟩
  · have := h.np; omega
  · have := h.ni; omega
  · have := h.row.base e; omega
  · have := (h.pown k x hx (by simp)).base e; omega
  · have := (h.aown k x hx (by simp)).base e; omega
end
/-- What holds between the rounds. -/
def PlI (w : World) (p bI : Nat) (wr : World) : Prop := ∃ (la : Option Addr) (lc : Nat) (st : PS) (xs : List Px), PM w wr p bI la lc st xs none ∧ Inv st ∧ st.f ≤ 3 ∧ xs.length ≤ 64 ∧ Kept No w wr
theorem PM.start {w0 w : World} {p bI r : Nat} (hp : Box w p 69 (playC r bI (2 * r + 1) none 0 0 cZ).toArray) (hi : Box w bI 29 ((List.replicate (2 * r + 1) iZ).map In.cs).flatten.toArray) (np : w0.heap.size ≤ p) (ni : w0.heap.size ≤ bI) : PM w0 w p bI none 0 ⟨r, List.replicate (2 * r + 1) iZ, [], cZ⟩ [] none :=
  ⟨by simpa using hp, hi, rfl, ⟨rfl, .inl ⟨rfl, rfl⟩⟩, fun k x hx => by simp at hx, fun k x hx => by simp at hx, fun i j x y hx => by simp at hx, np, ni⟩
theorem lrn_spec {i : In} {c : Cm} : (lrnI i c).d = true := by
  unfold lrnI
  cases h : i.d
  · rfl
  · exact h
theorem Inv.lrn {st : PS} (h : Inv st) {s : Nat} {i : In} (hi : st.is[s]? = some i) (hk : st.dec.k ≠ 0) : Inv { st with is := st.is.set s (lrnI i st.dec) } ∧ (lrnI i st.dec).c = st.dec := by
  unfold lrnI
  cases hd : i.d
  · exact ⟨h.learn hk, rfl⟩
  · simp only [if_true]
    rw [set_same hi]
    exact ⟨h, (h.kn s i hi hd).1⟩

end Go.Proofs.Ytapjnanenfcdjaa
