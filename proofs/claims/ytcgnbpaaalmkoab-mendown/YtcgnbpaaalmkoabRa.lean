import Derived.Test.YtcgnbpaaalmkoabG
namespace Go.Proofs.Ytcgnbpaaalmkoab
open Go.RowKit
set_option linter.unusedVariables false
set_option linter.unusedSimpArgs false

theorem sliced0 (g n m c : Nat) (h : 0 < m) : sliced (some ⟨g, 0, none⟩) 0 n m c = .slice (some ⟨g, 0, none⟩) n m := by
  rw [sliced_in g 0 0 n m c h]; simp
theorem setRow_self {w : World} {g : Nat} {t : TypeId} {cs : Array Value} (h : Box w g t cs) : w.setRow g cs = w := by
  have hlt := h.lt
  have hv : w.heap[g] = .cells cs t (0, 0) := (Array.getElem?_eq_some_iff.1 h).2
  have hh : (w.setRow g cs).heap = w.heap := by
    unfold World.setRow
    apply Array.ext
    · simp
    · intro i h1 h2
      simp only [Array.getElem_modify]
      split
      · rename_i e; subst e; rw [hv]
      · rfl
  have : w.setRow g cs = { w with heap := (w.setRow g cs).heap } := rfl
  rw [this, hh]
theorem made_row (c : Nat) (z : List Value) (hz : z.length = c) (h0 : 0 < c) (n : Nat) : madeCells z.toArray (n * c) = ((List.replicate n z).flatten).toArray := by
  have hc : ∀ x ∈ List.replicate n z, x.length = c := fun x hx => by rw [(List.mem_replicate.1 hx).2]; exact hz
  have hfl : ((List.replicate n z).flatten).length = n * c := by rw [flat_len c _ hc, List.length_replicate]
  apply Array.ext
  · rw [size_madeCells]; simp only [List.size_toArray]; exact hfl.symm
  · intro i h1 h2
    rw [size_madeCells] at h1
    have hi : i / c < n := Nat.div_lt_of_lt_mul (by rw [Nat.mul_comm]; exact h1)
    have hm : i % c < z.length := by rw [hz]; exact Nat.mod_lt _ h0
    have h3 := flat_get c _ hc (i / c) z (by simp [hi]) (i % c) z[i % c] (List.getElem?_eq_getElem hm)
    rw [show i / c * c + i % c = i by rw [Nat.mul_comm]; exact Nat.div_add_mod i c] at h3
    have h4 : ((List.replicate n z).flatten)[i]? = some (((List.replicate n z).flatten)[i]'(by simpa using h2)) := List.getElem?_eq_getElem _
    rw [h4] at h3
    have h5 := Option.some.inj h3
    simp only [List.getElem_toArray, h5]
    simp [madeCells, hz]
    rw [List.getElem?_eq_getElem hm]; rfl
theorem rep_en (n : Nat) : ((List.replicate n enZ.cs).flatten) = enL (List.replicate n enZ) := by simp [enL]
theorem make_en (w : World) (n : Nat) (hb : n ≤ 3518437208883) : (Instr.makeSlice 27 (.int .i64 (n : Int)) (.int .i64 (n : Int))).run Try.prog w = .ok (.slice (some ⟨w.heap.size, 0, none⟩) n n) (w.alloc (.cells (enL (List.replicate n enZ)).toArray 91)) := by
  cases hq : Try.prog.info? 91 with
  | none => have := Try.info110; simp [hq] at this
  | some i =>
    have h1 := Try.info110
    simp only [hq, Option.map_some, Option.some.injEq, Prod.mk.injEq] at h1
    obtain ⟨hz, hs, hby⟩ := h1
    have h := run_make (P := Try.prog) w 27 91 i (.agg enZ.cells) Try.und29 hq hz .i64 .i64 (n : Int) (n : Int) (by omega) (by omega) (by rw [hby]; omega) (by omega)
    rw [h, hs, ← rep_en]
    simp only [Int.toNat_natCast]
    rw [← made_row 4 enZ.cs rfl (by omega) n]
    rfl
theorem rep_la (n : Nat) : ((List.replicate n laZ.cs).flatten) = laL (List.replicate n laZ) := by simp [laL]
theorem make_la (w : World) (n : Nat) (hb : n ≤ 2513169434916) : (Instr.makeSlice 28 (.int .i64 (n : Int)) (.int .i64 (n : Int))).run Try.prog w = .ok (.slice (some ⟨w.heap.size, 0, none⟩) n n) (w.alloc (.cells (laL (List.replicate n laZ)).toArray 94)) := by
  cases hq : Try.prog.info? 94 with
  | none => have := Try.info113; simp [hq] at this
  | some i =>
    have h1 := Try.info113
    simp only [hq, Option.map_some, Option.some.injEq, Prod.mk.injEq] at h1
    obtain ⟨hz, hs, hby⟩ := h1
    have h := run_make (P := Try.prog) w 28 94 i (.agg laZ.cells) Try.und30 hq hz .i64 .i64 (n : Int) (n : Int) (by omega) (by omega) (by rw [hby]; omega) (by omega)
    rw [h, hs, ← rep_la]
    simp only [Int.toNat_natCast]
    rw [← made_row 7 laZ.cs rfl (by omega) n]
    rfl
theorem exec_make {o : Oper} {a : Act} {w w' : World} {v : Value} (t : TypeId) (x y : Operand) (ho : o.op = .makeSlice t x y) (vx vy : Value) (hx : a.eval x = vx) (hy : a.eval y = vy) (hrun : (Instr.makeSlice t vx vy).run Try.prog w = .ok v w') : (execOp a.eval o).run Try.prog w = .ok (.value v) w' := by
  simp [execOp, ho, hx, hy, hrun]

end Go.Proofs.Ytcgnbpaaalmkoab
