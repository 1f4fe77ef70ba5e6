import Derived.Test.YtapjnanenfcdjaaL
import Derived.Test.YtapjnanenfcdjaaOc
namespace Go.Proofs.Ytapjnanenfcdjaa
open Go.RowKit
set_option linter.unusedVariables false
set_option linter.unusedSimpArgs false

theorem eqS_comm (a b : Sp) : eqS a b = eqS b a := by
  rw [Bool.eq_iff_iff]; simp [eqS]; omega
theorem eqC_comm (a b : Cm) : eqC a b = eqC b a := by
  rw [Bool.eq_iff_iff]; simp [eqC]
  constructor <;> (rintro ⟨h1, h2, h3, h4, ⟨h5, h6⟩, ⟨h7, h8⟩, h9⟩; exact ⟨h1.symm, h2.symm, h3.symm, h4.symm, ⟨h5.symm, h6.symm⟩, ⟨h7.symm, h8.symm⟩, h9.symm⟩)
theorem prepB_eq (i : In) (b : Sp) : prepB i b = prepBr i b := by
  unfold prepB prepBr eqI
  rw [eqS_refl, eqC_refl, eqS_comm b i.p]
  cases i.d <;> simp
theorem accB_eq (i : In) (b : Sp) (c : Cm) : accB i b c = accBr i b c := by
  unfold accB accBr eqI
  cases h : refB i b
  · have hd : i.d = false := by
      unfold refB at h
      cases hd : i.d
      · rfl
      · rw [hd] at h; cases h
    rw [hd, eqS_comm b i.p, eqS_comm b i.a, eqC_comm c i.c]
    cases eqS i.p b <;> cases eqS i.a b <;> cases eqC i.c c <;> rfl
  · rfl
theorem lrnB_eq (i : In) (c : Cm) : lrnB i c = !i.d := by
  unfold lrnB eqI
  cases i.d
  · simp
  · rfl
/-- A row is read where its cells lie. -/
theorem run_load_cells {w : World} {g off : Nat} {t : TypeId} {sub : List Value} {d : TypeDesc} (h : ∀ (j : Nat) v, sub[j]? = some v → w.cell? ⟨g, off + j, none⟩ = some v)
    (hu : Try.prog.underlying t = some d) (hd : (match d with | .struct _ | .array _ _ => true | _ => false) = true) (hi : (Try.prog.info? t).map (·.size) = some sub.length) :
    (loadVar t ⟨g, off, none⟩).run Try.prog w = .ok (.agg sub.toArray) w := by
  have hl : (loadCells ⟨g, off, none⟩ sub.length).run Try.prog w = .ok sub.toArray w :=
    run_loadCells_list (P := Try.prog) w ⟨g, off, none⟩ sub (fun j v hv => by rw [addr_add]; exact h j v hv)
  cases hq : Try.prog.info? t with
  | none => simp [hq] at hi
  | some i =>
    have hs : i.size = sub.length := by simpa [hq] using hi
    have hagg : (isAgg t).run Try.prog w = .ok true w := by
      unfold isAgg
      rw [Sem.run_bind, run_underlying hu w]
      cases d <;> simp_all
    simp [loadVar, Sem.run_bind, hagg, sizeOf, typeInfo, hq, hs, hl]
theorem Try.und38 : Try.prog.underlying 38 = some (.struct (Try.prog.fieldsOf 38)) := by kernel_rfl
theorem Try.size38 : (Try.prog.info? 38).map (·.size) = some 12 := by kernel_rfl
def sxZ : Sx := ⟨0, sZ, cZ⟩
theorem zero38 : (Try.prog.info? 38).bind (·.zero) = some (.agg sxZ.cells) := by kernel_rfl
theorem Sx.one (x : Sx) : x.cells.all (·.oneCell') = true := by simp [Sx.cells, Sx.cs, Cm.cs, Value.oneCell']
theorem load_X {w : World} {g off : Nat} {x : Sx} (h : ∀ (j : Nat) v, x.cs[j]? = some v → w.cell? ⟨g, off + j, none⟩ = some v) : (loadVar 38 ⟨g, off, none⟩).run Try.prog w = .ok (.agg x.cells) w :=
  run_load_cells h Try.und38 rfl Try.size38
theorem load_Xb {w : World} {g : Nat} {x : Sx} (hb : Box w g 38 x.cells) : (loadVar 38 ⟨g, 0, none⟩).run Try.prog w = .ok (.agg x.cells) w := run_load_part hb (Part.all _) Try.und38 rfl Try.size38
theorem store_X {w : World} {g : Nat} {x : Sx} {cur : Array Value} (hb : Box w g 38 cur) (hl : cur.size = 12) : (storeVar 38 ⟨g, 0, none⟩ (.agg x.cells)).run Try.prog w = .ok () (w.setRow g x.cells) :=
  run_storeVar_row w g 38 38 cur x.cells hb Try.size38 (by rw [hl]; rfl) x.one
theorem Sx.partB (x : Sx) : Part x.cs 1 [.int .i64 x.b.n, .int .i64 x.b.c] := fun j v h => by
  match j, h with
  | 0, h => exact h
  | 1, h => exact h
theorem Sx.partC (x : Sx) : Part x.cs 3 x.c.cs := Part.mid _ _ _ rfl
theorem load_XC {w : World} {g : Nat} {x : Sx} (hb : Box w g 38 x.cells) : (loadVar 27 ⟨g, 3, none⟩).run Try.prog w = .ok (.agg x.c.cells) w :=
  run_load_part hb x.partC Try.und27 rfl Try.size27
/-- What holds between the rounds: an instance lies in its block. -/
def AtI (w : World) (A : Nat) (wr : World) (P : In → Prop) : Prop := ∃ i : In, Box wr A 29 i.cells ∧ Kept No w wr ∧ A < wr.heap.size ∧ P i

end Go.Proofs.Ytapjnanenfcdjaa
