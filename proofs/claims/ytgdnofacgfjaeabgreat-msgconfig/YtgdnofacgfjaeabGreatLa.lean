import Derived.Test.YtgdnofacgfjaeabGreatRows
import Derived.Test.YtgdnofacgfjaeabGreatK
namespace Go.Proofs.YtgdnofacgfjaeabGreat
open Go.RowKit
set_option linter.unusedVariables false

theorem Tryz.info5 : (Tryz.prog.info? 5).map (fun i => (i.zero, i.size, i.bytes)) = some (some (.int .u8 0), 1, 1) := by kernel_rfl
theorem Tryz.size5 : (Tryz.prog.info? 5).map (·.size) = some 1 := by kernel_rfl

theorem made_bytes (n : Nat) : (madeCells (Value.int .u8 0).cells (n * 1)).toList = (List.replicate n (0 : Int)).map (Value.int .u8) := by
  apply List.ext_getElem
  · simp [size_madeCells]
  · intro i h1 h2
    simp [madeCells, Value.cells, Nat.mod_one]

/-- What Lend's loop has made behind j marks. -/
def lent (zs : List Int) (j : Nat) : List Int := zs ++ (List.replicate j 169 ++ List.replicate (5 - j) 0)
theorem lent_len (zs : List Int) (j : Nat) (h : j ≤ 5) : (lent zs j).length = zs.length + 5 := by simp [lent]; omega
theorem lent_set (zs : List Int) (j : Nat) (h : j < 5) : (lent zs j).set (zs.length + j) 169 = lent zs (j + 1) := by
  unfold lent
  rw [List.set_append_right _ _ (by omega), List.set_append_right _ _ (by simp)]
  congr 1
  have e : 5 - j = (5 - (j + 1)) + 1 := by omega
  rw [e, List.replicate_succ]
  simp [List.replicate_succ', List.append_assoc]
theorem lent_0 (zs : List Int) : splice ((List.replicate (zs.length + 5) (0 : Int)).map (Value.int .u8)) 0 (zs.map (Value.int .u8)) = (lent zs 0).map (Value.int .u8) := by
  simp [splice, lent]
theorem lent_5 (zs : List Int) : lent zs 5 = zs ++ [169, 169, 169, 169, 169] := by simp [lent, List.replicate]


theorem addr_add (b off j : Nat) : (⟨b, off, none⟩ : Addr).add j = ⟨b, off + j, none⟩ := by unfold Addr.add; split <;> simp_all

theorem Bytes.src {w : World} {a : Option Addr} {zs : List Int} (hb : Bytes w a zs) (h0 : 0 < (zs.map (Value.int .u8)).length) :
    ∃ ad, a = some ad ∧ ∀ (j : Nat) v, (zs.map (Value.int .u8))[j]? = some v → w.cell? (ad.add j) = some v := by
  simp only [List.length_map] at h0
  obtain ⟨b, off, rfl, _⟩ := hb 0 h0
  refine ⟨_, rfl, fun j v hv => ?_⟩
  have hj : j < zs.length := by
    have := (List.getElem?_eq_some_iff.1 hv).1
    simpa using this
  obtain ⟨b', off', e, hc⟩ := hb j hj
  cases e
  rw [addr_add, hc]
  simp [List.getElem?_eq_getElem hj] at hv ⊢
  exact hv

theorem kept_grown {w w' : World} (h : w.grownBy w' none) : Kept No w w' := (Kept.refl No w).grown h (fun _ e => by cases e)

theorem lend_made {w1 : World} {B n : Nat} (h : w1.ownsRow B 5 1 (.slice (some ⟨B, 0, none⟩) n n) n (madeCells (Value.int .u8 0).cells (n * 1)).toList) :
    w1.heap[B]? = some (.cells ((List.replicate n (0 : Int)).map (Value.int .u8)).toArray 5 (0, 0)) := by
  rw [made_bytes] at h
  exact (Blk.of_owns h).1

theorem u8_one (zs : List Int) : ∀ v ∈ zs.map (Value.int .u8), v.oneCell' = true := by
  intro v hv
  obtain ⟨z, _, rfl⟩ := List.mem_map.1 hv
  rfl

end Go.Proofs.YtgdnofacgfjaeabGreat
