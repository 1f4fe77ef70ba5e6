import Derived.Test.YtnhjpghkmbgeaaaRw
namespace Go.Proofs.Ytnhjpghkmbgeaaa
open Go.RowKit
set_option linter.unusedVariables false

theorem and1 (u : Nat) (h : W64 u) : bits .and .u64 (u : Int) 1 = (u : Int) % 2 := by
  unfold W64 at h
  exact bits_mask .u64 64 (by decide) (fun n a b => by simp [IntKind.wrap, IntKind.bits, IntKind.signed]; omega) 1 (by decide) (u : Int) (by omega) (by omega)

set_option maxRecDepth 100000 in
set_option maxHeartbeats 2000000 in
theorem ref_2 (g : Nat) (ba : Option Addr) (bc : Nat) (bs : List Int) (zs : List Int) (at_ : Nat) (w : World) (h : Rf w g ba bc bs (.ok zs at_)) :
    Calls Try.prog 35 #[.pointer (some ⟨g, 0, none⟩), .int .i64 2] w (RefPost w g ba bc bs (.ok zs at_) 2) := by
  have HR : Hid (Rr w g ba bc bs at_ 0 0) := h.1
  have HZ : Hid (zs = bs.drop at_) := h.2
  have HL : Hid (0 < bs.length → ∀ i, At ba i → i < w.heap.size) := fun h0 i hi => h.at_lt h0 hi
  have c2 : w.cell? ⟨g, 2, none⟩ = some (.int .i64 0) := by rw [cell_of_row w g 2 _ 62 (0, 0) h.1.cell]; rfl
  have hbd := h.1.sl.bd
  have hg := h.lt
  clear h
  go_enter Try.func35, Try.ntmps35
  go_wp2_with fail
  refine (refvar_any g ba bc bs at_ 0 0 true _ (HR.out.no (((Kept.refl _ _).alloc _).alloc _))).mono ?_
  intro e w1 hpost
  rw [rv_true, ← HZ.out] at hpost
  cases hv : vr zs with
  | error c =>
    rw [hv] at hpost
    obtain ⟨rfl, hr, hk⟩ := hpost
    obtain ⟨hA, hB⟩ := read_blocks hg hk
    have cA0 : w1.cell? ⟨w.heap.size, 0, none⟩ = some (.int .i64 0) := by rw [cell_of_row w1 _ 0 _ 27 (0, 0) hA]; rfl
    have cA1 : w1.cell? ⟨w.heap.size, 1, none⟩ = some (.int .i64 0) := by rw [cell_of_row w1 _ 1 _ 27 (0, 0) hA]; rfl
    have cA2 : w1.cell? ⟨w.heap.size, 2, none⟩ = some (.slice none 0 0) := by rw [cell_of_row w1 _ 2 _ 27 (0, 0) hA]; rfl
    have cB0 : w1.cell? ⟨w.heap.size + 1, 0, none⟩ = some (.int .i64 2) := by rw [cell_of_row w1 _ 0 _ 27 (0, 0) hB]; rfl
    have cB1 : w1.cell? ⟨w.heap.size + 1, 1, none⟩ = some (.int .i64 0) := by rw [cell_of_row w1 _ 1 _ 27 (0, 0) hB]; rfl
    have cB2 : w1.cell? ⟨w.heap.size + 1, 2, none⟩ = some (.slice none 0 0) := by rw [cell_of_row w1 _ 2 _ 27 (0, 0) hB]; rfl
    have fA0 := frozen_of_row w1 _ 0 _ 27 hA
    have fA1 := frozen_of_row w1 _ 1 _ 27 hA
    have fA2 := frozen_of_row w1 _ 2 _ 27 hA
    have fB0 := frozen_of_row w1 _ 0 _ 27 hB
    have fB1 := frozen_of_row w1 _ 1 _ 27 hB
    have fB2 := frozen_of_row w1 _ 2 _ 27 hB
    have HF : Hid (Rf w1 g ba bc bs (.bad at_ c)) := ⟨by have := vr_code hv; omega, at_, hr⟩
    have HK1 : Hid (Kept (Only g) w w1) := (((Kept.refl No w).alloc _).alloc _).of_no.then hk
    have HE : Hid (readS (.ok zs at_) 2 = (.bad at_ c, 0, [])) := by simp [Hid, readS, intS, hv]
    clear hA hB hr hk hv
    go_wp2
    exact bodyPost_ret (v := .agg #[.int .i64 2, .int .i64 0, .slice none 0 0]) (by simp [results, Try.results35, go_sem, cA0, cA1, cA2]) rfl (ref_end hg HL.out HK1.out HF.out (Sl.nilS _) (fun i h => absurd h At.none) ((((Kept.refl (Fresh2 w.heap.size) w1).setCell (p := ⟨w.heap.size, 0, none⟩) (fun _ => .inl rfl) _).setCell (p := ⟨w.heap.size, 1, none⟩) (fun _ => .inl rfl) _).setCell (p := ⟨w.heap.size, 2, none⟩) (fun _ => .inl rfl) _) HE.out)
  | ok x =>
    obtain ⟨u, j⟩ := x
    rw [hv] at hpost
    obtain ⟨rfl, n, hw⟩ := hpost
    have hk : Kept No ((w.alloc (Obj.cells #[.int .i64 0, .int .i64 0, .slice none 0 0] 27)).alloc (Obj.cells #[.int .i64 2, .int .i64 0, .slice none 0 0] 27)) w1 := by rw [hw]; exact (Kept.refl _ _).drewN n
    clear hw
    obtain ⟨hA, hB⟩ := read_blocks hg (hk.of_no (S := Only g))
    have cA0 : w1.cell? ⟨w.heap.size, 0, none⟩ = some (.int .i64 0) := by rw [cell_of_row w1 _ 0 _ 27 (0, 0) hA]; rfl
    have cA1 : w1.cell? ⟨w.heap.size, 1, none⟩ = some (.int .i64 0) := by rw [cell_of_row w1 _ 1 _ 27 (0, 0) hA]; rfl
    have cA2 : w1.cell? ⟨w.heap.size, 2, none⟩ = some (.slice none 0 0) := by rw [cell_of_row w1 _ 2 _ 27 (0, 0) hA]; rfl
    have cB0 : w1.cell? ⟨w.heap.size + 1, 0, none⟩ = some (.int .i64 2) := by rw [cell_of_row w1 _ 0 _ 27 (0, 0) hB]; rfl
    have cB1 : w1.cell? ⟨w.heap.size + 1, 1, none⟩ = some (.int .i64 0) := by rw [cell_of_row w1 _ 1 _ 27 (0, 0) hB]; rfl
    have cB2 : w1.cell? ⟨w.heap.size + 1, 2, none⟩ = some (.slice none 0 0) := by rw [cell_of_row w1 _ 2 _ 27 (0, 0) hB]; rfl
    have fA0 := frozen_of_row w1 _ 0 _ 27 hA
    have fA1 := frozen_of_row w1 _ 1 _ 27 hA
    have fA2 := frozen_of_row w1 _ 2 _ 27 hA
    have fB0 := frozen_of_row w1 _ 0 _ 27 hB
    have fB1 := frozen_of_row w1 _ 1 _ 27 hB
    have fB2 := frozen_of_row w1 _ 2 _ 27 hB
    have hr : Rr w1 g ba bc bs at_ 0 0 := HR.out.no ((((Kept.refl No w).alloc _).alloc _).then hk)
    have d1 : w1.cell? ⟨g, 1, none⟩ = some (.int .i64 (at_ : Int)) := by rw [cell_of_row w1 g 1 _ 62 (0, 0) hr.cell]; rfl
    have f1 := frozen_of_row w1 g 1 _ 62 hr.cell
    have HR1 : Hid (Rr w1 g ba bc bs at_ 0 0) := hr
    have HK1 : Hid (Kept No w w1) := (((Kept.refl No w).alloc _).alloc _).then hk
    have HE : Hid (readS (.ok zs at_) 2 = (.ok (bs.drop (at_ + j)) (at_ + j), unzz u, [])) := by rw [Hid, readS]; simp only [intS, hv]; rw [HZ.out, List.drop_drop]; rfl
    obtain ⟨hu, hj1, hj2, hj3⟩ := vr_64 hv
    have HJ : Hid (at_ + j ≤ bs.length) := by have h1 := HR1.out.le; rw [HZ.out, List.length_drop] at hj3; unfold Hid; omega
    have hJ : (at_ : Int) + (j : Int) ≤ 140737488351232 := by have := HJ.out; omega
    have hj0 : ((j : Int) == 0) = false := by simp; omega
    have hu' : (u : Int) ≤ 18446744073709551615 := by unfold W64 at hu; omega
    have m1 := and1 u hu
    clear hj1 hj2 hj3 hu
    clear hA hB hr hk hv
    by_cases h2 : u % 2 = 1
    · have e2 : ((u : Int) % 2 == 1) = true := by simp; omega
      have HV : Hid (unzz u = -((u : Int) / 2) - 1) := by rw [Hid, unzz, if_pos h2]; omega
      clear h2
      go_wp2
      exact bodyPost_ret (v := .agg #[.int .i64 2, .int .i64 (-((u : Int) / 2) - 1), .slice none 0 0]) (by simp [results, Try.results35, go_sem, cA0, cA1, cA2]) rfl (ref_good hg HL.out HK1.out HR1.out HJ.out (Sl.nilS _) (fun i h => absurd h At.none) (((Kept.refl (Fresh2 w.heap.size) w1).setCell (p := ⟨w.heap.size + 1, 1, none⟩) (fun _ => .inr rfl) _).setCell (p := ⟨w.heap.size + 1, 1, none⟩) (fun _ => .inr rfl) _) (by omega) ((((Kept.refl (Fresh2 w.heap.size) _).setCell (p := ⟨w.heap.size, 0, none⟩) (fun _ => .inl rfl) _).setCell (p := ⟨w.heap.size, 1, none⟩) (fun _ => .inl rfl) _).setCell (p := ⟨w.heap.size, 2, none⟩) (fun _ => .inl rfl) _) (by rw [HE.out, HV.out]))
    · have e2 : ((u : Int) % 2 == 1) = false := by simp; omega
      have HV : Hid (unzz u = (u : Int) / 2) := by rw [Hid, unzz, if_neg h2]; omega
      clear h2
      go_wp2
      exact bodyPost_ret (v := .agg #[.int .i64 2, .int .i64 ((u : Int) / 2), .slice none 0 0]) (by simp [results, Try.results35, go_sem, cA0, cA1, cA2]) rfl (ref_good hg HL.out HK1.out HR1.out HJ.out (Sl.nilS _) (fun i h => absurd h At.none) ((Kept.refl (Fresh2 w.heap.size) w1).setCell (p := ⟨w.heap.size + 1, 1, none⟩) (fun _ => .inr rfl) _) (by omega) ((((Kept.refl (Fresh2 w.heap.size) _).setCell (p := ⟨w.heap.size, 0, none⟩) (fun _ => .inl rfl) _).setCell (p := ⟨w.heap.size, 1, none⟩) (fun _ => .inl rfl) _).setCell (p := ⟨w.heap.size, 2, none⟩) (fun _ => .inl rfl) _) (by rw [HE.out, HV.out]))

end Go.Proofs.Ytnhjpghkmbgeaaa
