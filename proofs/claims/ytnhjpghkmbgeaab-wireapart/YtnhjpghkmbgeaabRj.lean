import Derived.Test.YtnhjpghkmbgeaabRi
namespace Go.Proofs.Ytnhjpghkmbgeaab
open Go.RowKit
set_option linter.unusedVariables false

set_option maxHeartbeats 1000000 in
theorem read_1 (g lb : Nat) (st : RS) (w : World) (h : Rs w g lb st) (hlb : lb < w.heap.size) :
    Calls Try.prog 19 #[.pointer (some ⟨g, 0, none⟩), .int .i64 1] w (ReadPost w g lb st 1) := by
  have HR : Hid (Rs w g lb st) := h
  have hg := h.lt
  clear h
  go_enter Try.func19, Try.ntmps19
  go_wp2_with fail
  refine (Num_all g lb st _ (HR.out.no (((Kept.refl _ _).alloc _).alloc _))).mono ?_
  rintro e w1 ⟨rfl, hr, hk⟩
  obtain ⟨hA, hB⟩ := read_blocks hg hk
  have cA0 : w1.cell? ⟨w.heap.size, 0, none⟩ = some (.int .i64 0) := by rw [cell_of_row w1 _ 0 _ 42 (0, 0) hA]; rfl
  have cA1 : w1.cell? ⟨w.heap.size, 1, none⟩ = some (.int .i64 0) := by rw [cell_of_row w1 _ 1 _ 42 (0, 0) hA]; rfl
  have cA2 : w1.cell? ⟨w.heap.size, 2, none⟩ = some (.slice none 0 0) := by rw [cell_of_row w1 _ 2 _ 42 (0, 0) hA]; rfl
  have cB0 : w1.cell? ⟨w.heap.size + 1, 0, none⟩ = some (.int .i64 1) := by rw [cell_of_row w1 _ 0 _ 42 (0, 0) hB]; rfl
  have cB1 : w1.cell? ⟨w.heap.size + 1, 1, none⟩ = some (.int .i64 0) := by rw [cell_of_row w1 _ 1 _ 42 (0, 0) hB]; rfl
  have cB2 : w1.cell? ⟨w.heap.size + 1, 2, none⟩ = some (.slice none 0 0) := by rw [cell_of_row w1 _ 2 _ 42 (0, 0) hB]; rfl
  have fA0 := frozen_of_row w1 _ 0 _ 42 hA
  have fA1 := frozen_of_row w1 _ 1 _ 42 hA
  have fA2 := frozen_of_row w1 _ 2 _ 42 hA
  have fB0 := frozen_of_row w1 _ 0 _ 42 hB
  have fB1 := frozen_of_row w1 _ 1 _ 42 hB
  have fB2 := frozen_of_row w1 _ 2 _ 42 hB
  have HR1 : Hid (Rs w1 g lb (numS st).1) := hr
  have HK1 : Hid (Kept (Only g) w w1) := (((Kept.refl No w).alloc _).alloc _).of_no.then hk
  have HE : Hid (readS st 1 = ((numS st).1, (numS st).2, [])) := by simp [Hid, readS]
  clear hA hB hr hk
  generalize (numS st).2 = V at HE
  go_wp2
  exact bodyPost_ret (v := .agg #[.int .i64 1, .int .i64 V, .slice none 0 0]) (by simp [results, Try.results19, go_sem, cA0, cA1, cA2]) rfl (read_end hg hlb HK1.out HR1.out (Sl.nilS _) (fun i h => absurd h At.none) (((((Kept.refl (Fresh2 w.heap.size) w1).setCell (p := ⟨w.heap.size + 1, 1, none⟩) (fun _ => .inr rfl) _).setCell (p := ⟨w.heap.size, 0, none⟩) (fun _ => .inl rfl) _).setCell (p := ⟨w.heap.size, 1, none⟩) (fun _ => .inl rfl) _).setCell (p := ⟨w.heap.size, 2, none⟩) (fun _ => .inl rfl) _) HE.out)

set_option maxHeartbeats 1000000 in
theorem read_2 (g lb : Nat) (st : RS) (w : World) (h : Rs w g lb st) (hlb : lb < w.heap.size) :
    Calls Try.prog 19 #[.pointer (some ⟨g, 0, none⟩), .int .i64 2] w (ReadPost w g lb st 2) := by
  have HR : Hid (Rs w g lb st) := h
  have hg := h.lt
  clear h
  go_enter Try.func19, Try.ntmps19
  go_wp2_with fail
  refine (Int_all g lb st _ (HR.out.no (((Kept.refl _ _).alloc _).alloc _))).mono ?_
  rintro e w1 ⟨rfl, hr, hk⟩
  obtain ⟨hA, hB⟩ := read_blocks hg hk
  have cA0 : w1.cell? ⟨w.heap.size, 0, none⟩ = some (.int .i64 0) := by rw [cell_of_row w1 _ 0 _ 42 (0, 0) hA]; rfl
  have cA1 : w1.cell? ⟨w.heap.size, 1, none⟩ = some (.int .i64 0) := by rw [cell_of_row w1 _ 1 _ 42 (0, 0) hA]; rfl
  have cA2 : w1.cell? ⟨w.heap.size, 2, none⟩ = some (.slice none 0 0) := by rw [cell_of_row w1 _ 2 _ 42 (0, 0) hA]; rfl
  have cB0 : w1.cell? ⟨w.heap.size + 1, 0, none⟩ = some (.int .i64 2) := by rw [cell_of_row w1 _ 0 _ 42 (0, 0) hB]; rfl
  have cB1 : w1.cell? ⟨w.heap.size + 1, 1, none⟩ = some (.int .i64 0) := by rw [cell_of_row w1 _ 1 _ 42 (0, 0) hB]; rfl
  have cB2 : w1.cell? ⟨w.heap.size + 1, 2, none⟩ = some (.slice none 0 0) := by rw [cell_of_row w1 _ 2 _ 42 (0, 0) hB]; rfl
  have fA0 := frozen_of_row w1 _ 0 _ 42 hA
  have fA1 := frozen_of_row w1 _ 1 _ 42 hA
  have fA2 := frozen_of_row w1 _ 2 _ 42 hA
  have fB0 := frozen_of_row w1 _ 0 _ 42 hB
  have fB1 := frozen_of_row w1 _ 1 _ 42 hB
  have fB2 := frozen_of_row w1 _ 2 _ 42 hB
  have HR1 : Hid (Rs w1 g lb (intS st).1) := hr
  have HK1 : Hid (Kept (Only g) w w1) := (((Kept.refl No w).alloc _).alloc _).of_no.then hk
  have HE : Hid (readS st 2 = ((intS st).1, (intS st).2, [])) := by simp [Hid, readS]
  clear hA hB hr hk
  generalize (intS st).2 = V at HE
  go_wp2
  exact bodyPost_ret (v := .agg #[.int .i64 2, .int .i64 V, .slice none 0 0]) (by simp [results, Try.results19, go_sem, cA0, cA1, cA2]) rfl (read_end hg hlb HK1.out HR1.out (Sl.nilS _) (fun i h => absurd h At.none) (((((Kept.refl (Fresh2 w.heap.size) w1).setCell (p := ⟨w.heap.size + 1, 1, none⟩) (fun _ => .inr rfl) _).setCell (p := ⟨w.heap.size, 0, none⟩) (fun _ => .inl rfl) _).setCell (p := ⟨w.heap.size, 1, none⟩) (fun _ => .inl rfl) _).setCell (p := ⟨w.heap.size, 2, none⟩) (fun _ => .inl rfl) _) HE.out)

set_option maxHeartbeats 1000000 in
theorem read_3 (g lb : Nat) (st : RS) (w : World) (h : Rs w g lb st) (hlb : lb < w.heap.size) :
    Calls Try.prog 19 #[.pointer (some ⟨g, 0, none⟩), .int .i64 3] w (ReadPost w g lb st 3) := by
  have HR : Hid (Rs w g lb st) := h
  have hg := h.lt
  have HU : Hid (U8 (bytesS st).2 ∧ (bytesS st).2.length ≤ 140737488351232) := bytesS_ok h
  clear h
  go_enter Try.func19, Try.ntmps19
  go_wp2_with fail
  refine (Bytes_all g lb st _ (HR.out.no (((Kept.refl _ _).alloc _).alloc _))).mono ?_
  rintro e w1 ⟨a1, n1, c1, rfl, hn1, hO1, hr, hk⟩
  obtain ⟨hA, hB⟩ := read_blocks hg hk
  have cA0 : w1.cell? ⟨w.heap.size, 0, none⟩ = some (.int .i64 0) := by rw [cell_of_row w1 _ 0 _ 42 (0, 0) hA]; rfl
  have cA1 : w1.cell? ⟨w.heap.size, 1, none⟩ = some (.int .i64 0) := by rw [cell_of_row w1 _ 1 _ 42 (0, 0) hA]; rfl
  have cA2 : w1.cell? ⟨w.heap.size, 2, none⟩ = some (.slice none 0 0) := by rw [cell_of_row w1 _ 2 _ 42 (0, 0) hA]; rfl
  have cB0 : w1.cell? ⟨w.heap.size + 1, 0, none⟩ = some (.int .i64 3) := by rw [cell_of_row w1 _ 0 _ 42 (0, 0) hB]; rfl
  have cB1 : w1.cell? ⟨w.heap.size + 1, 1, none⟩ = some (.int .i64 0) := by rw [cell_of_row w1 _ 1 _ 42 (0, 0) hB]; rfl
  have cB2 : w1.cell? ⟨w.heap.size + 1, 2, none⟩ = some (.slice none 0 0) := by rw [cell_of_row w1 _ 2 _ 42 (0, 0) hB]; rfl
  have fA0 := frozen_of_row w1 _ 0 _ 42 hA
  have fA1 := frozen_of_row w1 _ 1 _ 42 hA
  have fA2 := frozen_of_row w1 _ 2 _ 42 hA
  have fB0 := frozen_of_row w1 _ 0 _ 42 hB
  have fB1 := frozen_of_row w1 _ 1 _ 42 hB
  have fB2 := frozen_of_row w1 _ 2 _ 42 hB
  have HR1 : Hid (Rs w1 g lb (bytesS st).1) := hr
  have HK1 : Hid (Kept (Only g) w w1) := (((Kept.refl No w).alloc _).alloc _).of_no.then hk
  have HE : Hid (readS st 3 = ((bytesS st).1, 0, (bytesS st).2)) := by simp [Hid, readS]
  have HS1 : Hid (Sl w1 a1 n1 c1 (bytesS st).2) := hO1.sl hn1.symm HU.out.1 (by rw [hn1]; exact HU.out.2)
  have HB1 : Hid (∀ i, At a1 i → w.heap.size + 2 ≤ i) := fun i hi => by have := hO1.base hi; simp at this; omega
  clear hA hB hr hk hO1 hn1
  go_wp2
  exact bodyPost_ret (v := .agg #[.int .i64 3, .int .i64 0, .slice a1 n1 c1]) (by simp [results, Try.results19, go_sem, cA0, cA1, cA2]) rfl (read_end hg hlb HK1.out HR1.out HS1.out HB1.out (((((Kept.refl (Fresh2 w.heap.size) w1).setCell (p := ⟨w.heap.size + 1, 2, none⟩) (fun _ => .inr rfl) _).setCell (p := ⟨w.heap.size, 0, none⟩) (fun _ => .inl rfl) _).setCell (p := ⟨w.heap.size, 1, none⟩) (fun _ => .inl rfl) _).setCell (p := ⟨w.heap.size, 2, none⟩) (fun _ => .inl rfl) _) HE.out)

set_option maxHeartbeats 1000000 in
theorem read_4 (g lb : Nat) (st : RS) (w : World) (h : Rs w g lb st) (hlb : lb < w.heap.size) :
    Calls Try.prog 19 #[.pointer (some ⟨g, 0, none⟩), .int .i64 4] w (ReadPost w g lb st 4) := by
  have HR : Hid (Rs w g lb st) := h
  have hg := h.lt
  have HU : Hid (U8 (bytesS st).2 ∧ (bytesS st).2.length ≤ 140737488351232) := bytesS_ok h
  clear h
  go_enter Try.func19, Try.ntmps19
  go_wp2_with fail
  refine (Text_all g lb st _ (HR.out.no (((Kept.refl _ _).alloc _).alloc _))).mono ?_
  rintro e w0 ⟨rfl, hr, hk⟩
  obtain ⟨c1, w1, hcv, hs1, hkc⟩ := run_bytes2 w0 (strOf (bytesS st).2) (by rw [strOf_size]; exact HU.out.2)
  rw [numsOf_strOf HU.out.1] at hs1
  obtain ⟨hA, hB⟩ := read_blocks hg (hk.then hkc.of_no)
  have cA0 : w1.cell? ⟨w.heap.size, 0, none⟩ = some (.int .i64 0) := by rw [cell_of_row w1 _ 0 _ 42 (0, 0) hA]; rfl
  have cA1 : w1.cell? ⟨w.heap.size, 1, none⟩ = some (.int .i64 0) := by rw [cell_of_row w1 _ 1 _ 42 (0, 0) hA]; rfl
  have cA2 : w1.cell? ⟨w.heap.size, 2, none⟩ = some (.slice none 0 0) := by rw [cell_of_row w1 _ 2 _ 42 (0, 0) hA]; rfl
  have cB0 : w1.cell? ⟨w.heap.size + 1, 0, none⟩ = some (.int .i64 4) := by rw [cell_of_row w1 _ 0 _ 42 (0, 0) hB]; rfl
  have cB1 : w1.cell? ⟨w.heap.size + 1, 1, none⟩ = some (.int .i64 0) := by rw [cell_of_row w1 _ 1 _ 42 (0, 0) hB]; rfl
  have cB2 : w1.cell? ⟨w.heap.size + 1, 2, none⟩ = some (.slice none 0 0) := by rw [cell_of_row w1 _ 2 _ 42 (0, 0) hB]; rfl
  have fA0 := frozen_of_row w1 _ 0 _ 42 hA
  have fA1 := frozen_of_row w1 _ 1 _ 42 hA
  have fA2 := frozen_of_row w1 _ 2 _ 42 hA
  have fB0 := frozen_of_row w1 _ 0 _ 42 hB
  have fB1 := frozen_of_row w1 _ 1 _ 42 hB
  have fB2 := frozen_of_row w1 _ 2 _ 42 hB
  have HR1 : Hid (Rs w1 g lb (bytesS st).1) := hr.no hkc
  have HK1 : Hid (Kept (Only g) w w1) := (((Kept.refl No w).alloc _).alloc _).of_no.then (hk.then hkc.of_no)
  have HE : Hid (readS st 4 = ((bytesS st).1, 0, (bytesS st).2)) := by simp [Hid, readS]
  have HS1 : Hid (Sl w1 (some ⟨w0.heap.size, 0, none⟩) (strOf (bytesS st).2).size c1 (bytesS st).2) := hs1
  have HB1 : Hid (∀ i, At (some ⟨w0.heap.size, 0, none⟩) i → w.heap.size + 2 ≤ i) := fun i hi => by have h1 := at_some hi; have h2 := hk.size; simp at h2; omega
  clear hA hB hr hk hs1 hkc
  generalize strOf (bytesS st).2 = S at hcv HS1
  go_wp2
  exact bodyPost_ret (v := .agg #[.int .i64 4, .int .i64 0, .slice (some ⟨w0.heap.size, 0, none⟩) S.size c1]) (by simp [results, Try.results19, go_sem, cA0, cA1, cA2]) rfl (read_end hg hlb HK1.out HR1.out HS1.out HB1.out (((((Kept.refl (Fresh2 w.heap.size) w1).setCell (p := ⟨w.heap.size + 1, 2, none⟩) (fun _ => .inr rfl) _).setCell (p := ⟨w.heap.size, 0, none⟩) (fun _ => .inl rfl) _).setCell (p := ⟨w.heap.size, 1, none⟩) (fun _ => .inl rfl) _).setCell (p := ⟨w.heap.size, 2, none⟩) (fun _ => .inl rfl) _) HE.out)

theorem read_all (g lb : Nat) (st : RS) (k : Int) (w : World) (h : Rs w g lb st) (hlb : lb < w.heap.size) (hk : 1 ≤ k ∧ k ≤ 4) :
    Calls Try.prog 19 #[.pointer (some ⟨g, 0, none⟩), .int .i64 k] w (ReadPost w g lb st k) := by
  have hc : k = 1 ∨ k = 2 ∨ k = 3 ∨ k = 4 := by omega
  rcases hc with rfl | rfl | rfl | rfl
  · exact read_1 g lb st w h hlb
  · exact read_2 g lb st w h hlb
  · exact read_3 g lb st w h hlb
  · exact read_4 g lb st w h hlb

end Go.Proofs.Ytnhjpghkmbgeaab
