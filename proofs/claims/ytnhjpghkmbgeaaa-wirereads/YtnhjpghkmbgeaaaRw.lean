import Derived.Test.YtnhjpghkmbgeaaaRv
namespace Go.Proofs.Ytnhjpghkmbgeaaa
open Go.RowKit
set_option linter.unusedVariables false

/-- The reference's reader in a state. -/
def Rf (w : World) (g : Nat) (ba : Option Addr) (bc : Nat) (bs : List Int) : RS → Prop
  | .ok zs at_ => Rr w g ba bc bs at_ 0 0 ∧ zs = bs.drop at_
  | .bad p c => c ≠ 0 ∧ ∃ at_, Rr w g ba bc bs at_ c (p : Int)

theorem Rf.lt {w : World} {g : Nat} {ba : Option Addr} {bc : Nat} {bs : List Int} {st : RS} (h : Rf w g ba bc bs st) : g < w.heap.size := by
  cases st with
  | ok zs at_ => exact h.1.lt
  | bad p c => obtain ⟨_, a, hr⟩ := h; exact hr.lt
theorem Rf.kept {S : Nat → Prop} {w w' : World} {g : Nat} {ba : Option Addr} {bc : Nat} {bs : List Int} {st : RS} (h : Rf w g ba bc bs st) (hk : Kept S w w') (hg : ¬ S g) (hS : 0 < bs.length → ∀ k, At ba k → ¬ S k) : Rf w' g ba bc bs st := by
  cases st with
  | ok zs at_ => exact ⟨h.1.kept hk hg hS, h.2⟩
  | bad p c => obtain ⟨h0, a, hr⟩ := h; exact ⟨h0, a, hr.kept hk hg hS⟩
theorem Rf.no {w w' : World} {g : Nat} {ba : Option Addr} {bc : Nat} {bs : List Int} {st : RS} (h : Rf w g ba bc bs st) (hk : Kept No w w') : Rf w' g ba bc bs st := h.kept hk (fun e => e) (fun _ _ _ e => e)
theorem Rf.at_lt {w : World} {g : Nat} {ba : Option Addr} {bc : Nat} {bs : List Int} {st : RS} (h : Rf w g ba bc bs st) (h0 : 0 < bs.length) {k : Nat} (hk : At ba k) : k < w.heap.size := by
  have hs : Sl w ba bs.length bc bs := by
    cases st with
    | ok zs at_ => exact h.1.sl
    | bad p c => obtain ⟨_, a, hr⟩ := h; exact hr.sl
  obtain ⟨b, off, rfl, hc⟩ := hs.bytes 0 h0
  rw [at_some hk]
  exact World.block_lt_of_cell? w _ hc

/-- What a read leaves. -/
def RefPost (w : World) (g : Nat) (ba : Option Addr) (bc : Nat) (bs : List Int) (st : RS) (k : Int) (e : Ending) (w' : World) : Prop :=
  ∃ a' m' c', e = .returned (.agg #[.int .i64 k, .int .i64 (readS st k).2.1, .slice a' m' c']) ∧ Sl w' a' m' c' (readS st k).2.2 ∧ Rf w' g ba bc bs (readS st k).1 ∧ Kept (Only g) w w'

theorem ref_end {w w1 w2 : World} {g : Nat} {ba : Option Addr} {bc : Nat} {bs : List Int} {st st' : RS} {k n : Int} {a' : Option Addr} {m' c' : Nat} {L : List Int} (hg : g < w.heap.size) (hb : 0 < bs.length → ∀ i, At ba i → i < w.heap.size) (hk : Kept (Only g) w w1) (hr : Rf w1 g ba bc bs st') (hs : Sl w1 a' m' c' L) (ha : ∀ i, At a' i → w.heap.size + 2 ≤ i)
    (h2 : Kept (Fresh2 w.heap.size) w1 w2) (e : readS st k = (st', n, L)) : RefPost w g ba bc bs st k (.returned (.agg #[.int .i64 k, .int .i64 n, .slice a' m' c'])) w2 := by
  refine ⟨a', m', c', by rw [e], ?_, ?_, ?_⟩
  · rw [e]
    exact hs.kept2 h2 (fun _ i hi e => by have := ha i hi; rcases e with e | e <;> omega)
  · rw [e]
    exact hr.kept h2 (fun e => by rcases e with e | e <;> omega) (fun h0 i hi e => by have := hb h0 i hi; rcases e with e | e <;> omega)
  · exact hk.trans h2 (fun _ e => e) (fun i hi e => by rcases e with e | e <;> omega)

theorem ref_good {w w1 wa w2 : World} {g : Nat} {ba : Option Addr} {bc : Nat} {bs : List Int} {st : RS} {at_ j : Nat} {k n v : Int} {a' : Option Addr} {m' c' : Nat} {L : List Int} (hg : g < w.heap.size) (hb : 0 < bs.length → ∀ i, At ba i → i < w.heap.size) (hk : Kept No w w1) (hr : Rr w1 g ba bc bs at_ 0 0) (hj : at_ + j ≤ bs.length) (hs : Sl w1 a' m' c' L) (ha : ∀ i, At a' i → w.heap.size + 2 ≤ i)
    (h1 : Kept (Fresh2 w.heap.size) w1 wa) (hv : v = ((at_ + j : Nat) : Int)) (h2 : Kept (Fresh2 w.heap.size) (wa.setCell ⟨g, 1, none⟩ (.int .i64 v)) w2) (e : readS st k = (.ok (bs.drop (at_ + j)) (at_ + j), n, L)) : RefPost w g ba bc bs st k (.returned (.agg #[.int .i64 k, .int .i64 n, .slice a' m' c'])) w2 := by
  have hgF : ¬ Fresh2 w.heap.size g := fun e => by rcases e with e | e <;> omega
  have hra : Rr wa g ba bc bs at_ 0 0 := hr.kept h1 hgF (fun h0 i hi e => by have := hb h0 i hi; rcases e with e | e <;> omega)
  have hK1 : Kept (Only g) w (wa.setCell ⟨g, 1, none⟩ (.int .i64 v)) := (hk.trans (U := Only g) h1 (fun _ e => e.elim) (fun i hi e => by rcases e with e | e <;> omega)).setCell (p := ⟨g, 1, none⟩) (fun _ => (rfl : g = g)) _
  have hKg : Kept (Only g) wa (wa.setCell ⟨g, 1, none⟩ (.int .i64 v)) := (Kept.refl (Only g) _).setCell (p := ⟨g, 1, none⟩) (fun _ => (rfl : g = g)) _
  have hsb : Sl (wa.setCell ⟨g, 1, none⟩ (.int .i64 v)) a' m' c' L := (hs.kept2 h1 (fun _ i hi e => by have := ha i hi; rcases e with e | e <;> omega)).kept2 hKg (fun _ i hi e => by have := ha i hi; have e' : i = g := e; omega)
  have hrb : Rr (wa.setCell ⟨g, 1, none⟩ (.int .i64 v)) g ba bc bs (at_ + j) 0 0 := by
    refine ⟨?_, hra.sl.kept2 hKg (fun h0 k hk e => hra.ne h0 hk e), hj⟩
    rw [heap_setCell_same _ g 1 _ 62 (.int .i64 v) hra.cell, hv]; rfl
  exact ref_end hg hb hK1 (st' := .ok (bs.drop (at_ + j)) (at_ + j)) ⟨hrb, rfl⟩ hsb ha h2 e

set_option maxRecDepth 100000 in
set_option maxHeartbeats 2000000 in
theorem ref_bad (g : Nat) (ba : Option Addr) (bc : Nat) (bs : List Int) (p : Nat) (c k : Int) (w : World) (h : Rf w g ba bc bs (.bad p c)) :
    Calls Try.prog 35 #[.pointer (some ⟨g, 0, none⟩), .int .i64 k] w (RefPost w g ba bc bs (.bad p c) k) := by
  have HF : Hid (Rf w g ba bc bs (.bad p c)) := h
  obtain ⟨h0, at_, hr⟩ := h
  have q0 : (c == 0) = false := by simpa using h0
  have c2 : w.cell? ⟨g, 2, none⟩ = some (.int .i64 c) := by rw [cell_of_row w g 2 _ 62 (0, 0) hr.cell]; rfl
  have hg := hr.lt
  have HE : Hid (readS (.bad p c) k = (.bad p c, 0, [])) := by simp [Hid, readS, numS, intS, bytesS]
  clear h0 hr
  go_enter Try.func35, Try.ntmps35
  go_wp2
  refine bodyPost_ret (v := .agg #[.int .i64 k, .int .i64 0, .slice none 0 0]) (by simp [results, Try.results35, go_sem]) rfl ⟨none, 0, 0, by rw [HE.out], by rw [HE.out]; exact Sl.nilS _, by rw [HE.out]; exact HF.out.no (((Kept.refl _ _).alloc _).alloc _), ((Kept.refl _ _).alloc _).alloc _⟩

set_option maxRecDepth 100000 in
set_option maxHeartbeats 2000000 in
theorem ref_1 (g : Nat) (ba : Option Addr) (bc : Nat) (bs : List Int) (zs : List Int) (at_ : Nat) (w : World) (h : Rf w g ba bc bs (.ok zs at_)) :
    Calls Try.prog 35 #[.pointer (some ⟨g, 0, none⟩), .int .i64 1] w (RefPost w g ba bc bs (.ok zs at_) 1) := by
  have HR : Hid (Rr w g ba bc bs at_ 0 0) := h.1
  have HZ : Hid (zs = bs.drop at_) := h.2
  have HL : Hid (0 < bs.length → ∀ i, At ba i → i < w.heap.size) := fun h0 i hi => h.at_lt h0 hi
  have c2 : w.cell? ⟨g, 2, none⟩ = some (.int .i64 0) := by rw [cell_of_row w g 2 _ 62 (0, 0) h.1.cell]; rfl
  have hbd := h.1.sl.bd
  have hg := h.lt
  clear h
  go_enter Try.func35, Try.ntmps35
  go_wp2_with fail
  refine (refvar_any g ba bc bs at_ 0 0 false _ (HR.out.no (((Kept.refl _ _).alloc _).alloc _))).mono ?_
  intro e w1 hpost
  rw [rv_false, ← HZ.out] at hpost
  cases hv : nr zs with
  | error c =>
    rw [hv] at hpost
    obtain ⟨rfl, hr, hk⟩ := hpost
    obtain ⟨hA, hB⟩ := read_blocks hg hk
    have cA0 : w1.cell? ⟨w.heap.size, 0, none⟩ = some (.int .i64 0) := by rw [cell_of_row w1 _ 0 _ 27 (0, 0) hA]; rfl
    have cA1 : w1.cell? ⟨w.heap.size, 1, none⟩ = some (.int .i64 0) := by rw [cell_of_row w1 _ 1 _ 27 (0, 0) hA]; rfl
    have cA2 : w1.cell? ⟨w.heap.size, 2, none⟩ = some (.slice none 0 0) := by rw [cell_of_row w1 _ 2 _ 27 (0, 0) hA]; rfl
    have cB0 : w1.cell? ⟨w.heap.size + 1, 0, none⟩ = some (.int .i64 1) := by rw [cell_of_row w1 _ 0 _ 27 (0, 0) hB]; rfl
    have cB1 : w1.cell? ⟨w.heap.size + 1, 1, none⟩ = some (.int .i64 0) := by rw [cell_of_row w1 _ 1 _ 27 (0, 0) hB]; rfl
    have cB2 : w1.cell? ⟨w.heap.size + 1, 2, none⟩ = some (.slice none 0 0) := by rw [cell_of_row w1 _ 2 _ 27 (0, 0) hB]; rfl
    have fA0 := frozen_of_row w1 _ 0 _ 27 hA
    have fA1 := frozen_of_row w1 _ 1 _ 27 hA
    have fA2 := frozen_of_row w1 _ 2 _ 27 hA
    have fB0 := frozen_of_row w1 _ 0 _ 27 hB
    have fB1 := frozen_of_row w1 _ 1 _ 27 hB
    have fB2 := frozen_of_row w1 _ 2 _ 27 hB
    have HF : Hid (Rf w1 g ba bc bs (.bad at_ c)) := ⟨by have := nr_code hv; omega, at_, hr⟩
    have HK1 : Hid (Kept (Only g) w w1) := (((Kept.refl No w).alloc _).alloc _).of_no.then hk
    have HE : Hid (readS (.ok zs at_) 1 = (.bad at_ c, 0, [])) := by simp [Hid, readS, numS, hv]
    clear hA hB hr hk hv
    go_wp2
    exact bodyPost_ret (v := .agg #[.int .i64 1, .int .i64 0, .slice none 0 0]) (by simp [results, Try.results35, go_sem, cA0, cA1, cA2]) rfl (ref_end hg HL.out HK1.out HF.out (Sl.nilS _) (fun i h => absurd h At.none) ((((Kept.refl (Fresh2 w.heap.size) w1).setCell (p := ⟨w.heap.size, 0, none⟩) (fun _ => .inl rfl) _).setCell (p := ⟨w.heap.size, 1, none⟩) (fun _ => .inl rfl) _).setCell (p := ⟨w.heap.size, 2, none⟩) (fun _ => .inl rfl) _) HE.out)
  | ok x =>
    obtain ⟨u, j⟩ := x
    rw [hv] at hpost
    obtain ⟨rfl, n, hw⟩ := hpost
    have hk : Kept No ((w.alloc (Obj.cells #[.int .i64 0, .int .i64 0, .slice none 0 0] 27)).alloc (Obj.cells #[.int .i64 1, .int .i64 0, .slice none 0 0] 27)) w1 := by rw [hw]; exact (Kept.refl _ _).drewN n
    clear hw
    obtain ⟨hA, hB⟩ := read_blocks hg (hk.of_no (S := Only g))
    have cA0 : w1.cell? ⟨w.heap.size, 0, none⟩ = some (.int .i64 0) := by rw [cell_of_row w1 _ 0 _ 27 (0, 0) hA]; rfl
    have cA1 : w1.cell? ⟨w.heap.size, 1, none⟩ = some (.int .i64 0) := by rw [cell_of_row w1 _ 1 _ 27 (0, 0) hA]; rfl
    have cA2 : w1.cell? ⟨w.heap.size, 2, none⟩ = some (.slice none 0 0) := by rw [cell_of_row w1 _ 2 _ 27 (0, 0) hA]; rfl
    have cB0 : w1.cell? ⟨w.heap.size + 1, 0, none⟩ = some (.int .i64 1) := by rw [cell_of_row w1 _ 0 _ 27 (0, 0) hB]; rfl
    have cB1 : w1.cell? ⟨w.heap.size + 1, 1, none⟩ = some (.int .i64 0) := by rw [cell_of_row w1 _ 1 _ 27 (0, 0) hB]; rfl
    have cB2 : w1.cell? ⟨w.heap.size + 1, 2, none⟩ = some (.slice none 0 0) := by rw [cell_of_row w1 _ 2 _ 27 (0, 0) hB]; rfl
    have fA0 := frozen_of_row w1 _ 0 _ 27 hA
    have fA1 := frozen_of_row w1 _ 1 _ 27 hA
    have fA2 := frozen_of_row w1 _ 2 _ 27 hA
    have fB0 := frozen_of_row w1 _ 0 _ 27 hB
    have fB1 := frozen_of_row w1 _ 1 _ 27 hB
    have fB2 := frozen_of_row w1 _ 2 _ 27 hB
    have hr : Rr w1 g ba bc bs at_ 0 0 := HR.out.no ((((Kept.refl No w).alloc _).alloc _).then hk)
    have d1 : w1.cell? ⟨g, 1, none⟩ = some (.int .i64 (at_ : Int)) := by rw [cell_of_row w1 g 1 _ 62 (0, 0) hr.cell]; rfl
    have f1 := frozen_of_row w1 g 1 _ 62 hr.cell
    have HR1 : Hid (Rr w1 g ba bc bs at_ 0 0) := hr
    have HK1 : Hid (Kept No w w1) := (((Kept.refl No w).alloc _).alloc _).then hk
    have HE : Hid (readS (.ok zs at_) 1 = (.ok (bs.drop (at_ + j)) (at_ + j), (u : Int), [])) := by rw [Hid, readS]; simp only [numS, hv]; rw [HZ.out, List.drop_drop]; rfl
    obtain ⟨hu, hj1, hj2, hj3, _⟩ := nr_bd hv
    have HJ : Hid (at_ + j ≤ bs.length) := by have h1 := HR1.out.le; rw [HZ.out, List.length_drop] at hj3; unfold Hid; omega
    have hJ : (at_ : Int) + (j : Int) ≤ 140737488351232 := by have := HJ.out; omega
    have hj0 : ((j : Int) == 0) = false := by simp; omega
    have hu' : (u : Int) ≤ 9223372036854775807 := by omega
    clear hj1 hj2 hj3 hu
    clear hA hB hr hk hv
    go_wp2
    exact bodyPost_ret (v := .agg #[.int .i64 1, .int .i64 (u : Int), .slice none 0 0]) (by simp [results, Try.results35, go_sem, cA0, cA1, cA2]) rfl (ref_good hg HL.out HK1.out HR1.out HJ.out (Sl.nilS _) (fun i h => absurd h At.none) ((Kept.refl (Fresh2 w.heap.size) w1).setCell (p := ⟨w.heap.size + 1, 1, none⟩) (fun _ => .inr rfl) _) (by omega) ((((Kept.refl (Fresh2 w.heap.size) _).setCell (p := ⟨w.heap.size, 0, none⟩) (fun _ => .inl rfl) _).setCell (p := ⟨w.heap.size, 1, none⟩) (fun _ => .inl rfl) _).setCell (p := ⟨w.heap.size, 2, none⟩) (fun _ => .inl rfl) _) HE.out)

end Go.Proofs.Ytnhjpghkmbgeaaa
