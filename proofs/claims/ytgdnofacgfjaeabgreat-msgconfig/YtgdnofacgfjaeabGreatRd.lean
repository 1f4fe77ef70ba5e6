import Derived.Test.YtgdnofacgfjaeabGreatCa
namespace Go.Proofs.YtgdnofacgfjaeabGreat
open Go.RowKit
set_option linter.unusedVariables false

/-- A Reader at block g without a fault: what is left lies at la; where it stands. -/
structure Rd (w : World) (g : Nat) (la : Option Addr) (lc : Nat) (zs : List Int) (at_ : Nat) : Prop where
  cell : w.heap[g]? = some (.cells #[.slice la zs.length lc, .int .i64 (at_ : Int), .int .i64 0, .int .i64 0] 190 (0, 0))
  sl : Sl w la zs.length lc zs
  bd : at_ + zs.length ≤ 140737488355328

theorem Rd.lt {w : World} {g : Nat} {la : Option Addr} {lc : Nat} {zs : List Int} {at_ : Nat} (h : Rd w g la lc zs at_) : g < w.heap.size := (Array.getElem?_eq_some_iff.1 h.cell).1

/-- Bytes do not lie in the Reader itself. -/
theorem Rd.ne {w : World} {g : Nat} {la : Option Addr} {lc : Nat} {zs : List Int} {at_ : Nat} (h : Rd w g la lc zs at_) (h0 : 0 < zs.length) {k : Nat} (hk : At la k) : k ≠ g := by
  rintro rfl
  obtain ⟨b, off, rfl, hc⟩ := h.sl.bytes 0 h0
  obtain ⟨ad, e, e2⟩ := hk
  cases e
  simp only at e2
  subst e2
  rw [cell_of_row w b (off + 0) _ 190 (0, 0) h.cell] at hc
  match off, hc with
  | 0, hc => simp at hc
  | 1, hc => simp at hc
  | 2, hc => simp at hc
  | 3, hc => simp at hc
  | n + 4, hc => simp at hc

theorem Rd.no {w w' : World} {g : Nat} {la : Option Addr} {lc : Nat} {zs : List Int} {at_ : Nat} (h : Rd w g la lc zs at_) (hk : Kept No w w') : Rd w' g la lc zs at_ :=
  ⟨(hk.block g h.lt (fun e => e)).trans h.cell, h.sl.no hk, h.bd⟩

theorem Sl.kept2 {S : Nat → Prop} {w w' : World} {a : Option Addr} {m cap : Nat} {zs : List Int} (h : Sl w a m cap zs) (hk : Kept S w w') (hS : 0 < zs.length → ∀ k, At a k → ¬ S k) : Sl w' a m cap zs :=
  ⟨h.len, h.bytes.kept2 hk hS, h.u8, h.le, h.cm, h.bd, h.nil⟩

/-- What take leaves. -/
theorem take_end {w : World} {g b off lc : Nat} {zs : List Int} {at_ n : Nat} {la' : Option Addr} (h : Rd w g (some ⟨b, off, none⟩) lc zs at_) (hn : n ≤ zs.length)
    (hla : (lc = n ∧ la' = some ⟨b, off, none⟩) ∨ (lc ≠ n ∧ la' = some ⟨b, off + n, none⟩)) {v : Int} (hv : v = ((at_ + n : Nat) : Int)) :
    Rd ((w.setCell ⟨g, 0, none⟩ (.slice la' (zs.length - n) (lc - n))).setCell ⟨g, 1, none⟩ (.int .i64 v)) g la' (lc - n) (zs.drop n) (at_ + n) ∧
    Kept (Only g) w ((w.setCell ⟨g, 0, none⟩ (.slice la' (zs.length - n) (lc - n))).setCell ⟨g, 1, none⟩ (.int .i64 v)) := by
  subst hv
  have hK : Kept (Only g) w ((w.setCell ⟨g, 0, none⟩ (.slice la' (zs.length - n) (lc - n))).setCell ⟨g, 1, none⟩ (.int .i64 ((at_ + n : Nat) : Int))) :=
    ((Kept.refl (Only g) w).setCell (p := ⟨g, 0, none⟩) (fun _ => (rfl : g = g)) _).setCell (p := ⟨g, 1, none⟩) (fun _ => (rfl : g = g)) _
  refine ⟨⟨?_, ?_, ?_⟩, hK⟩
  · have h1 := heap_setCell_same w g 0 _ 190 (.slice la' (zs.length - n) (lc - n)) h.cell
    have h2 := heap_setCell_same _ g 1 _ 190 (.int .i64 ((at_ + n : Nat) : Int)) h1
    rw [h2, List.length_drop]; rfl
  · have hs := h.sl
    have hcap := hs.le
    have hl : (zs.drop n).length = zs.length - n := List.length_drop
    have hby : Bytes w la' (zs.drop n) := by
      rcases hla with ⟨e1, rfl⟩ | ⟨e1, rfl⟩
      · have : zs.drop n = [] := List.drop_eq_nil_of_le (by omega)
        rw [this]; intro i hi; exact absurd hi (Nat.not_lt_zero _)
      · exact hs.bytes.drop n
    refine ⟨rfl, hby.kept2 hK (fun h0 k hk e => ?_), hs.u8.drop n, by rw [hl]; omega, by have := hs.cm; omega, by rw [hl]; have := hs.bd; omega, fun e => ?_⟩
    · refine h.ne (by omega) (k := k) ?_ e
      rcases hla with ⟨e1, rfl⟩ | ⟨e1, rfl⟩
      · exact hk
      · obtain ⟨ad, e', e2⟩ := hk; cases e'; exact ⟨_, rfl, e2⟩
    · rcases hla with ⟨e1, rfl⟩ | ⟨e1, rfl⟩ <;> cases e
  · have := h.bd; rw [List.length_drop]; omega

set_option maxRecDepth 1000000 in
set_option maxHeartbeats 1000000 in
theorem take_any (g b off lc : Nat) (zs : List Int) (at_ n : Nat) (w : World) (h : Rd w g (some ⟨b, off, none⟩) lc zs at_) (hn : n ≤ zs.length) :
    Calls Tryz.prog 177 #[.pointer (some ⟨g, 0, none⟩), .int .i64 (n : Int)] w fun e w' => e = .returned (.slice (some ⟨b, off, none⟩) n lc) ∧ ∃ b' off' lc', At (some ⟨b, off, none⟩) b' ∧ Rd w' g (some ⟨b', off', none⟩) lc' (zs.drop n) (at_ + n) ∧ Kept (Only g) w w' := by
  have HR : Hid (Rd w g (some ⟨b, off, none⟩) lc zs at_) := h
  have hbd := h.bd
  have hcm := h.sl.cm
  have hle := h.sl.le
  have c0 : w.cell? ⟨g, 0, none⟩ = some (.slice (some ⟨b, off, none⟩) zs.length lc) := by rw [cell_of_row w g 0 _ 190 (0, 0) h.cell]; rfl
  have c1 : w.cell? ⟨g, 1, none⟩ = some (.int .i64 (at_ : Int)) := by rw [cell_of_row w g 1 _ 190 (0, 0) h.cell]; rfl
  have f0 := frozen_of_row w g 0 _ 190 h.cell
  have f1 := frozen_of_row w g 1 _ 190 h.cell
  have q0 : (n : Int) ≤ (lc : Int) := by omega
  have q1 : (n : Int) ≤ (zs.length : Int) := by omega
  clear h
  by_cases hc : lc = n
  · subst hc
    go_enter Tryz.func177, Tryz.ntmps177
    go_wp2
    go_ret
    refine ⟨rfl, b, off, lc - lc, ⟨_, rfl, rfl⟩, ?_⟩
    have e1 : zs.length - lc = 0 := by omega
    have e2 : lc - lc = 0 := by omega
    have := take_end (v := (at_ : Int) + (lc : Int)) HR.out hn (.inl ⟨rfl, rfl⟩) (by omega)
    rw [e1, e2] at this
    rw [e2]
    exact this
  · go_enter Tryz.func177, Tryz.ntmps177
    go_wp2
    go_ret
    refine ⟨rfl, b, off + n, lc - n, ⟨_, rfl, rfl⟩, ?_⟩
    exact take_end HR.out hn (.inr ⟨hc, rfl⟩) (by omega)

end Go.Proofs.YtgdnofacgfjaeabGreat
