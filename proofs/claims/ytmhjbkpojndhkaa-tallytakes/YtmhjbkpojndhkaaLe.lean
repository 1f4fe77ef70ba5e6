import Derived.Test.YtmhjbkpojndhkaaBc
import Derived.Laws.CopyOwn
namespace Go.Proofs.Ytmhjbkpojndhkaa
open Go.RowKit
set_option linter.unusedVariables false
set_option linter.unusedSimpArgs false

theorem made_ints (n : Nat) : madeCells (Value.int .i64 0).cells (n * 1) = ((List.replicate n (0 : Int)).map (Value.int .i64)).toArray := by
  apply Array.ext
  · simp [size_madeCells]
  · intro i h1 h2
    simp [madeCells, Value.cells, Nat.mod_one]

/-- A row with k marks behind it, 67 in all. -/
def lentK (zs : List Int) (k : Nat) : List Int := zs ++ (List.replicate k (-77) ++ List.replicate (67 - k) 0)
def lent (zs : List Int) : List Int := zs ++ List.replicate 67 (-77)
theorem lentK_len (zs : List Int) {k : Nat} (h : k ≤ 67) : (lentK zs k).length = zs.length + 67 := by simp [lentK]; omega
theorem lentK_end (zs : List Int) : lentK zs 67 = lent zs := by simp [lentK, lent]
theorem lentK_set (zs : List Int) {k n : Nat} (hn : zs.length = n) (h : k < 67) : ((lentK zs k).map (Value.int .i64)).toArray.setIfInBounds (n + k) (.int .i64 (-77)) = ((lentK zs (k + 1)).map (Value.int .i64)).toArray := by
  subst hn
  have e : List.replicate (67 - k) (0 : Int) = 0 :: List.replicate (67 - (k + 1)) 0 := by
    rw [show 67 - k = (67 - (k + 1)) + 1 by omega, List.replicate_succ]
  have e2 : List.replicate (k + 1) (-77 : Int) = List.replicate k (-77) ++ [-77] := List.replicate_succ'
  unfold lentK
  rw [e, e2]
  simp [List.set_append]
theorem lentK_0 (zs : List Int) : splice ((List.replicate (zs.length + 67) (0 : Int)).map (Value.int .i64)) 0 (zs.map (Value.int .i64)) = (lentK zs 0).map (Value.int .i64) := by
  simp [splice, lentK]

theorem Try.size3 : (Try.prog.info? 3).map (·.size) = some 1 := by kernel_rfl

def LendOut (w : World) (n : Nat) (zs : List Int) (e : Ending) (w' : World) : Prop :=
  e = .returned (.slice (some ⟨w.heap.size, 0, none⟩) n (n + 67)) ∧ Box w' w.heap.size 3 ((lent zs).map (Value.int .i64)).toArray ∧ Kept No w w'

set_option maxHeartbeats 2000000 in
theorem lend_any (a : Option Addr) (n cap : Nat) (zs : List Int) (w : World) (hz : zs.length = n) (hn : n ≤ 17592186043904) (hb : Nums .i64 w a zs) :
    Calls Try.prog 10 #[.slice a n cap] w (LendOut w n zs) := by
  have HB : Hid (Nums .i64 w a zs) := hb
  have HZ : Hid (zs.length = n) := hz
  clear hb hz
  go_enter Try.func10, Try.ntmps10
  go_wp2_with (first
    | (at_make
       refine wp_makeV rfl _ _ 22 3 rfl (.int .i64 0) 1 8 Try.und22 Try.info3' .i64 .i64 _ _ (n + 67) (n + 67) rfl rfl (by omega) (by omega) (by omega) (by omega) (by omega) ?_
       rw [made_ints]
       obtain ⟨w1, hw1⟩ : ∃ w1, w1 = w.alloc (.cells ((List.replicate (n + 67) (0 : Int)).map (Value.int .i64)).toArray 3) := ⟨_, rfl⟩
       rw [← hw1]
       have HG : Hid (Box w1 w.heap.size 3 ((List.replicate (n + 67) (0 : Int)).map (Value.int .i64)).toArray) := by rw [hw1]; exact Box.new _ _ _
       have HK1 : Hid (Kept No w w1) := by rw [hw1]; exact (Kept.refl No w).alloc _
       have hlt : w.heap.size < w1.heap.size := HG.out.lt
       have HS : Hid (Nums .i64 w1 a zs) := HB.out.no HK1.out
       clear hw1)
    | (refine wpList_copy_splice rfl _ _ 22 22 rfl 3 Try.und22 Try.size3 _ a (n + 67) (n + 67) n cap rfl rfl w.heap.size 0 ((List.replicate (n + 67) (0 : Int)).map (Value.int .i64)) 3 HG.out (zs.map (Value.int .i64)) (by rw [List.length_map, HZ.out]; exact (Nat.min_eq_left (by omega)).symm) (fun h0 => ⟨rfl, HS.out.src h0⟩) (by rw [List.length_map, List.length_map, List.length_replicate, HZ.out]; omega) (num_one .i64 zs) w.heap.size w1 ((Kept.refl No w1).below (by omega) (fun _ e => e.elim)) (Nat.le_refl _) ?_
       intro w2 HG2 hbel
       have HB2 : Hid (Box w2 w.heap.size 3 ((lentK zs 0).map (Value.int .i64)).toArray) := (by have := HG2.out; rw [← HZ.out, lentK_0] at this; exact this)
       have HK2 : Hid (Kept No w w2) := HK1.out.trans (below_kept hbel) (fun _ e => e) (fun i hi e => by omega)
       rw [List.length_map, HZ.out]
       clear HG2 hbel HS HG HK1 hlt))
  go_loopw [4] (fun vi wr => ∃ k : Nat, vi = .int .i64 (n + k) ∧ k ≤ 67 ∧ Hid (Box wr w.heap.size 3 ((lentK zs k).map (Value.int .i64)).toArray) ∧ Hid (Kept No w wr)) (fun i _ => n + 67 - (intOf i).toNat)
  case atStart => exact ⟨0, by go_num, by omega, HB2, HK2⟩
  case round =>
    obtain ⟨k, rfl, hk, HBk, HKk⟩ := hrel
    clear HB2 HK2
    by_cases hlt : k < 67
    · have hlt' : (n : Int) + (k : Int) < (n : Int) + 67 := by omega
      have h0 : (0 : Int) ≤ (n : Int) + (k : Int) := by omega
      have f0 := HBk.out.frozen (n + k)
      have c0 : ∃ v, wr.cell? ⟨w.heap.size, n + k, none⟩ = some v := by
        have hl := lentK_len zs (k := k) (by omega)
        rw [HZ.out] at hl
        rw [HBk.out.cell]
        exact ⟨_, Array.getElem?_eq_getElem (by simp; omega)⟩
      obtain ⟨v0, c0⟩ := c0
      have HE : Hid _ := lentK_set zs HZ.out hlt
      go_wp2
      go_roundw
      case rel => exact ⟨k + 1, by go_num, by omega, by rw [← HE.out]; exact HBk.out.set (n + k) _, HKk.out.setCell (p := ⟨w.heap.size, n + k, none⟩) (fun h => by have : w.heap.size < w.heap.size := h; omega) _⟩
      case measure => simp [intOf]; omega
    · obtain rfl : k = 67 := by omega
      have hlt' : ¬ (n : Int) + ((67 : Nat) : Int) < (n : Int) + 67 := by omega
      go_wp2
      go_ret
      have := HBk.out
      rw [lentK_end] at this
      exact ⟨rfl, this, HKk.out⟩

end Go.Proofs.Ytmhjbkpojndhkaa
