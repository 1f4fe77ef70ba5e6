import Derived.Test.YtpapbleabjpbfabAr
import Derived.Sort.LotD7
namespace Go.Proofs.Ytpapbleabjpbfab
open Go.RowKit
set_option linter.unusedVariables false


/-- Two points change places: the cells are written one by one. -/
theorem Pts.swap {w : World} {g : Nat} {d : Array (Int × Int)} {sp : List Value} (h : Pts w g d sp) (i j : Nat) (hi : i < d.size) (hj : j < d.size) {x y : Int × Int} (hx : d[i]! = x) (hy : d[j]! = y) :
    Pts ((((w.setCell ⟨g, i * 2, none⟩ (.int .i64 y.1)).setCell ⟨g, i * 2 + 1, none⟩ (.int .i64 y.2)).setCell ⟨g, j * 2, none⟩ (.int .i64 x.1)).setCell ⟨g, j * 2 + 1, none⟩ (.int .i64 x.2)) g (Sort.swp d i j) sp := by
  have := (h.put i y hi).put j x (by simpa using hj)
  rw [← hx, ← hy] at this ⊢
  exact this

theorem Kept.swap {w0 w : World} {g : Nat} (h : Kept (Only g) w0 w) (i j : Nat) (v1 v2 v3 v4 : Value) :
    Kept (Only g) w0 ((((w.setCell ⟨g, i * 2, none⟩ v1).setCell ⟨g, i * 2 + 1, none⟩ v2).setCell ⟨g, j * 2, none⟩ v3).setCell ⟨g, j * 2 + 1, none⟩ v4) :=
  (((h.setCell (p := ⟨g, i * 2, none⟩) (fun _ => rfl) _).setCell (p := ⟨g, i * 2 + 1, none⟩) (fun _ => rfl) _).setCell (p := ⟨g, j * 2, none⟩) (fun _ => rfl) _).setCell (p := ⟨g, j * 2 + 1, none⟩) (fun _ => rfl) _

theorem size_swp' (d : Array (Int × Int)) (i j : Nat) : (Sort.swp d i j).size = d.size := by simp [Sort.swp]

theorem revLoop_lt {d : Array (Int × Int)} {i j : Nat} (h : i < j) : Sort.reverseLoop i j d = Sort.reverseLoop (i + 1) (j - 1) (Sort.swp d i j) := by
  rw [Sort.reverseLoop, if_pos h]
theorem revLoop_ge {d : Array (Int × Int)} {i j : Nat} (h : ¬ i < j) : Sort.reverseLoop i j d = d := by
  rw [Sort.reverseLoop, if_neg h]

open Go.Sort in
set_option maxRecDepth 100000 in
set_option maxHeartbeats 2000000 in
theorem reverse_any (g cap a b n : Nat) (d : Array (Int × Int)) (sp : List Value) (w : World) (hn : d.size = n) (hab : a < b) (hbn : b ≤ n) (hm : n ≤ 4096) (hp : Pts w g d sp) :
    Calls Try.prog 73 #[.slice (some ⟨g, 0, none⟩) n cap, .int .i64 a, .int .i64 b, cmpV] w fun e w' => e = .returned (.tuple #[]) ∧ Pts w' g (reverseRange d a b) sp ∧ Kept (Only g) w w' := by
  have HP : Hid (Pts w g d sp) := hp
  have HN : Hid (d.size = n) := hn
  clear hp hn
  obtain ⟨c, rfl⟩ : ∃ c, b = c + 1 := ⟨b - 1, by omega⟩
  have hw0 : IntKind.i64.wrap (c : Int) = (c : Int) := by rw [IntKind.wrap_i64]; omega
  go_enter Try.func73, Try.ntmps73
  go_wp2
  go_loopw [8, 9] (fun vi vj wr => ∃ (i j : Nat) (dk : Array (Int × Int)), vi = .int .i64 i ∧ vj = .int .i64 j ∧ a ≤ i ∧ i ≤ c + 1 ∧ j ≤ c ∧ Hid (dk.size = n) ∧ Hid (Pts wr g dk sp) ∧ Hid (reverseLoop i j dk = reverseLoop a c d) ∧ Hid (Kept (Only g) w wr)) (fun i j _ => (intOf j).toNat + 1 - (intOf i).toNat)
  case atStart => exact ⟨a, c, d, rfl, by go_num, Nat.le_refl _, by omega, Nat.le_refl _, HN, HP, rfl, Kept.refl _ _⟩
  case round =>
    obtain ⟨i, j, dk, rfl, rfl, hai, hic, hjc, HS, HPk, HE, HK⟩ := hrel
    clear HP hw0
    by_cases hlt : i < j
    · obtain ⟨x, hx⟩ : ∃ x, dk[i]! = x := ⟨_, rfl⟩
      obtain ⟨y, hy⟩ : ∃ y, dk[j]! = y := ⟨_, rfl⟩
      have HXx : Hid (dk[i]! = x) := hx
      have HXy : Hid (dk[j]! = y) := hy
      clear hx hy
      have sa := HPk.out.cell (i) (by have := HS.out; omega)
      have sb := HPk.out.cell (j) (by have := HS.out; omega)
      rw [HXx.out] at sa
      rw [HXy.out] at sb
      obtain ⟨sa1, sa2⟩ := sa
      obtain ⟨sb1, sb2⟩ := sb
      have f1 := HPk.out.frozen ((i) * 2)
      have f2 := HPk.out.frozen ((i) * 2 + 1)
      have f3 := HPk.out.frozen ((j) * 2)
      have f4 := HPk.out.frozen ((j) * 2 + 1)

      have hi1 : (i : Int) < (n : Int) := by omega
      have hj1 : (j : Int) < (n : Int) := by omega
      have hij : (i : Int) < (j : Int) := by omega
      have hi0 : (0 : Int) ≤ (i : Int) := by omega
      have hj0 : (0 : Int) ≤ (j : Int) := by omega
      go_wp2
      go_big_region
      all_goals go_wp2
      go_roundw
      case rel =>
        refine ⟨i + 1, j - 1, swp dk i j, by go_num, by go_num, by omega, by omega, by omega, ?_, HPk.out.swap i j (by have := HS.out; omega) (by have := HS.out; omega) HXx.out HXy.out, ?_, (HK.out.swap i j _ _ _ _).drew⟩
        · show _ = _; rw [size_swp']; exact HS.out
        · show _ = _; rw [← HE.out, revLoop_lt hlt]
      case measure => simp [intOf]; omega
    · have hlt' : ¬ (i : Int) < (j : Int) := by omega
      go_wp2
      go_end0
      refine ⟨rfl, ?_, HK.out⟩
      have := HE.out
      rw [revLoop_ge hlt] at this
      show Pts _ _ (reverseLoop a (c + 1 - 1) d) _
      rw [Nat.add_sub_cancel, ← this]
      exact HPk.out

end Go.Proofs.Ytpapbleabjpbfab
