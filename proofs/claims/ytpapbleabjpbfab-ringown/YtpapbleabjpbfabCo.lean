import Derived.Test.YtpapbleabjpbfabHk
import Derived.Test.YtpapbleabjpbfabCl
import Derived.StillTailTactics
namespace Go.Proofs.Ytpapbleabjpbfab
open Go.RowKit
set_option linter.unusedVariables false

/-- The first number that is not 0. -/
def orOf : List Int → Int
  | [] => 0
  | z :: r => if z = 0 then orOf r else z

theorem orOf_drop {zs : List Int} {k : Nat} (h : k < zs.length) : orOf (zs.drop k) = if zs[k]?.getD 0 = 0 then orOf (zs.drop (k + 1)) else zs[k]?.getD 0 := by
  rw [List.drop_eq_getElem_cons h]
  simp [orOf, List.getElem?_eq_getElem h]

set_option maxRecDepth 100000 in
set_option maxHeartbeats 1000000 in
theorem or_any (a : Option Addr) (cap n : Nat) (zs : List Int) (hn : n = zs.length) (w : World) (hm : zs.length ≤ 1000) (hb : Nums .i64 w a zs) :
    Calls Try.prog 98 #[.slice a n cap] w fun e w' => e = .returned (.int .i64 (orOf zs)) ∧ w' = w := by
  subst hn
  have HB : Hid (Nums .i64 w a zs) := hb
  clear hb
  go_enter Try.func98, Try.ntmps98
  go_wp2
  go_loop [8] (fun i => ∃ k : Nat, k ≤ zs.length ∧ i = .int .i64 k ∧ Hid (orOf zs = orOf (zs.drop k))) (fun i => zs.length - (intOf i).toNat)
  case atStart => exact ⟨0, Nat.zero_le _, rfl, rfl⟩
  case round =>
    obtain ⟨k, hk, rfl, HE⟩ := hrel
    by_cases hlt : k < zs.length
    · obtain ⟨b, off, rfl, hcell⟩ := HB.out k hlt
      have HS : Hid (orOf zs = if zs[k]?.getD 0 = 0 then orOf (zs.drop (k + 1)) else zs[k]?.getD 0) := HE.out.trans (orOf_drop hlt)
      clear HE
      generalize zs[k]?.getD 0 = z at hcell HS
      by_cases hz : z = 0
      · subst hz
        have HS2 : Hid (orOf zs = orOf (zs.drop (k + 1))) := by have := HS.out; rwa [if_pos rfl] at this
        clear HS
        go_wp2
        go_round
        case rel => exact ⟨k + 1, by omega, by go_num, HS2⟩
        case measure => simp [intOf]; omega
      · have HS2 : Hid (orOf zs = z) := by have := HS.out; rwa [if_neg hz] at this
        have hz' : (z == 0) = false := by simpa using hz
        clear HS hz
        go_wp2
        go_ret
        exact ⟨ret_int HS2.out.symm, rfl⟩
    · have e : zs.drop k = [] := List.drop_eq_nil_of_le (by omega)
      have HS2 : Hid (orOf zs = 0) := by have := HE.out; rw [e] at this; exact this
      clear HE e
      go_wp2
      go_ret
      exact ⟨ret_int HS2.out.symm, rfl⟩

/-- The order of points. -/
def cmpP (x y : Int × Int) : Int := orOf [Lib.compareInt x.1 y.1, Lib.compareInt x.2 y.2]

theorem compareI_any (x y : Int) (w : World) : Calls Try.prog 99 #[.int .i64 x, .int .i64 y] w fun e w' => e = .returned (.int .i64 (Lib.compareInt x y)) ∧ w' = w :=
  Any.cmp_Compare_int Try.laysCompare x y w

set_option maxRecDepth 100000 in
set_option maxHeartbeats 1000000 in
theorem compare_any (x y : Int × Int) (w : World) : Calls Try.prog 97 #[.agg #[.int .i64 x.1, .int .i64 x.2], .agg #[.int .i64 y.1, .int .i64 y.2]] w fun e w' => e = .returned (.int .i64 (cmpP x y)) ∧ Kept No w w' := by
  have h1 := fun w => compareI_any x.1 y.1 w
  have h2 := fun w => compareI_any x.2 y.2 w
  have HC : Hid (cmpP x y = orOf [Lib.compareInt x.1 y.1, Lib.compareInt x.2 y.2]) := rfl
  generalize cmpP x y = r at HC
  generalize Lib.compareInt x.1 y.1 = c1 at h1 HC
  generalize Lib.compareInt x.2 y.2 = c2 at h2 HC
  have H1 : Hid _ := h1
  have H2 : Hid _ := h2
  clear h1 h2
  go_enter Try.func97, Try.ntmps97
  go_wp2
  obtain ⟨w0, hw0⟩ : ∃ w0, w0 = (w.alloc (.cells #[.int .i64 x.1, .int .i64 x.2] 68)).alloc (.cells #[.int .i64 y.1, .int .i64 y.2] 68) := ⟨_, rfl⟩
  rw [← hw0]
  refine wp_region_still_tail 10 (by kernel_rfl) (by kernel_rfl) ?_
  simp only [List.take_succ_cons, List.take_zero, List.drop_succ_cons, List.drop_zero]
  obtain ⟨w1, hw1⟩ : ∃ w1 : World, w1 = { w0 with drawn := w0.drawn + 1 } := ⟨_, rfl⟩
  rw [← hw1]
  have HX : Hid (Box w1 w.heap.size 68 #[.int .i64 x.1, .int .i64 x.2]) := by
    rw [hw1, hw0]; exact (Box.new w 68 #[.int .i64 x.1, .int .i64 x.2]).alloc _
  have HY : Hid (Box w1 (w.heap.size + 1) 68 #[.int .i64 y.1, .int .i64 y.2]) := by
    rw [hw1, hw0]; show Box _ _ _ _
    have := Box.new (w.alloc (.cells #[.int .i64 x.1, .int .i64 x.2] 68)) 68 #[.int .i64 y.1, .int .i64 y.2]
    simpa [Box] using this
  have HK : Hid (Kept No w w1) := by
    rw [hw1, hw0]; exact (((Kept.refl No w).alloc _).alloc _).drew
  clear hw1 hw0
  have x0 := HX.out.cell 0
  have x1 := HX.out.cell 1
  have y0 := HY.out.cell 0
  have y1 := HY.out.cell 1
  simp only [List.getElem?_toArray, List.getElem?_cons_zero, List.getElem?_cons_succ] at x0 x1 y0 y1
  still_step
  still_step
  still_step
  still_step
  still_call (H1.out _)
  still_step
  still_step
  still_step
  still_step
  still_call (H2.out _)
  refine wpStill_nil ?_
  have HN : Hid (Nums .i64 (w1.alloc (.cells #[.int .i64 c1, .int .i64 c2] 3)) (some ⟨w1.heap.size, 0, none⟩) [c1, c2]) := built_nums w1 3 [c1, c2]
  go_wp2_with (go_at_call 98
               refine (or_any _ _ _ [c1, c2] rfl _ (by simp) HN.out).mono ?_
               rintro e w2 ⟨rfl, h2⟩
               rw [h2, ← HC.out]
               clear h2 w2)
  go_ret
  exact ⟨rfl, HK.out.alloc _⟩

end Go.Proofs.Ytpapbleabjpbfab
