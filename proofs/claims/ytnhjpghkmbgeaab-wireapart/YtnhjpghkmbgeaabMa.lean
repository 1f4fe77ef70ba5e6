import Derived.Test.YtnhjpghkmbgeaabRj
namespace Go.Proofs.Ytnhjpghkmbgeaab
open Go.RowKit
set_option linter.unusedVariables false

theorem ret_u8 {x y : Int} (h : x = y) : Ending.returned (.int .u8 x) = .returned (.int .u8 y) := by rw [h]

/-- The byte j of the marks of list i. -/
def markOf (i j : Nat) : Nat := if j % 3 = 0 then i % 256 else if j % 3 = 1 then i / 256 % 256 else j % 256
theorem markOf_lt (i j : Nat) : markOf i j < 256 := by unfold markOf; split <;> (try split) <;> omega

set_option maxRecDepth 100000 in
set_option maxHeartbeats 1000000 in
theorem mark_any (i j : Nat) (w : World) (hi : i ≤ 140737488355328) (hj : j ≤ 140737488355328) :
    Calls Try.prog 38 #[.int .i64 (i : Int), .int .i64 (j : Int)] w fun e w' => e = .returned (.int .u8 (markOf i j : Int)) ∧ w' = w := by
  by_cases h0 : j % 3 = 0
  · have HE : Hid ((markOf i j : Int) = (i : Int) % 256) := by unfold Hid markOf; rw [if_pos h0]; omega
    have t0 : ((j : Int) % 3 == 0) = true := by simp; omega
    clear h0
    go_enter Try.func38, Try.ntmps38
    go_wp2
    go_ret
    exact ⟨ret_u8 HE.out.symm, rfl⟩
  by_cases h1 : j % 3 = 1
  · have HE : Hid ((markOf i j : Int) = (i : Int) / 256 % 256) := by unfold Hid markOf; rw [if_neg h0, if_pos h1]; omega
    have t0 : ((j : Int) % 3 == 0) = false := by simp; omega
    have t1 : ((j : Int) % 3 == 1) = true := by simp; omega
    clear h0 h1
    go_enter Try.func38, Try.ntmps38
    go_wp2
    go_ret
    exact ⟨ret_u8 HE.out.symm, rfl⟩
  · have HE : Hid ((markOf i j : Int) = (j : Int) % 256) := by unfold Hid markOf; rw [if_neg h0, if_neg h1]; omega
    have t0 : ((j : Int) % 3 == 0) = false := by simp; omega
    have t1 : ((j : Int) % 3 == 1) = false := by simp; omega
    clear h0 h1
    go_enter Try.func38, Try.ntmps38
    go_wp2
    go_ret
    exact ⟨ret_u8 HE.out.symm, rfl⟩

set_option maxRecDepth 100000 in
set_option maxHeartbeats 1000000 in
theorem sameItem_any (k n1 n2 : Int) (a1 a2 : Option Addr) (m1 m2 c1 c2 : Nat) (zs : List Int) (w : World) (hk : k ≤ 2 → n1 = n2) (h1 : 2 < k → Sl w a1 m1 c1 zs ∧ Sl w a2 m2 c2 zs) :
    Calls Try.prog 18 #[.agg #[.int .i64 k, .int .i64 n1, .slice a1 m1 c1], .agg #[.int .i64 k, .int .i64 n2, .slice a2 m2 c2]] w fun e w' => e = .returned (.bool true) ∧ Kept No w w' := by
  by_cases h2 : k ≤ 2
  · obtain rfl := hk h2
    clear hk h1
    go_enter Try.func18, Try.ntmps18
    go_wp2
    go_ret
    exact ⟨rfl, ((Kept.refl _ _).alloc _).alloc _⟩
  · obtain ⟨s1, s2⟩ := h1 (by omega)
    have HS1 : Hid (Sl w a1 m1 c1 zs) := s1
    have HS2 : Hid (Sl w a2 m2 c2 zs) := s2
    clear s1 s2 h1 hk
    go_enter Try.func18, Try.ntmps18
    go_wp2_with fail
    have HB1 : Hid (Sl ((w.alloc (Obj.cells #[.int .i64 k, .int .i64 n1, .slice a1 m1 c1] 42)).alloc (Obj.cells #[.int .i64 k, .int .i64 n2, .slice a2 m2 c2] 42)) a1 m1 c1 zs) := HS1.out.no (((Kept.refl _ _).alloc _).alloc _)
    have HB2 : Hid (Sl ((w.alloc (Obj.cells #[.int .i64 k, .int .i64 n1, .slice a1 m1 c1] 42)).alloc (Obj.cells #[.int .i64 k, .int .i64 n2, .slice a2 m2 c2] 42)) a2 m2 c2 zs) := HS2.out.no (((Kept.refl _ _).alloc _).alloc _)
    have hsm := sameN_any a1 a2 m1 m2 c1 c2 zs zs _ HB1.out.len HB2.out.len (by have := HB1.out.bd; omega) (by have := HB2.out.bd; omega) HB1.out.bytes HB2.out.bytes
    rw [eqB_refl] at hsm
    refine hsm.mono ?_
    rintro e w4 ⟨rfl, n4, hw4⟩
    have HK4 : Hid (Kept No w w4) := by rw [hw4]; exact (((Kept.refl _ _).alloc _).alloc _).drewN _
    clear hsm hw4 HB1 HB2
    go_wp2
    go_ret
    exact ⟨rfl, HK4.out⟩

end Go.Proofs.Ytnhjpghkmbgeaab
