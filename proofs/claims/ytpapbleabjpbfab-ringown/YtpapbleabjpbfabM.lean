import Derived.Test.YtpapbleabjpbfabK
namespace Go.Proofs.Ytpapbleabjpbfab
open Go.RowKit
set_option linter.unusedVariables false

/-- From lo to hi. -/
def inB (n lo hi : Int) : Bool := decide (lo ≤ n) && decide (n ≤ hi)

theorem within_any (n lo hi : Int) (w : World) : Calls Try.prog 41 #[.int .i64 n, .int .i64 lo, .int .i64 hi] w fun e w' => e = .returned (.bool (inB n lo hi)) ∧ w' = w := by
  go_enter Try.func41, Try.ntmps41
  go_wp2
  all_goals go_ret
  all_goals refine ⟨ret_bool ?_, rfl⟩
  all_goals (simp_all [inB]; try omega)

theorem rwithin_any (n lo hi : Int) (w : World) : Calls Try.prog 28 #[.int .i64 n, .int .i64 lo, .int .i64 hi] w fun e w' => e = .returned (.bool (inB n lo hi)) ∧ w' = w := by
  go_enter Try.func28, Try.ntmps28
  go_wp2
  all_goals go_ret
  all_goals refine ⟨ret_bool ?_, rfl⟩
  all_goals (simp_all [inB]; try omega)


/-- Which key may be, Buckets being bu. -/
def keyB (kd a b c bu : Int) : Bool :=
  if kd = 1 then inB a 1 255 && (inB b 1 1099511627776 && inB c 0 1048575)
  else if kd = 2 then inB a 0 (bu - 1) && ((b == 0) && (c == 0))
  else if kd = 3 then inB a 0 (bu - 1) && (inB b 1 1048576 && (c == 0))
  else false

/-- A key's and a configuration's values. -/
abbrev keyV (kd a b c : Int) : Value := .agg #[.int .i64 kd, .int .i64 a, .int .i64 b, .int .i64 c]
abbrev cfgV (s : Value) (f p bu bl ro : Int) : Value := .agg #[s, .int .i64 f, .int .i64 p, .int .i64 bu, .int .i64 bl, .int .i64 ro]

set_option maxHeartbeats 1000000 in
theorem right_any (kd a b c : Int) (sa : Option Addr) (sn sc : Nat) (f p bu bl ro : Int) (w : World) (h0 : 0 ≤ bu) (h1 : bu ≤ 9223372036854775807) :
    Calls Try.prog 30 #[keyV kd a b c, cfgV (.slice sa sn sc) f p bu bl ro] w fun e w' => e = .returned (.bool (keyB kd a b c bu)) ∧ Kept No w w' := by
  go_enter Try.func30, Try.ntmps30
  go_wp2_with (go_at_call 41; refine (within_any _ _ _ _).mono ?_; rintro e w' ⟨rfl, rfl⟩)
  all_goals go_ret
  all_goals refine ⟨ret_bool ?_, ((Kept.refl No w).alloc _).alloc _⟩
  all_goals simp_all [keyB]

set_option maxHeartbeats 1000000 in
theorem rright_any (kd a b c : Int) (sa : Option Addr) (sn sc : Nat) (f p bu bl ro : Int) (w : World) (h0 : 0 ≤ bu) (h1 : bu ≤ 9223372036854775807) :
    Calls Try.prog 11 #[keyV kd a b c, cfgV (.slice sa sn sc) f p bu bl ro] w fun e w' => e = .returned (.bool (keyB kd a b c bu)) ∧ Kept No w w' := by
  go_enter Try.func11, Try.ntmps11
  go_wp2_with (go_at_call 28; refine (rwithin_any _ _ _ _).mono ?_; rintro e w' ⟨rfl, rfl⟩)
  all_goals go_ret
  all_goals refine ⟨ret_bool ?_, ((Kept.refl No w).alloc _).alloc _⟩
  all_goals simp_all [keyB]

theorem majority_any (sa : Option Addr) (sn sc : Nat) (f p bu bl ro : Int) (w : World) (h0 : 0 ≤ f) (h1 : f ≤ 9223372036854775806) :
    Calls Try.prog 13 #[cfgV (.slice sa sn sc) f p bu bl ro] w fun e w' => e = .returned (.int .i64 (f + 1)) ∧ Kept No w w' := by
  go_enter Try.func13, Try.ntmps13
  go_wp2
  all_goals go_ret
  exact ⟨rfl, (Kept.refl No w).alloc _⟩

end Go.Proofs.Ytpapbleabjpbfab
