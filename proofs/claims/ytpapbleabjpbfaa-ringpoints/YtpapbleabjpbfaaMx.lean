import Derived.Test.YtpapbleabjpbfaaHk
import Derived.Laws.Bits64
namespace Go.Proofs.Ytpapbleabjpbfaa
open Go.RowKit
set_option linter.unusedVariables false

theorem ofInt_toNat (w : Nat) (x : Int) : (BitVec.ofInt w x).toNat = (x % (2 ^ w : Int)).toNat := by
  rw [BitVec.toNat_ofInt]
  norm_cast

theorem xor_u32_nat (a b : Nat) (ha : a < 4294967296) (hb : b < 4294967296) : bits .xor .u32 (a : Int) (b : Int) = ((a ^^^ b : Nat) : Int) := by
  have hx : a ^^^ b < 2 ^ 32 := Nat.xor_lt_two_pow (by omega) (by omega)
  have h1 : (BitVec.ofInt 32 (a : Int)).toNat = a := by
    rw [BitVec.ofInt_natCast, BitVec.toNat_ofNat]; exact Nat.mod_eq_of_lt (by omega)
  have h2 : (BitVec.ofInt 32 (b : Int)).toNat = b := by
    rw [BitVec.ofInt_natCast, BitVec.toNat_ofNat]; exact Nat.mod_eq_of_lt (by omega)
  show IntKind.u32.wrap ((BitVec.ofInt 32 (a : Int) ^^^ BitVec.ofInt 32 (b : Int)).toNat : Int) = _
  rw [BitVec.toNat_xor, h1, h2]
  simp [IntKind.wrap, IntKind.bits, IntKind.signed]
  omega

theorem xor_i64_nat (a b : Nat) (ha : a < 4294967296) (hb : b < 4294967296) : bits .xor .i64 (a : Int) (b : Int) = ((a ^^^ b : Nat) : Int) := by
  have hx : a ^^^ b < 2 ^ 32 := Nat.xor_lt_two_pow (by omega) (by omega)
  have h1 : (BitVec.ofInt 64 (a : Int)).toNat = a := by
    rw [BitVec.ofInt_natCast, BitVec.toNat_ofNat]; exact Nat.mod_eq_of_lt (by omega)
  have h2 : (BitVec.ofInt 64 (b : Int)).toNat = b := by
    rw [BitVec.ofInt_natCast, BitVec.toNat_ofNat]; exact Nat.mod_eq_of_lt (by omega)
  show IntKind.i64.wrap ((BitVec.ofInt 64 (a : Int) ^^^ BitVec.ofInt 64 (b : Int)).toNat : Int) = _
  rw [BitVec.toNat_xor, h1, h2, IntKind.wrap_i64]
  omega

theorem and_i64_255 (x : Int) : bits .and .i64 x 255 = x % 256 := by
  show IntKind.i64.wrap ((BitVec.ofInt 64 x &&& BitVec.ofInt 64 255).toNat : Int) = _
  have h2 : (BitVec.ofInt 64 (255 : Int)).toNat = 2 ^ 8 - 1 := rfl
  rw [BitVec.toNat_and, h2, Nat.and_two_pow_sub_one_eq_mod, BitVec.toNat_ofInt, IntKind.wrap_i64]
  have : (0 : Int) ≤ x % (2 ^ 64 : Nat) := Int.emod_nonneg _ (by decide)
  omega

theorem and_i64_all (x : Int) : bits .and .i64 x 4294967295 = x % 4294967296 := by
  show IntKind.i64.wrap ((BitVec.ofInt 64 x &&& BitVec.ofInt 64 4294967295).toNat : Int) = _
  have h2 : (BitVec.ofInt 64 (4294967295 : Int)).toNat = 2 ^ 32 - 1 := rfl
  rw [BitVec.toNat_and, h2, Nat.and_two_pow_sub_one_eq_mod, BitVec.toNat_ofInt, IntKind.wrap_i64]
  have : (0 : Int) ≤ x % (2 ^ 64 : Nat) := Int.emod_nonneg _ (by decide)
  omega

theorem xor_bd (h b : Int) (h0 : 0 ≤ h) (h1 : h ≤ 4294967295) (b0 : 0 ≤ b) (b1 : b ≤ 255) : bits .xor .i64 h b = bits .xor .u32 h b ∧ 0 ≤ bits .xor .i64 h b ∧ bits .xor .i64 h b ≤ 4294967295 := by
  obtain ⟨m, rfl⟩ := Int.eq_ofNat_of_zero_le h0
  obtain ⟨k, rfl⟩ := Int.eq_ofNat_of_zero_le b0
  have hx : m ^^^ k < 2 ^ 32 := Nat.xor_lt_two_pow (by omega) (by omega)
  rw [xor_i64_nat m k (by omega) (by omega), xor_u32_nat m k (by omega) (by omega)]
  omega

theorem byteAt_shr (n : Int) (i : Nat) (hi : i < 8) : n / 2 ^ (8 * i) % 256 = byteAt n i := by
  unfold byteAt
  rw [IntKind.wrap_u64]
  rcases i with _ | _ | _ | _ | _ | _ | _ | _ | i
  all_goals first | omega | (simp only [Nat.reduceAdd, Nat.reduceMul, Int.reducePow, Nat.zero_add, Nat.mul_zero, Int.pow_zero]; omega)

set_option maxRecDepth 100000 in
set_option maxHeartbeats 1000000 in
theorem mix_any (h b : Int) (h0 : 0 ≤ h) (h1 : h ≤ 4294967295) (b0 : 0 ≤ b) (b1 : b ≤ 255) (w : World) :
    Calls Try.prog 56 #[.int .i64 h, .int .i64 b] w fun e w' => e = .returned (.int .i64 (fnvS h b)) ∧ w' = w := by
  obtain ⟨hx, x0, x1⟩ := xor_bd h b h0 h1 b0 b1
  obtain ⟨x, ex⟩ : ∃ x, bits .xor .i64 h b = x := ⟨_, rfl⟩
  have HF : Hid (fnvS h b = bits .and .i64 (x * 16777619) 4294967295) := by
    show _ = _
    rw [and_i64_all, ← ex, hx]; rfl
  rw [ex] at x0 x1
  clear hx
  go_enter Try.func56, Try.ntmps56
  go_wp2
  go_ret
  rw [HF.out]
  exact ⟨rfl, rfl⟩

/-- The hash behind a number's eight bytes. -/
def numH (h n : Int) : Int := (eightN n 8).foldl fnvS h
theorem foldS_bd (zs : List Int) (s : Int) (h0 : 0 ≤ s) (h1 : s ≤ 4294967295) : 0 ≤ zs.foldl fnvS s ∧ zs.foldl fnvS s ≤ 4294967295 := by
  induction zs generalizing s with
  | nil => exact ⟨h0, h1⟩
  | cons z r ih => exact ih _ (fnvS_bd s z).1 (fnvS_bd s z).2
theorem numH_bd (h n : Int) (h0 : 0 ≤ h) (h1 : h ≤ 4294967295) : 0 ≤ numH h n ∧ numH h n ≤ 4294967295 := foldS_bd _ _ h0 h1
theorem eightN_step (h n : Int) (i : Nat) : (eightN n (i + 1)).foldl fnvS h = fnvS ((eightN n i).foldl fnvS h) (byteAt n i) := by
  rw [eightN_succ, List.foldl_append]; rfl

end Go.Proofs.Ytpapbleabjpbfaa
