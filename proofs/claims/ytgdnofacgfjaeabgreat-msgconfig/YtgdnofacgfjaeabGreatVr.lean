import Derived.Test.YtgdnofacgfjaeabGreatRd
import Derived.WalkSmall
namespace Go.Proofs.YtgdnofacgfjaeabGreat
open Go.RowKit
set_option linter.unusedVariables false

/-- A byte of the row. -/
def byt (zs : List Int) (i : Nat) : Nat := (zs[i]?.getD 0).toNat

/-- The number that the first i bytes hold, seven bits each. -/
def acc (zs : List Int) : Nat → Nat
  | 0 => 0
  | i + 1 => acc zs i + byt zs i % 128 * 128 ^ i

/-- A varint read from place i on. -/
def vrGo (zs : List Int) : Nat → Nat → Except Int (Nat × Nat)
  | i, 0 => .error 11
  | i, f + 1 => if zs.length ≤ i then .error 10 else
      if byt zs i < 128 then (if (0 < i ∧ byt zs i = 0) ∨ (i = 9 ∧ 1 < byt zs i) then .error 11 else .ok (acc zs (i + 1), i + 1))
      else vrGo zs (i + 1) f

def vr (zs : List Int) : Except Int (Nat × Nat) := vrGo zs 0 10

theorem acc_lt (zs : List Int) (i : Nat) : acc zs i < 128 ^ i := by
  induction i with
  | zero => simp [acc]
  | succ i ih =>
    rw [acc, Nat.pow_succ]
    have h1 : byt zs i % 128 ≤ 127 := by omega
    have h2 : byt zs i % 128 * 128 ^ i ≤ 127 * 128 ^ i := Nat.mul_le_mul_right _ h1
    omega

theorem vr_step (zs : List Int) (k : Nat) (h : k < 10) : vrGo zs k (10 - k) = if zs.length ≤ k then .error 10 else
      if byt zs k < 128 then (if (0 < k ∧ byt zs k = 0) ∨ (k = 9 ∧ 1 < byt zs k) then .error 11 else .ok (acc zs (k + 1), k + 1))
      else vrGo zs (k + 1) (10 - (k + 1)) := by
  rw [show 10 - k = (10 - (k + 1)) + 1 from by omega, vrGo]

theorem wrap64u (n : Int) (a : 0 ≤ n) (b : n < 18446744073709551616) : IntKind.u64.wrap n = n := by
  have e : IntKind.u64.wrap n = n % 18446744073709551616 := by simp [IntKind.wrap, IntKind.bits, IntKind.signed]
  rw [e]; omega

theorem or_step (zs : List Int) (k B : Nat) (hB : byt zs k = B) (h : k ≤ 8 ∨ (k = 9 ∧ B ≤ 1)) :
    bits .or .u64 (acc zs k : Int) (IntKind.u64.wrap ((B : Int) % 128 * 2 ^ (7 * k))) = (acc zs (k + 1) : Int) := by
  have hp : (2 : Int) ^ (7 * k) = ((128 ^ k : Nat) : Int) := by rw [Int.pow_mul, Int.natCast_pow]; rfl
  have ha := acc_lt zs k
  have hx : B % 128 * 128 ^ k < 18446744073709551616 := by
    rcases h with h | ⟨rfl, h⟩
    · have h1 : 128 ^ k ≤ 128 ^ 8 := Nat.pow_le_pow_right (by decide) h
      have h2 : B % 128 * 128 ^ k ≤ 127 * 128 ^ 8 := Nat.mul_le_mul (by omega) h1
      omega
    · have h2 : B % 128 * 128 ^ 9 ≤ 1 * 128 ^ 9 := Nat.mul_le_mul (by omega) (Nat.le_refl _)
      omega
  have hk9 : 128 ^ k ≤ 128 ^ 9 := Nat.pow_le_pow_right (by decide) (by omega)
  have e1 : (B : Int) % 128 * 2 ^ (7 * k) = ((B % 128 * 128 ^ k : Nat) : Int) := by rw [hp, Int.natCast_mul]; rfl
  have e2 : IntKind.u64.wrap ((B : Int) % 128 * 2 ^ (7 * k)) = ((B % 128 * 128 ^ k : Nat) : Int) := by
    rw [e1]; exact wrap64u _ (by omega) (by omega)
  rw [e2, bits_or_comm, bits_join .u64 64 (by decide) (fun n a b => wrap64u n a (by omega)) (7 * k) _ _ (by omega) (by rw [hp, Int.natCast_mul]; exact Int.mul_emod_left _ _) (by omega) (by omega) (by rw [hp]; omega) (by omega)]
  rw [acc, hB]
  omega

/-- What is thrown. -/
abbrev Thrown (code : Int) : Ending := .panicked [{ v := .iface 31 (.int .i64 code), recovered := false }]

set_option maxRecDepth 1000000 in
set_option maxHeartbeats 400000 in
theorem check_bad (i b : Nat) (w : World) (hi : i ≤ 9) (hb : b ≤ 255) (h : (0 < i ∧ b = 0) ∨ (i = 9 ∧ 1 < b)) :
    Calls Tryz.prog 210 #[.int .i64 (i : Int), .int .u8 (b : Int)] w fun e w' => e = Thrown 11 ∧ w' = w := by
  by_cases h0 : 0 < i ∧ b = 0
  · obtain ⟨h1, rfl⟩ := h0
    have i0 : (0 : Int) < (i : Int) := by omega
    clear h hi h1
    go_enter Tryz.func210, Tryz.ntmps210
    go_wp2
    exact ⟨rfl, rfl, rfl⟩
  · obtain ⟨rfl, h1⟩ : i = 9 ∧ 1 < b := by omega
    have b0 : ((b : Int) == 0) = false := by simp; omega
    have b1 : (1 : Int) < (b : Int) := by omega
    clear h h0 hi
    go_enter Tryz.func210, Tryz.ntmps210
    go_wp2
    exact ⟨rfl, rfl, rfl⟩

set_option maxRecDepth 1000000 in
set_option maxHeartbeats 400000 in
theorem check_ok (i b : Nat) (w : World) (hi : i ≤ 9) (hb : b ≤ 255) (h : ¬ ((0 < i ∧ b = 0) ∨ (i = 9 ∧ 1 < b))) :
    Calls Tryz.prog 210 #[.int .i64 (i : Int), .int .u8 (b : Int)] w fun e w' => e = .returned (.tuple #[]) ∧ w' = w := by
  by_cases h0 : i = 0
  · subst h0
    clear h
    go_enter Tryz.func210, Tryz.ntmps210
    go_wp2
    go_end0
    exact ⟨rfl, rfl⟩
  · have i0 : (0 : Int) < (i : Int) := by omega
    have b0 : ((b : Int) == 0) = false := by simp; omega
    by_cases h9 : i = 9
    · subst h9
      have b1 : ¬ (1 : Int) < (b : Int) := by omega
      clear h h0
      go_enter Tryz.func210, Tryz.ntmps210
      go_wp2
      go_end0
      exact ⟨rfl, rfl⟩
    · have i9 : ((i : Int) == 9) = false := by simp; omega
      clear h h0 h9
      go_enter Tryz.func210, Tryz.ntmps210
      go_wp2
      go_end0
      exact ⟨rfl, rfl⟩

/-- What reading a number leaves. -/
def VrPost (w : World) (g : Nat) (la : Option Addr) (zs : List Int) (at_ : Nat) (kd : IntKind) (V : Except Int (Nat × Nat)) (e : Ending) (w' : World) : Prop :=
  match V with
  | .error c => e = Thrown c ∧ w' = w
  | .ok (u, k) => e = .returned (.int kd (u : Int)) ∧ ∃ b' off' lc', At la b' ∧ Rd w' g (some ⟨b', off', none⟩) lc' (zs.drop k) (at_ + k) ∧ Kept (Only g) w w'

set_option maxRecDepth 1000000 in
set_option maxHeartbeats 1000000 in
theorem rvar_any (g : Nat) (la : Option Addr) (lc : Nat) (zs : List Int) (at_ : Nat) (w : World) (h : Rd w g la lc zs at_) :
    Calls Tryz.prog 178 #[.pointer (some ⟨g, 0, none⟩)] w (VrPost w g la zs at_ .u64 (vr zs)) := by
  have HR : Hid (Rd w g la lc zs at_) := h
  have hbd := h.bd
  have c0 : w.cell? ⟨g, 0, none⟩ = some (.slice la zs.length lc) := by rw [cell_of_row w g 0 _ 190 (0, 0) h.cell]; rfl
  obtain ⟨V, hV⟩ : ∃ V, V = vr zs := ⟨_, rfl⟩
  rw [← hV]
  have HV : Hid (V = vrGo zs 0 10) := hV
  clear h hV
  go_enter Tryz.func178, Tryz.ntmps178
  go_wp2
  go_loop [3, 6] (fun u i => ∃ (k : Nat) (U : Int), k ≤ 10 ∧ k ≤ zs.length ∧ i = .int .i64 (k : Int) ∧ u = .int .u64 U ∧ Hid (k ≤ 9 → U = (acc zs k : Int)) ∧ Hid (V = vrGo zs k (10 - k))) (fun _ i => 10 - (intOf i).toNat)
  case atStart => exact ⟨0, 0, by omega, by omega, rfl, rfl, fun _ => rfl, HV⟩
  case round =>
    obtain ⟨k, U, hk, hkl, rfl, rfl, HU, HK⟩ := hrel
    by_cases hlt : k < 10
    · have i1 : (k : Int) < 10 := by omega
      by_cases hcut : k < zs.length
      · have i2 : ((k : Int) == (zs.length : Int)) = false := by simp; omega
        have i3 : (k : Int) < (zs.length : Int) := by omega
        obtain ⟨b, off, rfl, hcl⟩ := HR.out.sl.bytes k hcut
        obtain ⟨B, hB⟩ : ∃ B : Nat, zs[k]?.getD 0 = (B : Int) := ⟨byt zs k, by have := HR.out.sl.u8 k; unfold byt; omega⟩
        have hB8 : B ≤ 255 := by have := HR.out.sl.u8 k; omega
        rw [hB] at hcl
        have HB : Hid (byt zs k = B) := by unfold Hid byt; rw [hB]; simp
        clear hB
        by_cases h128 : B < 128
        · have j1 : (B : Int) < 128 := by omega
          by_cases hbad : (0 < k ∧ B = 0) ∨ (k = 9 ∧ 1 < B)
          · have HE : Hid (V = .error 11) := by
              show V = _
              rw [HK.out, vr_step zs k hlt, if_neg (by omega), HB.out, if_pos h128, if_pos hbad]
            clear HV HK HU
            go_wp2_with fail
            refine (check_bad k B w (by omega) hB8 hbad).mono ?_
            rintro e w1 ⟨rfl, rfl⟩
            go_wp2
            exact ⟨rfl, by rw [HE.out]; exact ⟨rfl, rfl⟩⟩
          · have HE : Hid (V = .ok (acc zs (k + 1), k + 1)) := by
              show V = _
              rw [HK.out, vr_step zs k hlt, if_neg (by omega), HB.out, if_pos h128, if_neg hbad]
            have HS : Hid (bits .or .u64 U (IntKind.u64.wrap ((B : Int) % 128 * 2 ^ (7 * k))) = (acc zs (k + 1) : Int)) := by
              rw [Hid, HU.out (by omega)]; exact or_step zs k B HB.out (by omega)
            clear HV HK HU
            go_wp2_with fail
            refine (check_ok k B w (by omega) hB8 hbad).mono ?_
            rintro e w1 ⟨rfl, rfl⟩
            go_wp2_with fail
            refine (take_any g b off lc zs at_ (k + 1) w1 HR.out (by omega)).mono ?_
            rintro e w2 ⟨rfl, hr⟩
            have HF : Hid _ := hr
            clear hr
            go_wp2
            go_ret
            show VrPost _ _ _ _ _ _ _ _ _
            rw [HE.out]
            exact ⟨ret_int HS.out, HF.out⟩
        · have j1 : ¬ (B : Int) < 128 := by omega
          have HE : Hid (V = vrGo zs (k + 1) (10 - (k + 1))) := by
            show V = _
            rw [HK.out, vr_step zs k hlt, if_neg (by omega), HB.out, if_neg h128]
          have HS : Hid (k + 1 ≤ 9 → bits .or .u64 U (IntKind.u64.wrap ((B : Int) % 128 * 2 ^ (7 * k))) = (acc zs (k + 1) : Int)) := by
            intro h9
            rw [HU.out (by omega)]; exact or_step zs k B HB.out (by omega)
          clear HV HK HU
          go_wp2
          go_round
          case rel => exact ⟨k + 1, _, by omega, by omega, by go_num, rfl, HS, HE⟩
          case measure => simp [intOf]; omega
      · have i2 : ((k : Int) == (zs.length : Int)) = true := by simp; omega
        have HE : Hid (V = .error 10) := by
          show V = _
          rw [HK.out, vr_step zs k hlt, if_pos (by omega)]
        clear HV HK HU
        go_wp2
        exact ⟨rfl, by rw [HE.out]; exact ⟨rfl, rfl⟩⟩
    · obtain rfl : k = 10 := by omega
      have HE : Hid (V = .error 11) := HK.out
      clear HV HK HU
      go_wp2
      exact ⟨rfl, by rw [HE.out]; exact ⟨rfl, rfl⟩⟩

end Go.Proofs.YtgdnofacgfjaeabGreat
