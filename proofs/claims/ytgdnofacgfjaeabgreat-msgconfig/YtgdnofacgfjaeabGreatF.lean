import Derived.Test.YtgdnofacgfjaeabGreatE
import Derived.Test.YtgdnofacgfjaeabGreatA
import Derived.Deep.DeepMust
import Derived.Laws.BitsLemmas
namespace Go.Proofs.YtgdnofacgfjaeabGreat
open Go.RowKit
set_option linter.unusedVariables false

def fourOf (n : Int) : List Int := [n % 256, n / 256 % 256, n / 65536 % 256, n / 16777216 % 256]
def numOf (zs : List Int) : Int := zs[0]?.getD 0 + zs[1]?.getD 0 * 256 + zs[2]?.getD 0 * 65536 + zs[3]?.getD 0 * 16777216

theorem fourOf_len (n : Int) : (fourOf n).length = 4 := rfl
theorem fourOf_u8 (n : Int) : U8 (fourOf n) := by
  unfold fourOf
  exact U8.cons (by omega) (U8.cons (by omega) (U8.cons (by omega) (U8.cons (by omega) U8.nil)))

theorem four_own (w : World) (n : Int) (h0 : 0 ≤ n) (h1 : n ≤ 4294967295) :
    OwnS (w.alloc (Obj.cells #[Value.int .u8 (n % 256), Value.int .u8 (n / 256 % 256), Value.int .u8 (n / 65536 % 256), Value.int .u8 (n / 16777216)] 5)) w.heap.size (some ⟨w.heap.size, 0, none⟩) 4 (fourOf n) := by
  have e : n / 16777216 = n / 16777216 % 256 := by omega
  rw [e]
  exact World.ownsRow_lit w _ 4 (Nat.le_refl _) (by unfold maxLen; omega) rfl

set_option maxRecDepth 1000000 in
set_option maxHeartbeats 400000 in
theorem Four_any (n : Int) (w : World) (h0 : 0 ≤ n) (h1 : n ≤ 4294967295) :
    Calls Tryz.prog 233 #[.int .i64 n] w fun e w' => e = .returned (.slice (some ⟨w.heap.size, 0, none⟩) 4 4) ∧ OwnS w' w.heap.size (some ⟨w.heap.size, 0, none⟩) 4 (fourOf n) ∧ Kept No w w' := by
  go_enter Tryz.func233, Tryz.ntmps233
  go_wp2
  go_ret
  exact ⟨rfl, four_own w n h0 h1, (Kept.refl _ _).alloc _⟩

/-- The first four bytes, apart. -/
theorem four_cells {w : World} {a : Option Addr} {zs : List Int} (hb : Bytes w a zs) (h8 : U8 zs) (h4 : 4 ≤ zs.length) :
    ∃ b off x0 x1 x2 x3, a = some ⟨b, off, none⟩ ∧ w.cell? ⟨b, off, none⟩ = some (.int .u8 x0) ∧ w.cell? ⟨b, off + 1, none⟩ = some (.int .u8 x1) ∧ w.cell? ⟨b, off + 2, none⟩ = some (.int .u8 x2) ∧ w.cell? ⟨b, off + 3, none⟩ = some (.int .u8 x3) ∧
      (0 ≤ x0 ∧ x0 ≤ 255) ∧ (0 ≤ x1 ∧ x1 ≤ 255) ∧ (0 ≤ x2 ∧ x2 ≤ 255) ∧ (0 ≤ x3 ∧ x3 ≤ 255) ∧ numOf zs = x0 + x1 * 256 + x2 * 65536 + x3 * 16777216 := by
  obtain ⟨b, off, rfl, c0⟩ := hb 0 (by omega)
  obtain ⟨b', off', e, c1⟩ := hb 1 (by omega)
  cases e
  obtain ⟨b', off', e, c2⟩ := hb 2 (by omega)
  cases e
  obtain ⟨b', off', e, c3⟩ := hb 3 (by omega)
  cases e
  exact ⟨b, off, _, _, _, _, rfl, c0, c1, c2, c3, h8 0, h8 1, h8 2, h8 3, rfl⟩

set_option maxRecDepth 1000000 in
set_option maxHeartbeats 400000 in
theorem number_any (a : Option Addr) (m cap : Nat) (zs : List Int) (w : World) (hm : zs.length = m) (h4 : 4 ≤ m) (hb : Bytes w a zs) (h8 : U8 zs) :
    Calls Tryz.prog 195 #[.slice a m cap] w fun e w' => e = .returned (.int .i64 (numOf zs)) ∧ ∃ n, w' = w.drewN n := by
  obtain ⟨b, off, x0, x1, x2, x3, rfl, c0, c1, c2, c3, z0, z1, z2, z3, hN⟩ := four_cells hb h8 (by omega)
  rw [hN]
  clear hN hb h8 hm
  have g0 : (0 : Int) < (m : Int) := by omega
  have g1 : (1 : Int) < (m : Int) := by omega
  have g2 : (2 : Int) < (m : Int) := by omega
  have g3 : (3 : Int) < (m : Int) := by omega
  have n0 : 0 < m := by omega
  go_enter Tryz.func195, Tryz.ntmps195
  go_wp2
  go_quiet (fail)
  go_wp2
  go_ret
  exact ⟨rfl, _, rfl⟩

theorem bits_or_comm (k : IntKind) (x y : Int) : bits .or k x y = bits .or k y x := by
  simp only [bits]; rw [BitVec.or_comm]

theorem or_low (i : Nat) (y x : Int) (hx₀ : 0 ≤ x) (hx : x % 2 ^ i = 0) (hx₁ : x < 2 ^ 62) (hy₀ : 0 ≤ y) (hy : y < 2 ^ i) (hy₁ : y < 2 ^ 62) : bits .or .i64 y x = y + x := by
  rw [bits_or_comm, bits_join .i64 62 (by decide) (fun n a b => by rw [IntKind.wrap_i64]; omega) i x y hx₀ hx hx₁ hy₀ hy hy₁]
  omega

theorem or3 (x0 x1 x2 x3 : Int) (z0 : 0 ≤ x0 ∧ x0 ≤ 255) (z1 : 0 ≤ x1 ∧ x1 ≤ 255) (z2 : 0 ≤ x2 ∧ x2 ≤ 255) (z3 : 0 ≤ x3 ∧ x3 ≤ 255) :
    bits .or .i64 (bits .or .i64 (bits .or .i64 x0 (x1 * 256)) (x2 * 65536)) (x3 * 16777216) = x0 + x1 * 256 + x2 * 65536 + x3 * 16777216 := by
  rw [or_low 8 x0 (x1 * 256) (by omega) (by omega) (by omega) (by omega) (by omega) (by omega)]
  rw [or_low 16 _ (x2 * 65536) (by omega) (by omega) (by omega) (by omega) (by omega) (by omega)]
  rw [or_low 24 _ (x3 * 16777216) (by omega) (by omega) (by omega) (by omega) (by omega) (by omega)]

set_option maxRecDepth 1000000 in
set_option maxHeartbeats 400000 in
theorem four_any (a : Option Addr) (m cap : Nat) (zs : List Int) (w : World) (hm : zs.length = m) (h4 : 4 ≤ m) (hb : Bytes w a zs) (h8 : U8 zs) :
    Calls Tryz.prog 129 #[.slice a m cap] w fun e w' => e = .returned (.int .i64 (numOf zs)) ∧ ∃ n, w' = w.drewN n := by
  obtain ⟨b, off, x0, x1, x2, x3, rfl, c0, c1, c2, c3, z0, z1, z2, z3, hN⟩ := four_cells hb h8 (by omega)
  rw [hN]
  clear hN hb h8 hm
  have g0 : (0 : Int) < (m : Int) := by omega
  have g1 : (1 : Int) < (m : Int) := by omega
  have g2 : (2 : Int) < (m : Int) := by omega
  have g3 : (3 : Int) < (m : Int) := by omega
  have n0 : 0 < m := by omega
  go_enter Tryz.func129, Tryz.ntmps129
  go_wp2
  go_quiet (fail)
  go_wp2
  go_ret
  exact ⟨ret_int (or3 x0 x1 x2 x3 z0 z1 z2 z3), _, rfl⟩

end Go.Proofs.YtgdnofacgfjaeabGreat
