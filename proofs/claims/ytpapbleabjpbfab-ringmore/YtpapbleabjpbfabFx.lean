import Derived.Test.YtpapbleabjpbfabFt
namespace Go.Proofs.Ytpapbleabjpbfab
open Go.RowKit
open Ieee
set_option linter.unusedVariables false
set_option linter.unusedSimpArgs false

theorem log2_eq {n k : Nat} (h1 : 2 ^ k ≤ n) (h2 : n < 2 ^ (k + 1)) : n.log2 = k := by
  have hn : n ≠ 0 := by have := Nat.two_pow_pos k; omega
  have a := (Nat.le_log2 hn).2 h1
  have b := (Nat.log2_lt hn).2 h2
  omega
theorem log2_bd {n : Nat} (h : n ≠ 0) : 2 ^ n.log2 ≤ n ∧ n < 2 ^ (n.log2 + 1) := ⟨(Nat.le_log2 h).1 (Nat.le_refl _), (Nat.log2_lt h).1 (Nat.lt_succ_self _)⟩
theorem log2_mul (c t : Nat) (h : c ≠ 0) : (c * 2 ^ t).log2 = c.log2 + t := by
  obtain ⟨h1, h2⟩ := log2_bd h
  apply log2_eq
  · rw [Nat.pow_add]; exact Nat.mul_le_mul_right _ h1
  · rw [show c.log2 + t + 1 = (c.log2 + 1) + t by omega, Nat.pow_add]
    exact Nat.mul_lt_mul_of_pos_right h2 (Nat.two_pow_pos t)
theorem log2_le {c k : Nat} (h : c ≠ 0) (hc : c < 2 ^ (k + 1)) : c.log2 ≤ k := by
  have := (Nat.log2_lt h).2 hc
  omega

theorem cut_exact (neg : Bool) (k d n : Nat) (hn : n = k * 2 ^ d) (hd : d ≤ n.log2 + 2) : Toward.even.cut neg n d = k := by
  unfold Toward.cut
  have hm : min d (n.log2 + 2) = d := Nat.min_eq_left hd
  have hp := Nat.two_pow_pos d
  simp only [hm, Nat.shiftLeft_eq, Nat.one_mul]
  have h1 : n / 2 ^ d = k := by rw [hn]; exact Nat.mul_div_cancel _ hp
  have h2 : n % 2 ^ d = 0 := by rw [hn]; exact Nat.mul_mod_left _ _
  rw [h1, h2]
  have e1 : decide (2 ^ d < 2 * 0) = false := decide_eq_false (by omega)
  have e2 : (2 ^ d == 2 * 0) = false := by simp
  simp [e1]

theorem min_rungB (q K B : Nat) (hq : q ≤ 1074) (hK : K < 2 * B) : min (q * B + K) (2047 * B) = q * B + K := by
  have h1 := Nat.mul_le_mul_right B hq
  exact Nat.min_eq_left (by omega)
theorem min_rung2 (q K : Nat) (hq : q ≤ 1074) (hK : K < 2 ^ 53) : min (q * 2 ^ 52 + K) (2047 * 2 ^ 52) = q * 2 ^ 52 + K :=
  min_rungB q K (2 ^ 52) hq (by rw [show 2 * 2 ^ 52 = 2 ^ 53 by decide]; exact hK)
theorem min_rung (q K : Nat) (hq : q ≤ 1042) (hK : K < 2 ^ 53) : min (q * 2 ^ 52 + K) (2047 * 2 ^ 52) = q * 2 ^ 52 + K := min_rung2 q K (by omega) hK

set_option maxRecDepth 100000 in
/-- The word of c at place -32, whatever zeros stand behind. -/
theorem near_scale (c t : Nat) (hc : c ≠ 0) (h53 : c < 2 ^ 53) (ht : t ≤ 2000) (hs : 52 - c.log2 ≤ t) :
    FloatKind.f64.format.nearest false (c * 2 ^ t) (-32 - (t : Int)) = (1042 + c.log2 - 52) * 2 ^ 52 + c * 2 ^ (52 - c.log2) := by
  have hL : c.log2 ≤ 52 := log2_le hc h53
  have hlog := log2_mul c t hc
  have hpos : c * 2 ^ t ≠ 0 := Nat.mul_ne_zero hc (Nat.pos_iff_ne_zero.1 (Nat.two_pow_pos t))
  obtain ⟨hb1, hb2⟩ := log2_bd hc
  unfold Format.nearest
  rw [if_neg hpos]
  have hlast : max (-32 - (t : Int) + ((c * 2 ^ t).log2 : Int) - (FloatKind.f64.format.fractionBits : Int)) FloatKind.f64.format.leastPlace = -32 + (c.log2 : Int) - 52 := by
    rw [hlog]
    have e1 : (FloatKind.f64.format.fractionBits : Int) = 52 := rfl
    have e2 : FloatKind.f64.format.leastPlace = -1074 := by decide
    rw [e1, e2]
    have : ((c.log2 + t : Nat) : Int) = (c.log2 : Int) + (t : Int) := by omega
    rw [this, Int.max_eq_left (by omega)]
    omega
  simp only [hlast]
  have e0 : (-32 - (t : Int) - (-32 + (c.log2 : Int) - 52)).toNat = 0 := by omega
  have e1 : (-32 + (c.log2 : Int) - 52 - (-32 - (t : Int))).toNat = t - (52 - c.log2) := by omega
  rw [e0, e1, Nat.shiftLeft_zero]
  have hk : c * 2 ^ t = (c * 2 ^ (52 - c.log2)) * 2 ^ (t - (52 - c.log2)) := by
    rw [Nat.mul_assoc, ← Nat.pow_add]
    congr 2
    omega
  rw [cut_exact false (c * 2 ^ (52 - c.log2)) _ _ hk (by rw [hlog]; omega)]
  have e2 : (-32 + (c.log2 : Int) - 52 - FloatKind.f64.format.leastPlace).toNat = 1042 + c.log2 - 52 := by
    have : FloatKind.f64.format.leastPlace = -1074 := by decide
    rw [this]; omega
  have e3 : FloatKind.f64.format.binade = 2 ^ 52 := rfl
  rw [e2, e3]
  have hlt : c * 2 ^ (52 - c.log2) < 2 ^ 53 := by
    calc c * 2 ^ (52 - c.log2) < 2 ^ (c.log2 + 1) * 2 ^ (52 - c.log2) := Nat.mul_lt_mul_of_pos_right hb2 (Nat.two_pow_pos _)
      _ = 2 ^ 53 := by rw [← Nat.pow_add]; congr 1; omega
  have hinf : FloatKind.f64.format.infRung = 2047 * 2 ^ 52 := by decide
  rw [hinf, min_rung _ _ (by omega) hlt]
  rfl

/-- Its word. -/
def shW (c : Nat) : Nat := if c = 0 then 0 else (1042 + c.log2 - 52) * 2 ^ 52 + c * 2 ^ (52 - c.log2)

set_option maxRecDepth 100000 in
theorem read_sh (c : Nat) (h53 : c < 2 ^ 53) : ∃ t : Nat, t ≤ 1500 ∧ (c ≠ 0 → 52 - c.log2 ≤ t) ∧ FloatKind.f64.format.read (shW c) = .number false (c * 2 ^ t) (-32 - (t : Int)) := by
  by_cases hc : c = 0
  · subst hc
    obtain ⟨t, ht⟩ : ∃ t : Nat, t = 1042 := ⟨_, rfl⟩
    refine ⟨t, by omega, fun h => absurd rfl h, ?_⟩
    rw [Nat.zero_mul, show (-32 - (t : Int)) = -1074 by omega]
    rfl
  · have hL : c.log2 ≤ 52 := log2_le hc h53
    obtain ⟨hb1, hb2⟩ := log2_bd hc
    refine ⟨52 - c.log2, by omega, fun _ => Nat.le_refl _, ?_⟩
    have hlo : 2 ^ 52 ≤ c * 2 ^ (52 - c.log2) := by
      calc 2 ^ 52 = 2 ^ c.log2 * 2 ^ (52 - c.log2) := by rw [← Nat.pow_add]; congr 1; omega
        _ ≤ c * 2 ^ (52 - c.log2) := Nat.mul_le_mul_right _ hb1
    have hhi : c * 2 ^ (52 - c.log2) < 2 ^ 53 := by
      calc c * 2 ^ (52 - c.log2) < 2 ^ (c.log2 + 1) * 2 ^ (52 - c.log2) := Nat.mul_lt_mul_of_pos_right hb2 (Nat.two_pow_pos _)
        _ = 2 ^ 53 := by rw [← Nat.pow_add]; congr 1; omega
    unfold shW
    rw [if_neg hc]
    generalize hk : c * 2 ^ (52 - c.log2) = k at hlo hhi
    generalize hq : 1042 + c.log2 - 52 = q
    have hq2 : q ≤ 1042 := by omega
    have hqi : (q : Int) = 990 + (c.log2 : Int) := by omega
    have hsw : FloatKind.f64.format.signWeight = 2 ^ 63 := rfl
    have hbi : FloatKind.f64.format.binade = 2 ^ 52 := rfl
    have hinf : FloatKind.f64.format.infRung = 2047 * 2 ^ 52 := by decide
    have hle : FloatKind.f64.format.leastPlace = -1074 := by decide
    unfold Format.read
    simp only [hsw, hbi, hinf, hle]
    have h1 : (q * 2 ^ 52 + k) % 2 ^ 63 = q * 2 ^ 52 + k := Nat.mod_eq_of_lt (by omega)
    have h2 : (q * 2 ^ 52 + k) / 2 ^ 63 = 0 := Nat.div_eq_of_lt (by omega)
    rw [h1, h2]
    rw [if_neg (by omega), if_pos (by omega)]
    have h3 : 2 ^ 52 + (q * 2 ^ 52 + k) % 2 ^ 52 = k := by omega
    have h4 : (q * 2 ^ 52 + k) / 2 ^ 52 = q + 1 := by omega
    rw [h3, h4]
    congr 1
    simp only [Nat.add_sub_cancel]
    omega

theorem near_sh (c t : Nat) (h53 : c < 2 ^ 53) (ht : t ≤ 2000) (hs : c ≠ 0 → 52 - c.log2 ≤ t) : FloatKind.f64.format.nearest false (c * 2 ^ t) (-32 - (t : Int)) = shW c := by
  unfold shW
  by_cases hc : c = 0
  · subst hc
    rw [if_pos rfl, Nat.zero_mul]
    rfl
  · rw [if_neg hc]
    exact near_scale c t hc h53 ht (hs hc)

theorem signed_pos (m up : Nat) : signed false m up = ((m * 2 ^ up : Nat) : Int) := by
  unfold signed
  simp [Nat.shiftLeft_eq]

/-- Parts add up, to the last bit. -/
theorem add_sh (a b : Nat) (h : a + b < 2 ^ 53) : FloatKind.f64.format.add (shW a) (shW b) = some (shW (a + b)) := by
  obtain ⟨ta, ha1, ha2, ha3⟩ := read_sh a (by omega)
  obtain ⟨tb, hb1, hb2, hb3⟩ := read_sh b (by omega)
  unfold Format.add
  rw [ha3, hb3]
  show (Datum.sum _ _).map _ = _
  simp only [Datum.sum, signed_pos]
  obtain ⟨t, ht⟩ : ∃ t, t = max ta tb := ⟨_, rfl⟩
  have hbase : min (-32 - (ta : Int)) (-32 - (tb : Int)) = -32 - (t : Int) := by omega
  rw [hbase]
  have e1 : (-32 - (ta : Int) - (-32 - (t : Int))).toNat = t - ta := by omega
  have e2 : (-32 - (tb : Int) - (-32 - (t : Int))).toNat = t - tb := by omega
  rw [e1, e2]
  have f1 : a * 2 ^ ta * 2 ^ (t - ta) = a * 2 ^ t := by rw [Nat.mul_assoc, ← Nat.pow_add]; congr 2; omega
  have f2 : b * 2 ^ tb * 2 ^ (t - tb) = b * 2 ^ t := by rw [Nat.mul_assoc, ← Nat.pow_add]; congr 2; omega
  rw [f1, f2]
  have hsum : ((a * 2 ^ t : Nat) : Int) + ((b * 2 ^ t : Nat) : Int) = (((a + b) * 2 ^ t : Nat) : Int) := by rw [Nat.add_mul]; omega
  rw [hsum]
  have hneg : (if (((a + b) * 2 ^ t : Nat) : Int) = 0 then (false && false) else decide ((((a + b) * 2 ^ t : Nat) : Int) < 0)) = false := by
    split
    · rfl
    · exact decide_eq_false (by omega)
  simp only [Bool.and_self, Bool.false_and] at hneg ⊢
  rw [hneg]
  rw [Int.natAbs_natCast]
  simp only [Option.map_some, Option.some.injEq]
  show FloatKind.f64.format.nearest false _ _ = _
  refine near_sh (a + b) t h (by omega) ?_
  intro hc
  by_cases ha : a = 0
  · subst ha
    rw [Nat.zero_add] at hc ⊢
    have := hb2 hc
    omega
  · have h1 := ha2 ha
    have h2 : a.log2 ≤ (a + b).log2 := (Nat.le_log2 hc).2 (Nat.le_trans (log2_bd ha).1 (by omega))
    omega

set_option maxRecDepth 100000 in
/-- A whole number as a float. -/
theorem read_whole (c : Nat) (hc : c ≠ 0) (h53 : c < 2 ^ 53) : FloatKind.f64.format.read (FloatKind.f64.format.nearest false c 0) = .number false (c * 2 ^ (52 - c.log2)) (-((52 - c.log2 : Nat) : Int)) := by
  have hL : c.log2 ≤ 52 := log2_le hc h53
  obtain ⟨hb1, hb2⟩ := log2_bd hc
  have hlo : 2 ^ 52 ≤ c * 2 ^ (52 - c.log2) := by
    calc 2 ^ 52 = 2 ^ c.log2 * 2 ^ (52 - c.log2) := by rw [← Nat.pow_add]; congr 1; omega
      _ ≤ c * 2 ^ (52 - c.log2) := Nat.mul_le_mul_right _ hb1
  have hhi : c * 2 ^ (52 - c.log2) < 2 ^ 53 := by
    calc c * 2 ^ (52 - c.log2) < 2 ^ (c.log2 + 1) * 2 ^ (52 - c.log2) := Nat.mul_lt_mul_of_pos_right hb2 (Nat.two_pow_pos _)
      _ = 2 ^ 53 := by rw [← Nat.pow_add]; congr 1; omega
  have hle : FloatKind.f64.format.leastPlace = -1074 := by decide
  have hinf : FloatKind.f64.format.infRung = 2047 * 2 ^ 52 := by decide
  have hbi : FloatKind.f64.format.binade = 2 ^ 52 := rfl
  have hsw : FloatKind.f64.format.signWeight = 2 ^ 63 := rfl
  have hfr : (FloatKind.f64.format.fractionBits : Int) = 52 := rfl
  have hw : FloatKind.f64.format.nearest false c 0 = (1074 + c.log2 - 52) * 2 ^ 52 + c * 2 ^ (52 - c.log2) := by
    unfold Format.nearest
    rw [if_neg hc]
    have hlast : max (0 + (c.log2 : Int) - (FloatKind.f64.format.fractionBits : Int)) FloatKind.f64.format.leastPlace = (c.log2 : Int) - 52 := by
      rw [hfr, hle, Int.max_eq_left (by omega)]; omega
    simp only [hlast]
    have e0 : (0 - ((c.log2 : Int) - 52)).toNat = 52 - c.log2 := by omega
    have e1 : ((c.log2 : Int) - 52 - 0).toNat = 0 := by omega
    rw [e0, e1, Nat.shiftLeft_eq]
    rw [cut_exact false (c * 2 ^ (52 - c.log2)) 0 _ (by rw [Nat.pow_zero, Nat.mul_one]) (by omega)]
    have e2 : ((c.log2 : Int) - 52 - FloatKind.f64.format.leastPlace).toNat = 1074 + c.log2 - 52 := by rw [hle]; omega
    rw [e2, hbi, hinf, min_rung2 _ _ (by omega) hhi]
    rfl
  rw [hw]
  generalize hk : c * 2 ^ (52 - c.log2) = k at hlo hhi
  generalize hq : 1074 + c.log2 - 52 = q
  have hq2 : q ≤ 1074 := by omega
  unfold Format.read
  simp only [hsw, hbi, hinf, hle]
  have h1 : (q * 2 ^ 52 + k) % 2 ^ 63 = q * 2 ^ 52 + k := Nat.mod_eq_of_lt (by omega)
  have h2 : (q * 2 ^ 52 + k) / 2 ^ 63 = 0 := Nat.div_eq_of_lt (by omega)
  rw [h1, h2]
  rw [if_neg (by omega), if_pos (by omega)]
  have h3 : 2 ^ 52 + (q * 2 ^ 52 + k) % 2 ^ 52 = k := by omega
  have h4 : (q * 2 ^ 52 + k) / 2 ^ 52 = q + 1 := by omega
  rw [h3, h4]
  congr 1
  simp only [Nat.add_sub_cancel]
  omega

set_option maxRecDepth 100000 in
/-- What Share tells, as such a word. -/
theorem share_sh (n : Nat) (h : n < 2 ^ 53) : shareF (n : Int) = some (shW n) := by
  have hcirc : FloatKind.f64.format.read 4751297606875873280 = .number false 4503599627370496 (-20) := by decide +kernel
  unfold shareF floatBits
  show FloatKind.f64.format.div (floatOfInt .f64 (n : Int)) 4751297606875873280 = _
  have hof : floatOfInt .f64 (n : Int) = FloatKind.f64.format.nearest false n 0 := by
    show FloatKind.f64.format.nearest (decide ((n : Int) < 0)) (n : Int).natAbs 0 = _
    rw [decide_eq_false (by omega), Int.natAbs_natCast]
  rw [hof]
  by_cases hc : n = 0
  · subst hc
    decide +kernel
  · have hL : n.log2 ≤ 52 := log2_le hc h
    obtain ⟨hb1, hb2⟩ := log2_bd hc
    -- the number itself, as a float
    have hrd : FloatKind.f64.format.read (FloatKind.f64.format.nearest false n 0) = .number false (n * 2 ^ (52 - n.log2)) (-((52 - n.log2 : Nat) : Int)) := read_whole n hc h
    unfold Format.div
    rw [hrd, hcirc]
    have hlo : 2 ^ 52 ≤ n * 2 ^ (52 - n.log2) := by
      calc 2 ^ 52 = 2 ^ n.log2 * 2 ^ (52 - n.log2) := by rw [← Nat.pow_add]; congr 1; omega
        _ ≤ n * 2 ^ (52 - n.log2) := Nat.mul_le_mul_right _ hb1
    have hhi : n * 2 ^ (52 - n.log2) < 2 ^ 53 := by
      calc n * 2 ^ (52 - n.log2) < 2 ^ (n.log2 + 1) * 2 ^ (52 - n.log2) := Nat.mul_lt_mul_of_pos_right hb2 (Nat.two_pow_pos _)
        _ = 2 ^ 53 := by rw [← Nat.pow_add]; congr 1; omega
    have hlg : (n * 2 ^ (52 - n.log2)).log2 = 52 := log2_eq hlo hhi
    have hq : Datum.quotient (FloatKind.f64.format.fractionBits + 2) (.number false (n * 2 ^ (52 - n.log2)) (-((52 - n.log2 : Nat) : Int))) (.number false 4503599627370496 (-20)) = some (.number false (n * 2 ^ (52 - n.log2 + 3)) (-32 - ((52 - n.log2 + 3 : Nat) : Int))) := by
      unfold Datum.quotient
      have e1 : FloatKind.f64.format.fractionBits + 2 = 54 := rfl
      have e2 : (4503599627370496 : Nat).log2 = 52 := log2_eq (by decide) (by decide)
      rw [e1]
      simp only [e2, hlg, Nat.shiftLeft_eq]
      rw [if_neg (by decide)]
      have e3 : 54 + 52 - 52 = 54 := rfl
      rw [e3]
      have d1 : n * 2 ^ (52 - n.log2) * 2 ^ 54 / 4503599627370496 = n * 2 ^ (52 - n.log2) * 4 := by
        rw [show (4503599627370496 : Nat) = 2 ^ 52 by decide, show (2 : Nat) ^ 54 = 4 * 2 ^ 52 by decide, ← Nat.mul_assoc]
        exact Nat.mul_div_cancel _ (Nat.two_pow_pos 52)
      have d2 : n * 2 ^ (52 - n.log2) * 2 ^ 54 % 4503599627370496 = 0 := by
        rw [show (4503599627370496 : Nat) = 2 ^ 52 by decide, show (2 : Nat) ^ 54 = 4 * 2 ^ 52 by decide, ← Nat.mul_assoc]
        exact Nat.mul_mod_left _ _
      rw [d1, d2]
      have m1 : 2 * (n * 2 ^ (52 - n.log2) * 4) + ((0 : Nat) != 0).toNat = n * 2 ^ (52 - n.log2 + 3) := by
        have h8 : n * 2 ^ (52 - n.log2 + 3) = n * 2 ^ (52 - n.log2) * 8 := by rw [Nat.pow_add, Nat.mul_assoc]
        have : ((0 : Nat) != 0).toNat = 0 := rfl
        rw [this, h8]
        generalize n * 2 ^ (52 - n.log2) = A
        omega
      rw [m1]
      congr 2
      omega
    rw [hq]
    simp only [Option.map_some, Option.some.injEq]
    show FloatKind.f64.format.nearest false _ _ = _
    exact near_sh n (52 - n.log2 + 3) h (by omega) (fun _ => by omega)

end Go.Proofs.Ytpapbleabjpbfab
