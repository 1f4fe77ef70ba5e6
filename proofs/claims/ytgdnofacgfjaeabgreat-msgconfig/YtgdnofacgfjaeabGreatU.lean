import Derived.Test.YtgdnofacgfjaeabGreatT
namespace Go.Proofs.YtgdnofacgfjaeabGreat
open Go.RowKit
set_option linter.unusedVariables false

theorem xor32 (a b : Nat) (ha : a < 4294967296) (hb : b < 4294967296) : bits .xor .u32 (a : Int) (b : Int) = ((a ^^^ b : Nat) : Int) := by
  have hx : a ^^^ b < 2 ^ 32 := Nat.xor_lt_two_pow (by omega) (by omega)
  have h1 : (BitVec.ofInt 32 (a : Int)).toNat = a := by
    rw [BitVec.ofInt_natCast, BitVec.toNat_ofNat]; exact Nat.mod_eq_of_lt (by omega)
  have h2 : (BitVec.ofInt 32 (b : Int)).toNat = b := by
    rw [BitVec.ofInt_natCast, BitVec.toNat_ofNat]; exact Nat.mod_eq_of_lt (by omega)
  show IntKind.u32.wrap ((BitVec.ofInt 32 (a : Int) ^^^ BitVec.ofInt 32 (b : Int)).toNat : Int) = _
  rw [BitVec.toNat_xor, h1, h2]
  simp [IntKind.wrap, IntKind.bits, IntKind.signed]
  omega

theorem xor8 (a b : Nat) (ha : a < 256) (hb : b < 256) : bits .xor .u8 (a : Int) (b : Int) = ((a ^^^ b : Nat) : Int) := by
  have hx : a ^^^ b < 2 ^ 8 := Nat.xor_lt_two_pow (by omega) (by omega)
  have h1 : (BitVec.ofInt 8 (a : Int)).toNat = a := by
    rw [BitVec.ofInt_natCast, BitVec.toNat_ofNat]; exact Nat.mod_eq_of_lt (by omega)
  have h2 : (BitVec.ofInt 8 (b : Int)).toNat = b := by
    rw [BitVec.ofInt_natCast, BitVec.toNat_ofNat]; exact Nat.mod_eq_of_lt (by omega)
  show IntKind.u8.wrap ((BitVec.ofInt 8 (a : Int) ^^^ BitVec.ofInt 8 (b : Int)).toNat : Int) = _
  rw [BitVec.toNat_xor, h1, h2]
  simp [IntKind.wrap, IntKind.bits, IntKind.signed]
  omega

theorem xor_inj {a b c : Nat} (h : a ^^^ c = b ^^^ c) : a = b := by
  have := congrArg (· ^^^ c) h
  simpa [Nat.xor_assoc] using this

theorem shf_nat (n : Nat) (h : n < 4294967296) : shf (n : Int) = ((if n % 2 = 1 then (n / 2) ^^^ 2197175160 else n / 2 : Nat) : Int) := by
  have e : bits .and .u32 (n : Int) 1 = ((n % 2 : Nat) : Int) := by
    have := bits_mask .u32 32 (by decide) (fun n a b => by simp [IntKind.wrap, IntKind.bits, IntKind.signed]; omega) 1 (by decide) (n : Int) (by omega) (by omega)
    simpa using this
  unfold shf
  rw [e]
  by_cases h2 : n % 2 = 1
  · rw [if_pos (by rw [h2]; rfl), if_pos h2]
    have := xor32 (n / 2) 2197175160 (by omega) (by omega)
    simpa using this
  · rw [if_neg (by simp; omega), if_neg h2]
    simp

theorem shf_inj (n m : Nat) (h : n < 4294967296) (h' : m < 4294967296) (e : shf (n : Int) = shf (m : Int)) : n = m := by
  rw [shf_nat n h, shf_nat m h'] at e
  have e : (if n % 2 = 1 then (n / 2) ^^^ 2197175160 else n / 2) = (if m % 2 = 1 then (m / 2) ^^^ 2197175160 else m / 2) := by exact_mod_cast e
  have top : ∀ k : Nat, k < 4294967296 → 2147483648 ≤ (k / 2) ^^^ 2197175160 := by
    intro k hk
    have : ((k / 2) ^^^ 2197175160).testBit 31 = true := by
      rw [Nat.testBit_xor, Nat.testBit_lt_two_pow (x := k / 2) (i := 31) (by omega)]
      decide
    exact Nat.ge_two_pow_of_testBit this
  by_cases hn : n % 2 = 1 <;> by_cases hm : m % 2 = 1
  · rw [if_pos hn, if_pos hm] at e
    have := xor_inj e
    omega
  · rw [if_pos hn, if_neg hm] at e
    have := top n h
    omega
  · rw [if_neg hn, if_pos hm] at e
    have := top m h'
    omega
  · rw [if_neg hn, if_neg hm] at e
    omega


theorem shfN_inj (k : Nat) (s s' : Int) (h : 0 ≤ s ∧ s ≤ 4294967295) (h' : 0 ≤ s' ∧ s' ≤ 4294967295) (e : shfN k s = shfN k s') : s = s' := by
  induction k with
  | zero => exact e
  | succ k ih =>
    apply ih
    have a := shfN_bd k s h.1 h.2
    have b := shfN_bd k s' h'.1 h'.2
    have := shf_inj (shfN k s).toNat (shfN k s').toNat (by omega) (by omega) (by rw [Int.toNat_of_nonneg a.1, Int.toNat_of_nonneg b.1]; exact e)
    omega

theorem xor32_i {s z : Int} (h : 0 ≤ s ∧ s ≤ 4294967295) (hz : 0 ≤ z ∧ z ≤ 4294967295) : bits .xor .u32 s z = ((s.toNat ^^^ z.toNat : Nat) : Int) := by
  have := xor32 s.toNat z.toNat (by omega) (by omega)
  rwa [Int.toNat_of_nonneg h.1, Int.toNat_of_nonneg hz.1] at this

theorem upd_state {s s' z : Int} (h : 0 ≤ s ∧ s ≤ 4294967295) (h' : 0 ≤ s' ∧ s' ≤ 4294967295) (hz : 0 ≤ z ∧ z ≤ 255) (e : upd s z = upd s' z) : s = s' := by
  have := shfN_inj 8 _ _ ⟨bits_lo_u32 _ _ _, bits_hi_u32 _ _ _⟩ ⟨bits_lo_u32 _ _ _, bits_hi_u32 _ _ _⟩ e
  rw [xor32_i h (by omega), xor32_i h' (by omega)] at this
  have := xor_inj (by exact_mod_cast this)
  omega

theorem upd_byte {s z z' : Int} (h : 0 ≤ s ∧ s ≤ 4294967295) (hz : 0 ≤ z ∧ z ≤ 255) (hz' : 0 ≤ z' ∧ z' ≤ 255) (e : upd s z = upd s z') : z = z' := by
  have := shfN_inj 8 _ _ ⟨bits_lo_u32 _ _ _, bits_hi_u32 _ _ _⟩ ⟨bits_lo_u32 _ _ _, bits_hi_u32 _ _ _⟩ e
  rw [xor32_i h (by omega), xor32_i h (by omega)] at this
  have h2 : s.toNat ^^^ z.toNat = s.toNat ^^^ z'.toNat := by exact_mod_cast this
  rw [Nat.xor_comm, Nat.xor_comm s.toNat] at h2
  have := xor_inj h2
  omega

theorem fold_inj (zs : List Int) (h8 : U8 zs) (s s' : Int) (h : 0 ≤ s ∧ s ≤ 4294967295) (h' : 0 ≤ s' ∧ s' ≤ 4294967295) (e : zs.foldl upd s = zs.foldl upd s') : s = s' := by
  induction zs generalizing s s' with
  | nil => exact e
  | cons z r ih =>
    have hz := h8 0
    simp at hz
    have := ih (by intro i; have := h8 (i + 1); simpa using this) _ _ (upd_bd s z) (upd_bd s' z) e
    exact upd_state h h' (by omega) this

/-- One byte turned: another register. -/
theorem crc_set (zs : List Int) (h8 : U8 zs) (k : Nat) (hk : k < zs.length) (y : Int) (hy : 0 ≤ y ∧ y ≤ 255) (hne : zs[k]?.getD 0 ≠ y) : crc (zs.set k y) ≠ crc zs := by
  intro e
  have e1 : zs = zs.take k ++ (zs[k] :: zs.drop (k + 1)) := by simp
  have e2 : zs.set k y = zs.take k ++ (y :: zs.drop (k + 1)) := List.set_eq_take_append_cons_drop.trans (by rw [if_pos hk])
  have hc := crc_bd (zs.take k)
  rw [e2] at e
  conv at e => rhs; rw [e1]
  unfold crc at e hc
  rw [List.foldl_append, List.foldl_append, List.foldl_cons, List.foldl_cons] at e
  have := fold_inj _ (h8.drop (k + 1)) _ _ (upd_bd _ _) (upd_bd _ _) e
  have hb := h8 k
  rw [List.getElem?_eq_getElem hk] at hb hne
  simp only [Option.getD_some] at hb hne
  exact hne (upd_byte hc hy hb this).symm

theorem sumOf_inj {xs ys : List Int} (h : sumOf xs = sumOf ys) : crc xs = crc ys := by
  have a := crc_bd xs; have b := crc_bd ys
  unfold sumOf at h
  rw [xor32_i a (by omega), xor32_i b (by omega)] at h
  have := xor_inj (Int.ofNat.inj h)
  omega

theorem sum_set (zs : List Int) (h8 : U8 zs) (k : Nat) (hk : k < zs.length) (y : Int) (hy : 0 ≤ y ∧ y ≤ 255) (hne : zs[k]?.getD 0 ≠ y) : sumOf (zs.set k y) ≠ sumOf zs :=
  fun e => crc_set zs h8 k hk y hy hne (sumOf_inj e)

theorem turned_ne {z y : Int} (hz : 0 ≤ z ∧ z ≤ 255) (hy : 0 ≤ y ∧ y ≤ 255) (h0 : y ≠ 0) : z ≠ bits .xor .u8 z y := by
  have e := xor8 z.toNat y.toNat (by omega) (by omega)
  rw [Int.toNat_of_nonneg hz.1, Int.toNat_of_nonneg hy.1] at e
  intro h
  rw [e] at h
  have h2 : z.toNat ^^^ y.toNat = z.toNat := by omega
  have h3 : y.toNat ^^^ z.toNat = 0 ^^^ z.toNat := by rw [Nat.xor_comm, h2]; simp
  have := xor_inj h3
  omega

/-! ### The number of four bytes -/
theorem numOf_app (n : Int) (r : List Int) (h0 : 0 ≤ n) (h1 : n ≤ 4294967295) : numOf (fourOf n ++ r) = n := by
  simp [numOf, fourOf]; omega
theorem numOf_four (n : Int) (h0 : 0 ≤ n) (h1 : n ≤ 4294967295) : numOf (fourOf n) = n := by
  simp [numOf, fourOf]; omega

/-- Other four bytes, another number. -/
theorem numOf_set (zs : List Int) (h8 : U8 zs) (k : Nat) (hk : k < 4) (hl : 4 ≤ zs.length) (y : Int) (hy : 0 ≤ y ∧ y ≤ 255) (hne : zs[k]?.getD 0 ≠ y) : numOf (zs.set k y) ≠ numOf zs := by
  have a := h8 0; have b := h8 1; have c := h8 2; have d := h8 3
  have hs : ∀ j, (zs.set k y)[j]?.getD 0 = if k = j then y else zs[j]?.getD 0 := by
    intro j
    rw [List.getElem?_set]
    by_cases h : k = j
    · subst h; rw [if_pos rfl, if_pos (by omega), if_pos rfl]; rfl
    · rw [if_neg h, if_neg h]
  unfold numOf
  rw [hs 0, hs 1, hs 2, hs 3]
  match k, hk with
  | 0, _ => simp at hne ⊢; omega
  | 1, _ => simp at hne ⊢; omega
  | 2, _ => simp at hne ⊢; omega
  | 3, _ => simp at hne ⊢; omega


/-! ### What Open says of a sealed body -/
theorem openOf_head {zs : List Int} {n : Nat} (hl : 8 ≤ zs.length) (hs : numOf (zs.drop 4) = sumOf (zs.take 4)) (hn : numOf zs = n) (hm : n ≤ 131072) :
    openOf zs = if zs.length < n + 12 then ([], 10) else if n + 12 < zs.length then ([], 11) else if numOf (zs.drop (n + 8)) ≠ sumOf (zs.take (n + 8)) then ([], 12) else ((zs.drop 8).take n, 0) := by
  unfold openOf
  rw [if_neg (by omega), if_neg (by simpa using hs), hn, if_neg (by omega), Int.toNat_natCast]
  by_cases h1 : zs.length < n + 12
  · rw [if_pos (by omega), if_pos h1]
  · rw [if_neg (by omega), if_neg h1]
    by_cases h2 : n + 12 < zs.length
    · rw [if_pos (by omega), if_pos h2]
    · rw [if_neg (by omega), if_neg h2]

/-- The head of what begins as a sealed body does. -/
theorem head_facts (zs r : List Int) (hm : zs.length ≤ 131072) : numOf ((headOf zs ++ r).drop 4) = sumOf ((headOf zs ++ r).take 4) ∧ numOf (headOf zs ++ r) = (zs.length : Int) := by
  have hb := sumOf_bd (fourOf zs.length)
  unfold headOf
  constructor
  · rw [List.append_assoc, List.drop_append_of_le_length (by simp [fourOf_len]), List.take_append_of_le_length (by simp [fourOf_len])]
    rw [List.drop_of_length_le (by simp [fourOf_len]), List.take_of_length_le (by simp [fourOf_len]), List.nil_append]
    exact numOf_app _ _ hb.1 hb.2
  · rw [List.append_assoc]
    exact numOf_app _ _ (by omega) (by omega)

theorem open_seal (zs : List Int) (hm : zs.length ≤ 131072) : openOf (sealOf zs) = (zs, 0) := by
  have hl := sealOf_len zs
  have hb := sumOf_bd (headOf zs ++ zs)
  have hf := head_facts zs (zs ++ fourOf (sumOf (headOf zs ++ zs))) hm
  have e : sealOf zs = headOf zs ++ (zs ++ fourOf (sumOf (headOf zs ++ zs))) := by unfold sealOf; rw [List.append_assoc]
  rw [← e] at hf
  rw [openOf_head (by omega) hf.1 hf.2 hm, if_neg (by omega), if_neg (by omega)]
  have h8 : (headOf zs ++ zs).length = zs.length + 8 := by rw [List.length_append, headOf_len]; omega
  have e1 : (sealOf zs).drop (zs.length + 8) = fourOf (sumOf (headOf zs ++ zs)) := by unfold sealOf; rw [← h8, List.drop_left]
  have e2 : (sealOf zs).take (zs.length + 8) = headOf zs ++ zs := by unfold sealOf; rw [← h8, List.take_left]
  rw [e1, e2, numOf_four _ hb.1 hb.2, if_neg (by simp)]
  have e3 : (sealOf zs).drop 8 = zs ++ fourOf (sumOf (headOf zs ++ zs)) := by rw [e, ← headOf_len zs, List.drop_left]
  rw [e3, List.take_left]

theorem open_front (zs : List Int) (hm : zs.length ≤ 131072) (k : Nat) (hk : k < zs.length + 12) : openOf ((sealOf zs).take k) = ([], 10) := by
  have hl := sealOf_len zs
  have hlk : ((sealOf zs).take k).length = k := by rw [List.length_take]; omega
  by_cases h8 : k < 8
  · unfold openOf; rw [if_pos (by omega)]
  · have e : (sealOf zs).take k = headOf zs ++ (zs ++ fourOf (sumOf (headOf zs ++ zs))).take (k - 8) := by
      unfold sealOf; rw [List.append_assoc, List.take_append, headOf_len, List.take_of_length_le (by rw [headOf_len]; omega)]
    have hf := head_facts zs ((zs ++ fourOf (sumOf (headOf zs ++ zs))).take (k - 8)) hm
    rw [← e] at hf
    rw [openOf_head (by omega) hf.1 hf.2 hm, if_pos (by omega)]

theorem open_more (zs : List Int) (hm : zs.length ≤ 131072) (x : Int) : openOf (sealOf zs ++ [x]) = ([], 11) := by
  have hl := sealOf_len zs
  have e : sealOf zs ++ [x] = headOf zs ++ (zs ++ fourOf (sumOf (headOf zs ++ zs)) ++ [x]) := by unfold sealOf; simp
  have hf := head_facts zs (zs ++ fourOf (sumOf (headOf zs ++ zs)) ++ [x]) hm
  rw [← e] at hf
  have hl2 : (sealOf zs ++ [x]).length = zs.length + 13 := by rw [List.length_append, hl]; rfl
  rw [openOf_head (by omega) hf.1 hf.2 hm, if_neg (by omega), if_pos (by omega)]

theorem open_turned (zs : List Int) (hm : zs.length ≤ 131072) (h8 : U8 zs) (k : Nat) (hk : k < zs.length + 12) (y : Int) (hy : 0 ≤ y ∧ y ≤ 255) (hne : (sealOf zs)[k]?.getD 0 ≠ y) : openOf ((sealOf zs).set k y) = ([], 12) := by
  have hl := sealOf_len zs
  have hb := sumOf_bd (headOf zs ++ zs)
  have hf0 := head_facts zs (zs ++ fourOf (sumOf (headOf zs ++ zs))) hm
  have e : sealOf zs = headOf zs ++ (zs ++ fourOf (sumOf (headOf zs ++ zs))) := by unfold sealOf; rw [List.append_assoc]
  rw [← e] at hf0
  have hls : ((sealOf zs).set k y).length = zs.length + 12 := by rw [List.length_set, hl]
  have hu := sealOf_u8 h8
  by_cases k8 : k < 8
  · have : numOf (((sealOf zs).set k y).drop 4) ≠ sumOf (((sealOf zs).set k y).take 4) := by
      by_cases k4 : k < 4
      · rw [List.drop_set_of_lt (by omega), List.take_set, hf0.1]
        exact fun e => sum_set _ (hu.take 4) k (by rw [List.length_take]; omega) y hy (by rw [List.getElem?_take, if_pos k4]; exact hne) e.symm
      · rw [List.drop_set, if_neg (by omega), List.take_set_of_le (by omega), ← hf0.1]
        exact numOf_set _ (hu.drop 4) (k - 4) (by omega) (by rw [List.length_drop]; omega) y hy (by rw [List.getElem?_drop, Nat.add_sub_cancel' (by omega)]; exact hne)
    unfold openOf
    rw [if_neg (by omega), if_pos this]
  · have hs : numOf (((sealOf zs).set k y).drop 4) = sumOf (((sealOf zs).set k y).take 4) := by
      rw [List.take_set_of_le (by omega), ← hf0.1, List.drop_set, if_neg (by omega)]
      simp only [numOf]
      rw [List.getElem?_set_ne (by omega), List.getElem?_set_ne (by omega), List.getElem?_set_ne (by omega), List.getElem?_set_ne (by omega)]
    have hn : numOf ((sealOf zs).set k y) = (zs.length : Int) := by
      rw [← hf0.2]
      simp only [numOf]
      rw [List.getElem?_set_ne (by omega), List.getElem?_set_ne (by omega), List.getElem?_set_ne (by omega), List.getElem?_set_ne (by omega)]
    rw [openOf_head (by omega) hs hn hm, if_neg (by omega), if_neg (by omega), if_pos]
    have hh8 : (headOf zs ++ zs).length = zs.length + 8 := by rw [List.length_append, headOf_len]; omega
    have e1 : (sealOf zs).drop (zs.length + 8) = fourOf (sumOf (headOf zs ++ zs)) := by unfold sealOf; rw [← hh8, List.drop_left]
    have e2 : (sealOf zs).take (zs.length + 8) = headOf zs ++ zs := by unfold sealOf; rw [← hh8, List.take_left]
    have e0 : numOf ((sealOf zs).drop (zs.length + 8)) = sumOf ((sealOf zs).take (zs.length + 8)) := by rw [e1, e2, numOf_four _ hb.1 hb.2]
    by_cases kb : k < zs.length + 8
    · rw [List.drop_set_of_lt (by omega), List.take_set, e0]
      exact fun e => sum_set _ (hu.take _) k (by rw [List.length_take]; omega) y hy (by rw [List.getElem?_take, if_pos kb]; exact hne) e.symm
    · rw [List.drop_set, if_neg (by omega), List.take_set_of_le (by omega), ← e0]
      exact numOf_set _ (hu.drop _) (k - (zs.length + 8)) (by omega) (by rw [List.length_drop]; omega) y hy (by rw [List.getElem?_drop, Nat.add_sub_cancel' (by omega)]; exact hne)

end Go.Proofs.YtgdnofacgfjaeabGreat
