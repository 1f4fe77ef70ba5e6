import Derived.Test.YtgdnofacgfjaeaaGreatWiCa
import Derived.WalkSmall
namespace Go.Proofs.YtgdnofacgfjaeaaGreat.Wi
open Go.RowKit
set_option linter.unusedVariables false
structure Rd (w : World) (g : Nat) (la : Option Addr) (lc : Nat) (zs : List Int) (at_ : Nat) : Prop where
  cell : w.heap[g]? = some (.cells #[.slice la zs.length lc, .int .i64 (at_ : Int), .int .i64 0, .int .i64 0] 231 (0, 0))
  sl : Sl w la zs.length lc zs
  bd : at_ + zs.length ≤ 140737488355328
theorem Rd.lt {w : World} {g : Nat} {la : Option Addr} {lc : Nat} {zs : List Int} {at_ : Nat} (h : Rd w g la lc zs at_) : g < w.heap.size := (Array.getElem?_eq_some_iff.1 h.cell).1
theorem Rd.ne {w : World} {g : Nat} {la : Option Addr} {lc : Nat} {zs : List Int} {at_ : Nat} (h : Rd w g la lc zs at_) (h0 : 0 < zs.length) {k : Nat} (hk : At la k) : k ≠ g := by
  rintro rfl
  obtain ⟨b, off, rfl, hc⟩ := h.sl.bytes 0 h0
  obtain ⟨ad, e, e2⟩ := hk
  cases e
  simp only at e2
  subst e2
  rw [cell_of_row w b (off + 0) _ 231 (0, 0) h.cell] at hc
  match off, hc with
  | 0, hc => simp at hc
  | 1, hc => simp at hc
  | 2, hc => simp at hc
  | 3, hc => simp at hc
  | n + 4, hc => simp at hc
theorem Rd.no {w w' : World} {g : Nat} {la : Option Addr} {lc : Nat} {zs : List Int} {at_ : Nat} (h : Rd w g la lc zs at_) (hk : Kept No w w') : Rd w' g la lc zs at_ :=
  ⟨(hk.block g h.lt (fun e => e)).trans h.cell, h.sl.no hk, h.bd⟩
theorem Sl.kept2 {S : Nat → Prop} {w w' : World} {a : Option Addr} {m cap : Nat} {zs : List Int} (h : Sl w a m cap zs) (hk : Kept S w w') (hS : 0 < zs.length → ∀ k, At a k → ¬ S k) : Sl w' a m cap zs :=
  ⟨h.len, h.bytes.kept2 hk hS, h.u8, h.le, h.cm, h.bd, h.nil⟩
theorem take_end {w : World} {g b off lc : Nat} {zs : List Int} {at_ n : Nat} {la' : Option Addr} (h : Rd w g (some ⟨b, off, none⟩) lc zs at_) (hn : n ≤ zs.length)
    (hla : (lc = n ∧ la' = some ⟨b, off, none⟩) ∨ (lc ≠ n ∧ la' = some ⟨b, off + n, none⟩)) {v : Int} (hv : v = ((at_ + n : Nat) : Int)) :
    Rd ((w.setCell ⟨g, 0, none⟩ (.slice la' (zs.length - n) (lc - n))).setCell ⟨g, 1, none⟩ (.int .i64 v)) g la' (lc - n) (zs.drop n) (at_ + n) ∧
    Kept (Only g) w ((w.setCell ⟨g, 0, none⟩ (.slice la' (zs.length - n) (lc - n))).setCell ⟨g, 1, none⟩ (.int .i64 v)) := by
  subst hv
  have hK : Kept (Only g) w ((w.setCell ⟨g, 0, none⟩ (.slice la' (zs.length - n) (lc - n))).setCell ⟨g, 1, none⟩ (.int .i64 ((at_ + n : Nat) : Int))) :=
    ((Kept.refl (Only g) w).setCell (p := ⟨g, 0, none⟩) (fun _ => (rfl : g = g)) _).setCell (p := ⟨g, 1, none⟩) (fun _ => (rfl : g = g)) _
  refine ⟨⟨?_, ?_, ?_⟩, hK⟩
  · have h1 := heap_setCell_same w g 0 _ 231 (.slice la' (zs.length - n) (lc - n)) h.cell
    have h2 := heap_setCell_same _ g 1 _ 231 (.int .i64 ((at_ + n : Nat) : Int)) h1
    rw [h2, List.length_drop]; rfl
  · have hs := h.sl
    have hcap := hs.le
    have hl : (zs.drop n).length = zs.length - n := List.length_drop
    have hby : Bytes w la' (zs.drop n) := by
      rcases hla with ⟨e1, rfl⟩ | ⟨e1, rfl⟩
      · have : zs.drop n = [] := List.drop_eq_nil_of_le (by omega)
        rw [this]; intro i hi; exact absurd hi (Nat.not_lt_zero _)
      · exact hs.bytes.drop n
    refine ⟨rfl, hby.kept2 hK (fun h0 k hk e => ?_), hs.u8.drop n, by rw [hl]; omega, by have := hs.cm; omega, by rw [hl]; have := hs.bd; omega, fun e => ?_⟩
    · refine h.ne (by omega) (k := k) ?_ e
      rcases hla with ⟨e1, rfl⟩ | ⟨e1, rfl⟩
      · exact hk
      · obtain ⟨ad, e', e2⟩ := hk; cases e'; exact ⟨_, rfl, e2⟩
    · rcases hla with ⟨e1, rfl⟩ | ⟨e1, rfl⟩ <;> cases e
  · have := h.bd; rw [List.length_drop]; omega
set_option maxRecDepth 1000000 in
set_option maxHeartbeats 1000000 in
theorem take_any (g b off lc : Nat) (zs : List Int) (at_ n : Nat) (w : World) (h : Rd w g (some ⟨b, off, none⟩) lc zs at_) (hn : n ≤ zs.length) :
    Calls Tryz.prog 232 #[.pointer (some ⟨g, 0, none⟩), .int .i64 (n : Int)] w fun e w' => e = .returned (.slice (some ⟨b, off, none⟩) n lc) ∧ ∃ b' off' lc', At (some ⟨b, off, none⟩) b' ∧ Rd w' g (some ⟨b', off', none⟩) lc' (zs.drop n) (at_ + n) ∧ Kept (Only g) w w' := by
  have HR : Hid (Rd w g (some ⟨b, off, none⟩) lc zs at_) := h
  have hbd := h.bd
  have hcm := h.sl.cm
  have hle := h.sl.le
  have c0 : w.cell? ⟨g, 0, none⟩ = some (.slice (some ⟨b, off, none⟩) zs.length lc) := by rw [cell_of_row w g 0 _ 231 (0, 0) h.cell]; rfl
  have c1 : w.cell? ⟨g, 1, none⟩ = some (.int .i64 (at_ : Int)) := by rw [cell_of_row w g 1 _ 231 (0, 0) h.cell]; rfl
  have f0 := frozen_of_row w g 0 _ 231 h.cell
  have f1 := frozen_of_row w g 1 _ 231 h.cell
  have q0 : (n : Int) ≤ (lc : Int) := by omega
  have q1 : (n : Int) ≤ (zs.length : Int) := by omega
  clear h
  by_cases hc : lc = n
  · subst hc
    go_enter Tryz.func232, Tryz.ntmps232
    go_wp2
    go_ret
    refine ⟨rfl, b, off, lc - lc, ⟨_, rfl, rfl⟩, ?_⟩
    have e1 : zs.length - lc = 0 := by omega
    have e2 : lc - lc = 0 := by omega
    have := take_end (v := (at_ : Int) + (lc : Int)) HR.out hn (.inl ⟨rfl, rfl⟩) (by omega)
    rw [e1, e2] at this
    rw [e2]
    exact this
  · go_enter Tryz.func232, Tryz.ntmps232
    go_wp2
    go_ret
    refine ⟨rfl, b, off + n, lc - n, ⟨_, rfl, rfl⟩, ?_⟩
    exact take_end HR.out hn (.inr ⟨hc, rfl⟩) (by omega)
def byt (zs : List Int) (i : Nat) : Nat := (zs[i]?.getD 0).toNat
def acc (zs : List Int) : Nat → Nat
  | 0 => 0
  | i + 1 => acc zs i + byt zs i % 128 * 128 ^ i
def vrGo (zs : List Int) : Nat → Nat → Except Int (Nat × Nat)
  | i, 0 => .error 11
  | i, f + 1 => if zs.length ≤ i then .error 10 else
      if byt zs i < 128 then (if (0 < i ∧ byt zs i = 0) ∨ (i = 9 ∧ 1 < byt zs i) then .error 11 else .ok (acc zs (i + 1), i + 1))
      else vrGo zs (i + 1) f
def vr (zs : List Int) : Except Int (Nat × Nat) := vrGo zs 0 10
theorem acc_lt (zs : List Int) (i : Nat) : acc zs i < 128 ^ i := by
  induction i with
  | zero => simp [acc]
  | succ i ih =>
    rw [acc, Nat.pow_succ]
    have h1 : byt zs i % 128 ≤ 127 := by omega
    have h2 : byt zs i % 128 * 128 ^ i ≤ 127 * 128 ^ i := Nat.mul_le_mul_right _ h1
    omega
theorem vr_step (zs : List Int) (k : Nat) (h : k < 10) : vrGo zs k (10 - k) = if zs.length ≤ k then .error 10 else
      if byt zs k < 128 then (if (0 < k ∧ byt zs k = 0) ∨ (k = 9 ∧ 1 < byt zs k) then .error 11 else .ok (acc zs (k + 1), k + 1))
      else vrGo zs (k + 1) (10 - (k + 1)) := by
  rw [show 10 - k = (10 - (k + 1)) + 1 from by omega, vrGo]
theorem wrap64u (n : Int) (a : 0 ≤ n) (b : n < 18446744073709551616) : IntKind.u64.wrap n = n := by
  have e : IntKind.u64.wrap n = n % 18446744073709551616 := by simp [IntKind.wrap, IntKind.bits, IntKind.signed]
  rw [e]; omega
theorem or_step (zs : List Int) (k B : Nat) (hB : byt zs k = B) (h : k ≤ 8 ∨ (k = 9 ∧ B ≤ 1)) :
    bits .or .u64 (acc zs k : Int) (IntKind.u64.wrap ((B : Int) % 128 * 2 ^ (7 * k))) = (acc zs (k + 1) : Int) := by
  have hp : (2 : Int) ^ (7 * k) = ((128 ^ k : Nat) : Int) := by rw [Int.pow_mul, Int.natCast_pow]; rfl
  have ha := acc_lt zs k
  have hx : B % 128 * 128 ^ k < 18446744073709551616 := by
    rcases h with h | ⟨rfl, h⟩
    · have h1 : 128 ^ k ≤ 128 ^ 8 := Nat.pow_le_pow_right (by decide) h
      have h2 : B % 128 * 128 ^ k ≤ 127 * 128 ^ 8 := Nat.mul_le_mul (by omega) h1
      omega
    · have h2 : B % 128 * 128 ^ 9 ≤ 1 * 128 ^ 9 := Nat.mul_le_mul (by omega) (Nat.le_refl _)
      omega
  have hk9 : 128 ^ k ≤ 128 ^ 9 := Nat.pow_le_pow_right (by decide) (by omega)
  have e1 : (B : Int) % 128 * 2 ^ (7 * k) = ((B % 128 * 128 ^ k : Nat) : Int) := by rw [hp, Int.natCast_mul]; rfl
  have e2 : IntKind.u64.wrap ((B : Int) % 128 * 2 ^ (7 * k)) = ((B % 128 * 128 ^ k : Nat) : Int) := by
    rw [e1]; exact wrap64u _ (by omega) (by omega)
  rw [e2, bits_or_comm, bits_join .u64 64 (by decide) (fun n a b => wrap64u n a (by omega)) (7 * k) _ _ (by omega) (by rw [hp, Int.natCast_mul]; exact Int.mul_emod_left _ _) (by omega) (by omega) (by rw [hp]; omega) (by omega)]
  rw [acc, hB]
  omega
abbrev Thrown (code : Int) : Ending := .panicked [{ v := .iface 47 (.int .i64 code), recovered := false }]
set_option maxRecDepth 1000000 in
set_option maxHeartbeats 400000 in
theorem check_bad (i b : Nat) (w : World) (hi : i ≤ 9) (hb : b ≤ 255) (h : (0 < i ∧ b = 0) ∨ (i = 9 ∧ 1 < b)) :
    Calls Tryz.prog 233 #[.int .i64 (i : Int), .int .u8 (b : Int)] w fun e w' => e = Thrown 11 ∧ w' = w := by
  by_cases h0 : 0 < i ∧ b = 0
  · obtain ⟨h1, rfl⟩ := h0
    have i0 : (0 : Int) < (i : Int) := by omega
    clear h hi h1
    go_enter Tryz.func233, Tryz.ntmps233
    go_wp2
    exact ⟨rfl, rfl, rfl⟩
  · obtain ⟨rfl, h1⟩ : i = 9 ∧ 1 < b := by omega
    have b0 : ((b : Int) == 0) = false := by simp; omega
    have b1 : (1 : Int) < (b : Int) := by omega
    clear h h0 hi
    go_enter Tryz.func233, Tryz.ntmps233
    go_wp2
    exact ⟨rfl, rfl, rfl⟩
set_option maxRecDepth 1000000 in
set_option maxHeartbeats 400000 in
theorem check_ok (i b : Nat) (w : World) (hi : i ≤ 9) (hb : b ≤ 255) (h : ¬ ((0 < i ∧ b = 0) ∨ (i = 9 ∧ 1 < b))) :
    Calls Tryz.prog 233 #[.int .i64 (i : Int), .int .u8 (b : Int)] w fun e w' => e = .returned (.tuple #[]) ∧ w' = w := by
  by_cases h0 : i = 0
  · subst h0
    clear h
    go_enter Tryz.func233, Tryz.ntmps233
    go_wp2
    go_end0
    exact ⟨rfl, rfl⟩
  · have i0 : (0 : Int) < (i : Int) := by omega
    have b0 : ((b : Int) == 0) = false := by simp; omega
    by_cases h9 : i = 9
    · subst h9
      have b1 : ¬ (1 : Int) < (b : Int) := by omega
      clear h h0
      go_enter Tryz.func233, Tryz.ntmps233
      go_wp2
      go_end0
      exact ⟨rfl, rfl⟩
    · have i9 : ((i : Int) == 9) = false := by simp; omega
      clear h h0 h9
      go_enter Tryz.func233, Tryz.ntmps233
      go_wp2
      go_end0
      exact ⟨rfl, rfl⟩
def VrPost (w : World) (g : Nat) (la : Option Addr) (zs : List Int) (at_ : Nat) (kd : IntKind) (V : Except Int (Nat × Nat)) (e : Ending) (w' : World) : Prop :=
  match V with
  | .error c => e = Thrown c ∧ w' = w
  | .ok (u, k) => e = .returned (.int kd (u : Int)) ∧ ∃ b' off' lc', At la b' ∧ Rd w' g (some ⟨b', off', none⟩) lc' (zs.drop k) (at_ + k) ∧ Kept (Only g) w w'
set_option maxRecDepth 1000000 in
set_option maxHeartbeats 1000000 in
theorem rvar_any (g : Nat) (la : Option Addr) (lc : Nat) (zs : List Int) (at_ : Nat) (w : World) (h : Rd w g la lc zs at_) :
    Calls Tryz.prog 227 #[.pointer (some ⟨g, 0, none⟩)] w (VrPost w g la zs at_ .u64 (vr zs)) := by
  have HR : Hid (Rd w g la lc zs at_) := h
  have hbd := h.bd
  have c0 : w.cell? ⟨g, 0, none⟩ = some (.slice la zs.length lc) := by rw [cell_of_row w g 0 _ 231 (0, 0) h.cell]; rfl
  obtain ⟨V, hV⟩ : ∃ V, V = vr zs := ⟨_, rfl⟩
  rw [← hV]
  have HV : Hid (V = vrGo zs 0 10) := hV
  clear h hV
  go_enter Tryz.func227, Tryz.ntmps227
  go_wp2
  go_loop [3, 6] (fun u i => ∃ (k : Nat) (U : Int), k ≤ 10 ∧ k ≤ zs.length ∧ i = .int .i64 (k : Int) ∧ u = .int .u64 U ∧ Hid (k ≤ 9 → U = (acc zs k : Int)) ∧ Hid (V = vrGo zs k (10 - k))) (fun _ i => 10 - (intOf i).toNat)
  case atStart => exact ⟨0, 0, by omega, by omega, rfl, rfl, fun _ => rfl, HV⟩
  case round =>
    obtain ⟨k, U, hk, hkl, rfl, rfl, HU, HK⟩ := hrel
    by_cases hlt : k < 10
    · have i1 : (k : Int) < 10 := by omega
      by_cases hcut : k < zs.length
      · have i2 : ((k : Int) == (zs.length : Int)) = false := by simp; omega
        have i3 : (k : Int) < (zs.length : Int) := by omega
        obtain ⟨b, off, rfl, hcl⟩ := HR.out.sl.bytes k hcut
        obtain ⟨B, hB⟩ : ∃ B : Nat, zs[k]?.getD 0 = (B : Int) := ⟨byt zs k, by have := HR.out.sl.u8 k; unfold byt; omega⟩
        have hB8 : B ≤ 255 := by have := HR.out.sl.u8 k; omega
        rw [hB] at hcl
        have HB : Hid (byt zs k = B) := by unfold Hid byt; rw [hB]; simp
        clear hB
        by_cases h128 : B < 128
        · have j1 : (B : Int) < 128 := by omega
          by_cases hbad : (0 < k ∧ B = 0) ∨ (k = 9 ∧ 1 < B)
          · have HE : Hid (V = .error 11) := by
              show V = _
              rw [HK.out, vr_step zs k hlt, if_neg (by omega), HB.out, if_pos h128, if_pos hbad]
            clear HV HK HU
            go_wp2_with fail
            refine (check_bad k B w (by omega) hB8 hbad).mono ?_
            rintro e w1 ⟨rfl, rfl⟩
            go_wp2
            exact ⟨rfl, by rw [HE.out]; exact ⟨rfl, rfl⟩⟩
          · have HE : Hid (V = .ok (acc zs (k + 1), k + 1)) := by
              show V = _
              rw [HK.out, vr_step zs k hlt, if_neg (by omega), HB.out, if_pos h128, if_neg hbad]
            have HS : Hid (bits .or .u64 U (IntKind.u64.wrap ((B : Int) % 128 * 2 ^ (7 * k))) = (acc zs (k + 1) : Int)) := by
              rw [Hid, HU.out (by omega)]; exact or_step zs k B HB.out (by omega)
            clear HV HK HU
            go_wp2_with fail
            refine (check_ok k B w (by omega) hB8 hbad).mono ?_
            rintro e w1 ⟨rfl, rfl⟩
            go_wp2_with fail
            refine (take_any g b off lc zs at_ (k + 1) w1 HR.out (by omega)).mono ?_
            rintro e w2 ⟨rfl, hr⟩
            have HF : Hid _ := hr
            clear hr
            go_wp2
            go_ret
            show VrPost _ _ _ _ _ _ _ _ _
            rw [HE.out]
            exact ⟨ret_int HS.out, HF.out⟩
        · have j1 : ¬ (B : Int) < 128 := by omega
          have HE : Hid (V = vrGo zs (k + 1) (10 - (k + 1))) := by
            show V = _
            rw [HK.out, vr_step zs k hlt, if_neg (by omega), HB.out, if_neg h128]
          have HS : Hid (k + 1 ≤ 9 → bits .or .u64 U (IntKind.u64.wrap ((B : Int) % 128 * 2 ^ (7 * k))) = (acc zs (k + 1) : Int)) := by
            intro h9
            rw [HU.out (by omega)]; exact or_step zs k B HB.out (by omega)
          clear HV HK HU
          go_wp2
          go_round
          case rel => exact ⟨k + 1, _, by omega, by omega, by go_num, rfl, HS, HE⟩
          case measure => simp [intOf]; omega
      · have i2 : ((k : Int) == (zs.length : Int)) = true := by simp; omega
        have HE : Hid (V = .error 10) := by
          show V = _
          rw [HK.out, vr_step zs k hlt, if_pos (by omega)]
        clear HV HK HU
        go_wp2
        exact ⟨rfl, by rw [HE.out]; exact ⟨rfl, rfl⟩⟩
    · obtain rfl : k = 10 := by omega
      have HE : Hid (V = .error 11) := HK.out
      clear HV HK HU
      go_wp2
      exact ⟨rfl, by rw [HE.out]; exact ⟨rfl, rfl⟩⟩
def Rdr (w : World) (g : Nat) : Prop := ∃ v0 v1 v2 v3, w.heap[g]? = some (.cells #[v0, v1, v2, v3] 231 (0, 0))
theorem Rd.rdr {w : World} {g : Nat} {la : Option Addr} {lc : Nat} {zs : List Int} {at_ : Nat} (h : Rd w g la lc zs at_) : Rdr w g := ⟨_, _, _, _, h.cell⟩
def RdF (w : World) (g : Nat) (place : Nat) (code : Int) : Prop := w.heap[g]? = some (.cells #[.slice none 0 0, .int .i64 0, .int .i64 (place : Int), .int .i64 code] 231 (0, 0))
def Caught (g at_ : Nat) (OK : World → World → Prop) (BAD : Int → Prop) (w : World) (e : Ending) (w' : World) : Prop :=
  e = .returned (.tuple #[]) ∧ ((∃ W, Kept No w W ∧ OK W w') ∨ ∃ c, BAD c ∧ RdF w' g at_ c ∧ Kept (Only g) w w')
def Throws (g : Nat) (OK : World → World → Prop) (BAD : Int → Prop) (w : World) (e : Ending) (w' : World) : Prop :=
  (e = .returned (.tuple #[]) ∧ OK w w') ∨ ∃ c, e = Thrown c ∧ BAD c ∧ Rdr w' g ∧ Kept (Only g) w w'
set_option maxRecDepth 1000000 in
set_option maxHeartbeats 1000000 in
theorem catch_any (F : Nat) (caps : Array Value) (hrun : ∀ W, (callFunc F caps).run Tryz.prog W = .ok (.enter F caps) W) (g : Nat) (la : Option Addr) (lc : Nat) (zs : List Int) (at_ : Nat) (OK : World → World → Prop) (BAD : Int → Prop) (w : World)
    (h : Rd w g la lc zs at_) (hcall : ∀ W, Kept No w W → Calls Tryz.prog F caps W (Throws g OK BAD W)) :
    Calls Tryz.prog 202 #[.pointer (some ⟨g, 0, none⟩), .func (Fn.func F) #[] caps] w (Caught g at_ OK BAD w) := by
  have hmf : ∀ (fn : Fn) (first cap : Array Value) (w : World), (Instr.makeFunc fn first cap).run Tryz.prog w = .ok (.func fn first cap) w := fun _ _ _ _ => rfl
  have c3 : w.cell? ⟨g, 3, none⟩ = some (.int .i64 0) := by rw [cell_of_row w g 3 _ 231 (0, 0) h.cell]; rfl
  have c1 : w.cell? ⟨g, 1, none⟩ = some (.int .i64 (at_ : Int)) := by rw [cell_of_row w g 1 _ 231 (0, 0) h.cell]; rfl
  have hg : g < w.heap.size := h.lt
  have HR : Hid (Rd w g la lc zs at_) := h
  have HC : Hid (∀ W, Kept No w W → Calls Tryz.prog F caps W (Throws g OK BAD W)) := hcall
  clear h hcall
  go_enter_defers Tryz.func202, Tryz.ntmps202
  go_wp2_with fail
  refine (HC.out _ (((Kept.refl No w).alloc _).alloc _)).mono ?_
  rintro e w1 (⟨rfl, hok⟩ | ⟨c, rfl, hbad, ⟨v0, v1, v2, v3, hrd⟩, hk⟩)
  · have HF : Hid (∃ W, Kept No w W ∧ OK W w1) := ⟨_, ((Kept.refl No w).alloc _).alloc _, hok⟩
    clear hok
    go_wp2
    refine leaves_cons (f := 226) (args := #[.pointer (some ⟨w.heap.size + 1, 0, none⟩), .pointer (some ⟨w.heap.size, 0, none⟩)]) (by simp) (by simp [go_sem]) ?_
    refine (catch_idle _ _ _).mono ?_
    rintro e u' w'' ⟨rfl, rfl, rfl⟩
    have : Caught g at_ OK BAD w (.returned (.tuple #[])) w'' := ⟨rfl, .inl HF.out⟩
    simpa [Leaves, settle, results, Tryz.results202] using this
  · have hp : w1.cell? ⟨w.heap.size + 1, 0, none⟩ = some (.int .i64 (at_ : Int)) := hk.cell (by simp) (fun e => by have e' : w.heap.size + 1 = g := e; omega)
    have hq : w1.cell? ⟨w.heap.size, 0, none⟩ = some (.pointer (some ⟨g, 0, none⟩)) := hk.cell (by simp) (fun e => by have e' : w.heap.size = g := e; omega)
    have d0 : w1.cell? ⟨g, 0, none⟩ = some v0 := by rw [cell_of_row w1 g 0 _ 231 (0, 0) hrd]; rfl
    have d1 : w1.cell? ⟨g, 1, none⟩ = some v1 := by rw [cell_of_row w1 g 1 _ 231 (0, 0) hrd]; rfl
    have d2 : w1.cell? ⟨g, 2, none⟩ = some v2 := by rw [cell_of_row w1 g 2 _ 231 (0, 0) hrd]; rfl
    have d3 : w1.cell? ⟨g, 3, none⟩ = some v3 := by rw [cell_of_row w1 g 3 _ 231 (0, 0) hrd]; rfl
    refine leaves_cons (f := 226) (args := #[.pointer (some ⟨w.heap.size + 1, 0, none⟩), .pointer (some ⟨w.heap.size, 0, none⟩)]) (by simp) (by simp [go_sem]) ?_
    refine (catch_panicking (w.heap.size + 1) w.heap.size g at_ c v0 v1 v2 v3 [] w1 hp hq d0 d1 d2 d3 (frozen_of_row w1 g 0 _ 231 hrd) (frozen_of_row w1 g 1 _ 231 hrd) (frozen_of_row w1 g 2 _ 231 hrd) (frozen_of_row w1 g 3 _ 231 hrd)).mono ?_
    rintro e u' w'' ⟨rfl, rfl, hw⟩
    have h1 := heap_setCell_same w1 g 0 _ 231 (.slice none 0 0) hrd
    have h2 := heap_setCell_same _ g 1 _ 231 (.int .i64 0) h1
    have h3 := heap_setCell_same _ g 2 _ 231 (.int .i64 (at_ : Int)) h2
    have h4 := heap_setCell_same _ g 3 _ 231 (.int .i64 c) h3
    have hK : Kept (Only g) w w'' := by
      rw [hw]
      exact (((((((Kept.refl No w).alloc _).alloc _).of_no.then hk).setCell (p := ⟨g, 0, none⟩) (fun _ => (rfl : g = g)) _).setCell (p := ⟨g, 1, none⟩) (fun _ => (rfl : g = g)) _).setCell (p := ⟨g, 2, none⟩) (fun _ => (rfl : g = g)) _).setCell (p := ⟨g, 3, none⟩) (fun _ => (rfl : g = g)) _
    have hF : RdF w'' g at_ c := by rw [hw]; unfold RdF; rw [h4]; rfl
    have : Caught g at_ OK BAD w (.returned (.tuple #[])) w'' := ⟨rfl, .inr ⟨c, hbad, hF, hK⟩⟩
    simpa [Leaves, settle, results, Tryz.results202] using this
set_option maxRecDepth 1000000 in
set_option maxHeartbeats 1000000 in
theorem catch_bad (F : Value) (g p : Nat) (c : Int) (w : World) (h : RdF w g p c) (hc : c ≠ 0) :
    Calls Tryz.prog 202 #[.pointer (some ⟨g, 0, none⟩), F] w fun e w' => e = .returned (.tuple #[]) ∧ Kept No w w' := by
  have c3 : w.cell? ⟨g, 3, none⟩ = some (.int .i64 c) := by rw [cell_of_row w g 3 _ 231 (0, 0) h]; rfl
  have hg : g < w.heap.size := (Array.getElem?_eq_some_iff.1 h).1
  have hc' : (c != 0) = true := by simpa using hc
  clear h hc
  go_enter_defers Tryz.func202, Tryz.ntmps202
  go_wp2
  have : Kept No w (w.alloc (Obj.cells #[Value.pointer (some ⟨g, 0, none⟩)] 203)) := (Kept.refl _ _).alloc _
  simpa [bodyPostD, Leaves, settle, results, Tryz.results202] using this
def nr (zs : List Int) : Except Int (Nat × Nat) :=
  match vr zs with
  | .error c => .error c
  | .ok (u, k) => if 9223372036854775807 < u then .error 11 else .ok (u, k)
def NrPost (w : World) (g : Nat) (la : Option Addr) (zs : List Int) (at_ : Nat) (V : Except Int (Nat × Nat)) (e : Ending) (w' : World) : Prop :=
  match V with
  | .error c => e = Thrown c ∧ Rdr w' g ∧ Kept (Only g) w w'
  | .ok (u, k) => e = .returned (.int .i64 (u : Int)) ∧ ∃ b' off' lc', At la b' ∧ Rd w' g (some ⟨b', off', none⟩) lc' (zs.drop k) (at_ + k) ∧ Kept (Only g) w w'
set_option maxRecDepth 1000000 in
set_option maxHeartbeats 1000000 in
theorem num_any (g : Nat) (la : Option Addr) (lc : Nat) (zs : List Int) (at_ : Nat) (w : World) (h : Rd w g la lc zs at_) :
    Calls Tryz.prog 204 #[.pointer (some ⟨g, 0, none⟩)] w (NrPost w g la zs at_ (nr zs)) := by
  have HR : Hid (Rd w g la lc zs at_) := h
  clear h
  obtain ⟨N, hN⟩ : ∃ N, N = nr zs := ⟨_, rfl⟩
  rw [← hN]
  cases hv : vr zs with
  | error c =>
    have HE : Hid (N = .error c) := by rw [Hid, hN, nr, hv]
    clear hN
    go_enter Tryz.func204, Tryz.ntmps204
    go_wp2_with fail
    refine (rvar_any g la lc zs at_ w HR.out).mono ?_
    rw [hv]
    rintro e w1 ⟨rfl, rfl⟩
    go_wp2
    exact ⟨rfl, by rw [HE.out]; exact ⟨rfl, HR.out.rdr, Kept.refl _ _⟩⟩
  | ok x =>
    obtain ⟨u, k⟩ := x
    by_cases hu : 9223372036854775807 < u
    · have HE : Hid (N = .error 11) := by rw [Hid, hN, nr, hv]; simp [hu]
      have hu' : (9223372036854775807 : Int) < (u : Int) := by omega
      clear hN hu
      go_enter Tryz.func204, Tryz.ntmps204
      go_wp2_with fail
      refine (rvar_any g la lc zs at_ w HR.out).mono ?_
      rw [hv]
      rintro e w1 ⟨rfl, b', off', lc', -, hr, hk⟩
      have HF : Hid (Rdr w1 g ∧ Kept (Only g) w w1) := ⟨hr.rdr, hk⟩
      clear hr hk hv
      go_wp2
      exact ⟨rfl, by rw [HE.out]; exact ⟨rfl, HF.out⟩⟩
    · have HE : Hid (N = .ok (u, k)) := by rw [Hid, hN, nr, hv]; simp [hu]
      have hu' : ¬ (9223372036854775807 : Int) < (u : Int) := by omega
      clear hN hu
      go_enter Tryz.func204, Tryz.ntmps204
      go_wp2_with fail
      refine (rvar_any g la lc zs at_ w HR.out).mono ?_
      rw [hv]
      rintro e w1 ⟨rfl, hr⟩
      have HF : Hid _ := hr
      clear hr hv
      go_wp2
      go_ret
      show NrPost _ _ _ _ _ _ _ _
      rw [HE.out]
      exact ⟨rfl, HF.out⟩
def unzz (u : Nat) : Int := if u % 2 = 1 then -((u / 2 : Nat) : Int) - 1 else ((u / 2 : Nat) : Int)
def cr (zs : List Int) : Except Int (Nat × Nat) :=
  match nr zs with
  | .error c => .error c
  | .ok (n, k) => if zs.length - k < n then .error 10 else .ok (n, k)
def CrPost (w : World) (g : Nat) (la : Option Addr) (zs : List Int) (at_ : Nat) (V : Except Int (Nat × Nat)) (e : Ending) (w' : World) : Prop :=
  match V with
  | .error c => e = Thrown c ∧ Rdr w' g ∧ Kept (Only g) w w'
  | .ok (n, k) => ∃ b off lc, e = .returned (.slice (some ⟨b, off, none⟩) n lc) ∧ Sl w' (some ⟨b, off, none⟩) n lc ((zs.drop k).take n) ∧ ∃ b' off' lc', At la b' ∧ Rd w' g (some ⟨b', off', none⟩) lc' (zs.drop (k + n)) (at_ + (k + n)) ∧ Kept (Only g) w w'
set_option maxRecDepth 1000000 in
set_option maxHeartbeats 1000000 in
theorem counted_any (g : Nat) (la : Option Addr) (lc : Nat) (zs : List Int) (at_ : Nat) (w : World) (h : Rd w g la lc zs at_) :
    Calls Tryz.prog 220 #[.pointer (some ⟨g, 0, none⟩)] w (CrPost w g la zs at_ (cr zs)) := by
  have HR : Hid (Rd w g la lc zs at_) := h
  clear h
  obtain ⟨N, hN⟩ : ∃ N, N = cr zs := ⟨_, rfl⟩
  rw [← hN]
  cases hv : nr zs with
  | error c =>
    have HE : Hid (N = .error c) := by rw [Hid, hN, cr, hv]
    clear hN
    go_enter Tryz.func220, Tryz.ntmps220
    go_wp2_with fail
    refine (num_any g la lc zs at_ w HR.out).mono ?_
    rw [hv]
    rintro e w1 ⟨rfl, hr, hk⟩
    have HF : Hid (Rdr w1 g ∧ Kept (Only g) w w1) := ⟨hr, hk⟩
    clear hr hk hv
    go_wp2
    exact ⟨rfl, by rw [HE.out]; exact ⟨rfl, HF.out⟩⟩
  | ok x =>
    obtain ⟨n, k⟩ := x
    by_cases hc : zs.length - k < n
    · have HE : Hid (N = .error 10) := by rw [Hid, hN, cr, hv]; simp [hc]
      clear hN
      go_enter Tryz.func220, Tryz.ntmps220
      go_wp2_with fail
      refine (num_any g la lc zs at_ w HR.out).mono ?_
      rw [hv]
      rintro e w1 ⟨rfl, b', off', lc', -, hr, hk⟩
      have c0 : w1.cell? ⟨g, 0, none⟩ = some (.slice (some ⟨b', off', none⟩) (zs.drop k).length lc') := by rw [cell_of_row w1 g 0 _ 231 (0, 0) hr.cell]; rfl
      have q1 : ((zs.drop k).length : Int) < (n : Int) := by rw [List.length_drop]; omega
      have HF : Hid (Rdr w1 g ∧ Kept (Only g) w w1) := ⟨hr.rdr, hk⟩
      clear hr hk hv hc
      generalize (zs.drop k).length = L at c0 q1
      go_wp2
      exact ⟨rfl, by rw [HE.out]; exact ⟨rfl, HF.out⟩⟩
    · have HE : Hid (N = .ok (n, k)) := by rw [Hid, hN, cr, hv]; simp [hc]
      clear hN
      go_enter Tryz.func220, Tryz.ntmps220
      go_wp2_with fail
      refine (num_any g la lc zs at_ w HR.out).mono ?_
      rw [hv]
      rintro e w1 ⟨rfl, b', off', lc', ha, hr, hk⟩
      have HA : Hid (At la b') := ha
      have HR1 : Hid (Rd w1 g (some ⟨b', off', none⟩) lc' (zs.drop k) (at_ + k)) := hr
      have HK1 : Hid (Kept (Only g) w w1) := hk
      have HN : Hid (n ≤ (zs.drop k).length) := by show _ ≤ _; rw [List.length_drop]; omega
      have c0 : w1.cell? ⟨g, 0, none⟩ = some (.slice (some ⟨b', off', none⟩) (zs.drop k).length lc') := by rw [cell_of_row w1 g 0 _ 231 (0, 0) hr.cell]; rfl
      have q1 : ¬ ((zs.drop k).length : Int) < (n : Int) := by rw [List.length_drop]; omega
      clear hr hk hv hc ha
      generalize (zs.drop k).length = L at c0 q1
      go_wp2_with fail
      refine (take_any g b' off' lc' (zs.drop k) (at_ + k) n w1 HR1.out HN.out).mono ?_
      rintro e w2 ⟨rfl, b2, off2, lc2, ha2, hr2, hk2⟩
      have HF : Hid (CrPost w g la zs at_ N (.returned (.slice (some ⟨b', off', none⟩) n lc')) w2) := by
        rw [HE.out]
        refine ⟨b', off', lc', rfl, ?_, b2, off2, lc2, ?_, ?_, HK1.out.then hk2⟩
        · have hs := HR1.out.sl
          have hN' := HN.out
          have hcap := hs.le
          refine ⟨by rw [List.length_take]; omega, (hs.bytes.take n).kept2 hk2 (fun h0 i hi e => HR1.out.ne (by rw [List.length_take] at h0; omega) hi e), hs.u8.take n, by omega, hs.cm, by have := hs.bd; omega, fun e => by cases e⟩
        · obtain ⟨ad, e, rfl⟩ := ha2; cases e; exact HA.out
        · rw [← List.drop_drop, ← Nat.add_assoc]; exact hr2
      clear hr2 hk2 ha2
      go_wp2
      go_ret
      exact HF.out
set_option maxRecDepth 1000000 in
set_option maxHeartbeats 400000 in
theorem More_ok (g : Nat) (la : Option Addr) (lc : Nat) (zs : List Int) (at_ : Nat) (w : World) (h : Rd w g la lc zs at_) :
    Calls Tryz.prog 225 #[.pointer (some ⟨g, 0, none⟩)] w fun e w' => e = .returned (.bool (decide (0 < zs.length))) ∧ w' = w := by
  have c0 : w.cell? ⟨g, 0, none⟩ = some (.slice la zs.length lc) := by rw [cell_of_row w g 0 _ 231 (0, 0) h.cell]; rfl
  clear h
  go_enter Tryz.func225, Tryz.ntmps225
  go_wp2
  go_ret
  exact ⟨ret_bool (by rw [Bool.eq_iff_iff]), rfl⟩
set_option maxRecDepth 1000000 in
set_option maxHeartbeats 400000 in
theorem Err_any (g : Nat) (v0 v1 : Value) (p c : Int) (w : World) (h : w.heap[g]? = some (.cells #[v0, v1, .int .i64 p, .int .i64 c] 231 (0, 0))) :
    Calls Tryz.prog 201 #[.pointer (some ⟨g, 0, none⟩)] w fun e w' => e = .returned (.tuple #[.int .i64 p, .int .i64 c]) ∧ ∃ n, w' = w.drewN n := by
  have c2 : w.cell? ⟨g, 2, none⟩ = some (.int .i64 p) := by rw [cell_of_row w g 2 _ 231 (0, 0) h]; rfl
  have c3 : w.cell? ⟨g, 3, none⟩ = some (.int .i64 c) := by rw [cell_of_row w g 3 _ 231 (0, 0) h]; rfl
  clear h
  go_enter Tryz.func201, Tryz.ntmps201
  go_wp2
  go_quiet (fail)
  go_wp2
  go_ret2
  exact ⟨rfl, _, rfl⟩
theorem Rd.kept {S : Nat → Prop} {w w' : World} {g : Nat} {la : Option Addr} {lc : Nat} {zs : List Int} {at_ : Nat} (h : Rd w g la lc zs at_) (hk : Kept S w w') (hg : ¬ S g) (hS : 0 < zs.length → ∀ k, At la k → ¬ S k) : Rd w' g la lc zs at_ :=
  ⟨(hk.block g h.lt hg).trans h.cell, h.sl.kept2 hk hS, h.bd⟩
theorem Sl.ne {w : World} {a : Option Addr} {m c : Nat} {zs : List Int} (h : Sl w a m c zs) (h0 : 0 < zs.length) {k : Nat} (hk : At a k) {N : Nat} {v : Value} {t : TypeId} {fr : Nat × Nat} (hN : w.heap[N]? = some (.cells #[v] t fr)) (hv : ∀ z, v ≠ .int .u8 z) : k ≠ N := by
  rintro rfl
  obtain ⟨b, off, rfl, hc⟩ := h.bytes 0 h0
  obtain ⟨ad, e, e2⟩ := hk
  cases e
  simp only at e2
  subst e2
  rw [cell_of_row w b (off + 0) _ t fr hN] at hc
  match off, hc with
  | 0, hc => simp at hc; exact hv _ hc
  | n + 1, hc => simp at hc
def Two (g N : Nat) : Nat → Prop := fun k => k = g ∨ k = N
theorem Rd.laid {W w1 : World} {g N : Nat} {la : Option Addr} {lc : Nat} {zs : List Int} {at_ : Nat} {v v' : Value} {t : TypeId} (h : Rd w1 g la lc zs at_) (hk : Kept (Only g) W w1) (hN : w1.heap[N]? = some (.cells #[v] t (0, 0))) (hne : N ≠ g) (hv : ∀ z, v ≠ .int .u8 z) :
    Rd (w1.setCell ⟨N, 0, none⟩ v') g la lc zs at_ ∧ (w1.setCell ⟨N, 0, none⟩ v').heap[N]? = some (.cells #[v'] t (0, 0)) ∧ Kept (Two g N) W (w1.setCell ⟨N, 0, none⟩ v') := by
  have hK : Kept (Only N) w1 (w1.setCell ⟨N, 0, none⟩ v') := (Kept.refl (Only N) w1).setCell (p := ⟨N, 0, none⟩) (fun _ => (rfl : N = N)) _
  refine ⟨h.kept hK (fun e => hne (e : g = N).symm) (fun h0 k hk e => h.sl.ne h0 hk hN hv e), ?_, ?_⟩
  · rw [heap_setCell_same w1 N 0 _ t v' hN]; rfl
  · exact (hk.mono (fun i _ e => .inl e)).setCell (p := ⟨N, 0, none⟩) (fun _ => .inr rfl) _
def Laid (g N : Nat) (t : TypeId) (la : Option Addr) (zs : List Int) (at_ k : Nat) (v : Value) (W w' : World) : Prop :=
  w'.heap[N]? = some (.cells #[v] t (0, 0)) ∧ (∃ b' off' lc', At la b' ∧ Rd w' g (some ⟨b', off', none⟩) lc' (zs.drop k) (at_ + k)) ∧ Kept (Two g N) W w'
set_option maxRecDepth 1000000 in
set_option maxHeartbeats 1000000 in
theorem num1_any (A N g : Nat) (la : Option Addr) (lc : Nat) (zs : List Int) (at_ : Nat) (W : World) (h : Rd W g la lc zs at_) (hA : W.cell? ⟨A, 0, none⟩ = some (.pointer (some ⟨g, 0, none⟩))) (hN : W.heap[N]? = some (.cells #[.int .i64 0] 3 (0, 0))) (hne : N ≠ g) :
    Calls Tryz.prog 203 #[.pointer (some ⟨A, 0, none⟩), .pointer (some ⟨N, 0, none⟩)] W (Throws g (fun W w' => ∃ u k, nr zs = .ok (u, k) ∧ Laid g N 3 la zs at_ k (.int .i64 (u : Int)) W w') (fun c => nr zs = .error c) W) := by
  have HR : Hid (Rd W g la lc zs at_) := h
  have HN : Hid (W.heap[N]? = some (.cells #[.int .i64 0] 3 (0, 0))) := hN
  clear h hN
  cases hv : nr zs with
  | error c =>
    go_enter Tryz.func203, Tryz.ntmps203
    go_wp2_with fail
    refine (num_any g la lc zs at_ W HR.out).mono ?_
    rw [hv]
    rintro e w1 ⟨rfl, hr, hk⟩
    have HF : Hid (Rdr w1 g ∧ Kept (Only g) W w1) := ⟨hr, hk⟩
    clear hr hk hv
    go_wp2
    exact ⟨rfl, .inr ⟨c, rfl, rfl, HF.out⟩⟩
  | ok x =>
    obtain ⟨u, k⟩ := x
    go_enter Tryz.func203, Tryz.ntmps203
    go_wp2_with fail
    refine (num_any g la lc zs at_ W HR.out).mono ?_
    rw [hv]
    rintro e w1 ⟨rfl, b', off', lc', ha, hr, hk⟩
    have HN1 : Hid (w1.heap[N]? = some (.cells #[.int .i64 0] 3 (0, 0))) := (hk.block N (Array.getElem?_eq_some_iff.1 HN.out).1 (fun e => hne e)).trans HN.out
    have cN : w1.cell? ⟨N, 0, none⟩ = some (.int .i64 0) := by rw [cell_of_row w1 N 0 _ 3 (0, 0) HN1.out]; rfl
    have fN := frozen_of_row w1 N 0 _ 3 HN1.out
    have HL : Hid _ := Rd.laid (v' := .int .i64 (u : Int)) hr hk HN1.out hne (fun z e => by cases e)
    have HA : Hid (At la b') := ha
    clear hr hk hv ha
    go_wp2
    go_end0
    exact .inl ⟨rfl, u, k, rfl, HL.out.2.1, ⟨b', off', lc', HA.out, HL.out.1⟩, HL.out.2.2⟩
theorem run53 (caps : Array Value) (W : World) : (callFunc 203 caps).run Tryz.prog W = .ok (.enter 203 caps) W := by kernel_rfl
theorem vr_64 {zs : List Int} {u k : Nat} (h : vr zs = .ok (u, k)) : W64 u ∧ 1 ≤ k ∧ k ≤ 10 ∧ k ≤ zs.length := by
  suffices H : ∀ f i, i + f = 10 → vrGo zs i f = .ok (u, k) → W64 u ∧ 1 ≤ k ∧ k ≤ 10 ∧ k ≤ zs.length from H 10 0 rfl h
  intro f
  induction f with
  | zero => intro i _ h; simp [vrGo] at h
  | succ f ih =>
    intro i hi h
    rw [vrGo] at h
    split at h
    · cases h
    · split at h
      · split at h
        · cases h
        · rename_i h1 h2 h3
          simp only [Except.ok.injEq, Prod.mk.injEq] at h
          obtain ⟨rfl, rfl⟩ := h
          refine ⟨?_, by omega, by omega, by omega⟩
          unfold W64
          rw [acc]
          have ha := acc_lt zs i
          by_cases h9 : i = 9
          · subst h9
            have : byt zs 9 % 128 * 128 ^ 9 ≤ 1 * 128 ^ 9 := Nat.mul_le_mul (by omega) (Nat.le_refl _)
            omega
          · have h8 : 128 ^ i ≤ 128 ^ 8 := Nat.pow_le_pow_right (by decide) (by omega)
            have : byt zs i % 128 * 128 ^ i ≤ 127 * 128 ^ 8 := Nat.mul_le_mul (by omega) h8
            omega
      · exact ih (i + 1) (by omega) h
theorem nr_bd {zs : List Int} {u k : Nat} (h : nr zs = .ok (u, k)) : u ≤ 9223372036854775807 ∧ 1 ≤ k ∧ k ≤ 10 ∧ k ≤ zs.length ∧ vr zs = .ok (u, k) := by
  unfold nr at h
  split at h
  · cases h
  · rename_i u' k' hv
    split at h
    · cases h
    · simp only [Except.ok.injEq, Prod.mk.injEq] at h
      obtain ⟨rfl, rfl⟩ := h
      have := vr_64 hv
      exact ⟨by omega, this.2.1, this.2.2.1, this.2.2.2, hv⟩
theorem cr_bd {zs : List Int} {n k : Nat} (h : cr zs = .ok (n, k)) : 1 ≤ k ∧ k ≤ 10 ∧ k + n ≤ zs.length ∧ nr zs = .ok (n, k) := by
  unfold cr at h
  split at h
  · cases h
  · rename_i u' k' hv
    split at h
    · cases h
    · simp only [Except.ok.injEq, Prod.mk.injEq] at h
      obtain ⟨rfl, rfl⟩ := h
      have := nr_bd hv
      exact ⟨this.2.1, this.2.2.1, by omega, hv⟩
set_option maxRecDepth 1000000 in
set_option maxHeartbeats 1000000 in
theorem text1_any (A N g : Nat) (la : Option Addr) (lc : Nat) (zs : List Int) (at_ : Nat) (W : World) (h : Rd W g la lc zs at_) (hA : W.cell? ⟨A, 0, none⟩ = some (.pointer (some ⟨g, 0, none⟩))) (hN : W.heap[N]? = some (.cells #[.string ByteArray.empty] 9 (0, 0))) (hne : N ≠ g) :
    Calls Tryz.prog 223 #[.pointer (some ⟨A, 0, none⟩), .pointer (some ⟨N, 0, none⟩)] W (Throws g (fun W w' => ∃ n k, cr zs = .ok (n, k) ∧ Laid g N 9 la zs at_ (k + n) (.string (strOf ((zs.drop k).take n))) W w') (fun c => cr zs = .error c) W) := by
  have HR : Hid (Rd W g la lc zs at_) := h
  have HN : Hid (W.heap[N]? = some (.cells #[.string ByteArray.empty] 9 (0, 0))) := hN
  clear h hN
  cases hv : cr zs with
  | error c =>
    go_enter Tryz.func223, Tryz.ntmps223
    go_wp2_with fail
    refine (counted_any g la lc zs at_ W HR.out).mono ?_
    rw [hv]
    rintro e w1 ⟨rfl, hr, hk⟩
    have HF : Hid (Rdr w1 g ∧ Kept (Only g) W w1) := ⟨hr, hk⟩
    clear hr hk hv
    go_wp2
    exact ⟨rfl, .inr ⟨c, rfl, rfl, HF.out⟩⟩
  | ok x =>
    obtain ⟨n, k⟩ := x
    go_enter Tryz.func223, Tryz.ntmps223
    go_wp2_with fail
    refine (counted_any g la lc zs at_ W HR.out).mono ?_
    rw [hv]
    rintro e w1 ⟨b, off, lc1, rfl, hs, b', off', lc', ha, hr, hk⟩
    have HN1 : Hid (w1.heap[N]? = some (.cells #[.string ByteArray.empty] 9 (0, 0))) := (hk.block N (Array.getElem?_eq_some_iff.1 HN.out).1 (fun e => hne e)).trans HN.out
    have cN : w1.cell? ⟨N, 0, none⟩ = some (.string ByteArray.empty) := by rw [cell_of_row w1 N 0 _ 9 (0, 0) HN1.out]; rfl
    have fN := frozen_of_row w1 N 0 _ 9 HN1.out
    have hcv := run_str (xc := lc1) hs.bytes hs.u8 hs.len
    obtain ⟨S, hS⟩ : ∃ S, S = strOf ((zs.drop k).take n) := ⟨_, rfl⟩
    rw [← hS] at hcv
    have HSe : Hid (S = strOf ((zs.drop k).take n)) := hS
    have HL : Hid _ := Rd.laid (v' := .string S) hr hk HN1.out hne (fun z e => by cases e)
    have HA : Hid (At la b') := ha
    clear hr hk hv ha hs hS
    go_wp2
    go_end0
    exact .inl ⟨rfl, n, k, rfl, by rw [← HSe.out]; exact ⟨HL.out.2.1, ⟨b', off', lc', HA.out, HL.out.1⟩, HL.out.2.2⟩⟩
set_option maxRecDepth 1000000 in
set_option maxHeartbeats 1000000 in
theorem bytes1_any (A N g : Nat) (la : Option Addr) (lc : Nat) (zs : List Int) (at_ : Nat) (W : World) (h : Rd W g la lc zs at_) (hA : W.cell? ⟨A, 0, none⟩ = some (.pointer (some ⟨g, 0, none⟩))) (hN : W.heap[N]? = some (.cells #[.slice none 0 0] 35 (0, 0))) (hne : N ≠ g) :
    Calls Tryz.prog 219 #[.pointer (some ⟨A, 0, none⟩), .pointer (some ⟨N, 0, none⟩)] W (Throws g (fun W w' => ∃ n k, cr zs = .ok (n, k) ∧ ∃ a' c', Laid g N 35 la zs at_ (k + n) (.slice a' n c') W w' ∧ OwnS w' W.heap.size a' c' ((zs.drop k).take n)) (fun c => cr zs = .error c) W) := by
  have HR : Hid (Rd W g la lc zs at_) := h
  have HN : Hid (W.heap[N]? = some (.cells #[.slice none 0 0] 35 (0, 0))) := hN
  clear h hN
  cases hv : cr zs with
  | error c =>
    go_enter Tryz.func219, Tryz.ntmps219
    go_wp2_with fail
    refine (counted_any g la lc zs at_ W HR.out).mono ?_
    rw [hv]
    rintro e w1 ⟨rfl, hr, hk⟩
    have HF : Hid (Rdr w1 g ∧ Kept (Only g) W w1) := ⟨hr, hk⟩
    clear hr hk hv
    go_wp2
    exact ⟨rfl, .inr ⟨c, rfl, rfl, HF.out⟩⟩
  | ok x =>
    obtain ⟨n, k⟩ := x
    have hn : n ≤ 140737488355328 := by have h1 := (cr_bd hv).2.2.1; have h2 := HR.out.bd; omega
    go_enter Tryz.func219, Tryz.ntmps219
    go_wp2_with fail
    refine (counted_any g la lc zs at_ W HR.out).mono ?_
    rw [hv]
    rintro e w1 ⟨b, off, lc1, rfl, hs, b', off', lc', ha, hr, hk⟩
    have HS : Hid (Sl w1 (some ⟨b, off, none⟩) n lc1 ((zs.drop k).take n)) := hs
    have HR1 : Hid (Rd w1 g (some ⟨b', off', none⟩) lc' (zs.drop (k + n)) (at_ + (k + n))) := hr
    have HK1 : Hid (Kept (Only g) W w1) := hk
    have HA : Hid (At la b') := ha
    clear hr hk hv ha hs
    go_wp2_with fail
    refine (clone_any _ _ _ ((zs.drop k).take n) w1 HS.out.len HS.out.bytes (fun e => by cases e) hn).mono ?_
    rintro e w2 ⟨a2, c2, rfl, hO2, hK2, -⟩
    have HN2 : Hid (w2.heap[N]? = some (.cells #[.slice none 0 0] 35 (0, 0))) := (hK2.block N (by have h1 := (Array.getElem?_eq_some_iff.1 HN.out).1; have h2 := HK1.out.size; omega) (fun e => e)).trans ((HK1.out.block N (Array.getElem?_eq_some_iff.1 HN.out).1 (fun e => hne e)).trans HN.out)
    have cN : w2.cell? ⟨N, 0, none⟩ = some (.slice none 0 0) := by rw [cell_of_row w2 N 0 _ 35 (0, 0) HN2.out]; rfl
    have fN := frozen_of_row w2 N 0 _ 35 HN2.out
    have HL : Hid _ := Rd.laid (v' := .slice a2 n c2) (HR1.out.no hK2) (HK1.out.then hK2.of_no) HN2.out hne (fun z e => by cases e)
    have HO : Hid (OwnS (w2.setCell ⟨N, 0, none⟩ (.slice a2 n c2)) W.heap.size a2 c2 ((zs.drop k).take n)) :=
      (hO2.kept ((Kept.refl (Only N) w2).setCell (p := ⟨N, 0, none⟩) (fun _ => (rfl : N = N)) _) (fun i hi e => by have e' : i = N := e; have h1 := hO2.base hi; have h2 := (Array.getElem?_eq_some_iff.1 HN.out).1; have h3 := HK1.out.size; omega)).lower HK1.out.size
    clear hO2 hK2
    go_wp2
    go_end0
    exact .inl ⟨rfl, n, k, rfl, a2, c2, ⟨HL.out.2.1, ⟨b', off', lc', HA.out, HL.out.1⟩, HL.out.2.2⟩, HO.out⟩
set_option maxRecDepth 1000000 in
set_option maxHeartbeats 1000000 in
theorem end1_any (A g : Nat) (la : Option Addr) (lc : Nat) (zs : List Int) (at_ : Nat) (W : World) (h : Rd W g la lc zs at_) (hA : W.cell? ⟨A, 0, none⟩ = some (.pointer (some ⟨g, 0, none⟩))) :
    Calls Tryz.prog 224 #[.pointer (some ⟨A, 0, none⟩)] W (Throws g (fun W w' => zs = [] ∧ w' = W) (fun c => c = 11 ∧ zs ≠ []) W) := by
  have HR : Hid (Rd W g la lc zs at_) := h
  clear h
  by_cases h0 : zs = []
  · have HZ : Hid (zs = []) := h0
    have hd : decide (0 < zs.length) = false := by simp [h0]
    clear h0
    go_enter Tryz.func224, Tryz.ntmps224
    go_wp2_with fail
    refine (More_ok g la lc zs at_ W HR.out).mono ?_
    rw [hd]
    rintro e w1 ⟨rfl, rfl⟩
    go_wp2
    go_end0
    exact .inl ⟨rfl, HZ.out, rfl⟩
  · have HZ : Hid (zs ≠ []) := h0
    have hd : decide (0 < zs.length) = true := by simp; exact List.length_pos_iff.2 h0
    clear h0
    go_enter Tryz.func224, Tryz.ntmps224
    go_wp2_with fail
    refine (More_ok g la lc zs at_ W HR.out).mono ?_
    rw [hd]
    rintro e w1 ⟨rfl, rfl⟩
    go_wp2
    exact ⟨rfl, .inr ⟨11, rfl, ⟨rfl, HZ.out⟩, HR.out.rdr, Kept.refl _ _⟩⟩
theorem run60 (caps : Array Value) (W : World) : (callFunc 219 caps).run Tryz.prog W = .ok (.enter 219 caps) W := by kernel_rfl
theorem run62 (caps : Array Value) (W : World) : (callFunc 223 caps).run Tryz.prog W = .ok (.enter 223 caps) W := by kernel_rfl
theorem run48 (caps : Array Value) (W : World) : (callFunc 224 caps).run Tryz.prog W = .ok (.enter 224 caps) W := by kernel_rfl
inductive RS where
  | ok (zs : List Int) (at_ : Nat)
  | bad (p : Nat) (c : Int)
def Rs (w : World) (g lb : Nat) : RS → Prop
  | .ok zs at_ => ∃ la lc, Rd w g la lc zs at_ ∧ ∀ k, At la k → k = lb
  | .bad p c => RdF w g p c ∧ c ≠ 0
theorem Rs.lt {w : World} {g lb : Nat} {st : RS} (h : Rs w g lb st) : g < w.heap.size := by
  cases st with
  | ok zs at_ => obtain ⟨la, lc, hr, _⟩ := h; exact hr.lt
  | bad p c => exact (Array.getElem?_eq_some_iff.1 h.1).1
theorem Rs.kept {S : Nat → Prop} {w w' : World} {g lb : Nat} {st : RS} (h : Rs w g lb st) (hk : Kept S w w') (hg : ¬ S g) (hl : ¬ S lb) : Rs w' g lb st := by
  cases st with
  | ok zs at_ => obtain ⟨la, lc, hr, hb⟩ := h; exact ⟨la, lc, hr.kept hk hg (fun _ k hk e => by rw [hb k hk] at e; exact hl e), hb⟩
  | bad p c => exact ⟨(hk.block g (Array.getElem?_eq_some_iff.1 h.1).1 hg).trans h.1, h.2⟩
theorem Rs.no {w w' : World} {g lb : Nat} {st : RS} (h : Rs w g lb st) (hk : Kept No w w') : Rs w' g lb st := h.kept hk (fun e => e) (fun e => e)
def numS : RS → RS × Int
  | .ok zs at_ => match nr zs with
    | .error c => (.bad at_ c, 0)
    | .ok (u, k) => (.ok (zs.drop k) (at_ + k), (u : Int))
  | .bad p c => (.bad p c, 0)
def intS : RS → RS × Int
  | .ok zs at_ => match vr zs with
    | .error c => (.bad at_ c, 0)
    | .ok (u, k) => (.ok (zs.drop k) (at_ + k), unzz u)
  | .bad p c => (.bad p c, 0)
def bytesS : RS → RS × List Int
  | .ok zs at_ => match cr zs with
    | .error c => (.bad at_ c, [])
    | .ok (n, k) => (.ok (zs.drop (k + n)) (at_ + (k + n)), (zs.drop k).take n)
  | .bad p c => (.bad p c, [])
def endS : RS → RS
  | .ok zs at_ => if zs = [] then .ok zs at_ else .bad at_ 11
  | .bad p c => .bad p c
def moreS : RS → Bool
  | .ok zs _ => decide (0 < zs.length)
  | .bad _ _ => false
def errS : RS → Int × Int
  | .ok _ _ => (0, 0)
  | .bad p c => (p, c)
theorem vr_code {zs : List Int} {c : Int} (h : vr zs = .error c) : c = 10 ∨ c = 11 := by
  suffices H : ∀ f i, vrGo zs i f = .error c → c = 10 ∨ c = 11 from H 10 0 h
  intro f
  induction f with
  | zero => intro i h; simp [vrGo] at h; omega
  | succ f ih =>
    intro i h
    rw [vrGo] at h
    split at h
    · simp at h; omega
    · split at h
      · split at h
        · simp at h; omega
        · cases h
      · exact ih (i + 1) h
theorem nr_code {zs : List Int} {c : Int} (h : nr zs = .error c) : c = 10 ∨ c = 11 := by
  unfold nr at h
  split at h
  · rename_i c' hv; simp at h; subst h; exact vr_code hv
  · split at h
    · simp at h; omega
    · cases h
theorem cr_code {zs : List Int} {c : Int} (h : cr zs = .error c) : c = 10 ∨ c = 11 := by
  unfold cr at h
  split at h
  · rename_i c' hv; simp at h; subst h; exact nr_code hv
  · split at h
    · simp at h; omega
    · cases h
theorem heap_new (w : World) (o : Obj) : (w.alloc o).heap[w.heap.size]? = some o := by
  show (w.heap.push o)[w.heap.size]? = some o
  simp
theorem heap_new1 (w : World) (o o' : Obj) : ((w.alloc o).alloc o').heap[w.heap.size + 1]? = some o' := by
  have := heap_new (w.alloc o) o'
  rwa [World.heap_size_alloc1] at this
set_option maxRecDepth 1000000 in
set_option maxHeartbeats 2000000 in
theorem Num_all (g lb : Nat) (st : RS) (w : World) (h : Rs w g lb st) :
    Calls Tryz.prog 160 #[.pointer (some ⟨g, 0, none⟩)] w fun e w' => e = .returned (.int .i64 (numS st).2) ∧ Rs w' g lb (numS st).1 ∧ Kept (Only g) w w' := by
  have hmf : ∀ (fn : Fn) (first cap : Array Value) (w : World), (Instr.makeFunc fn first cap).run Tryz.prog w = .ok (.func fn first cap) w := fun _ _ _ _ => rfl
  have hglt := h.lt
  have HK0 : Hid (Kept No w ((w.alloc (Obj.cells #[.pointer (some ⟨g, 0, none⟩)] 203)).alloc (Obj.cells #[.int .i64 0] 3))) := ((Kept.refl _ _).alloc _).alloc _
  have HN0 : Hid (((w.alloc (Obj.cells #[.pointer (some ⟨g, 0, none⟩)] 203)).alloc (Obj.cells #[.int .i64 0] 3)).heap[w.heap.size + 1]? = some (.cells #[.int .i64 0] 3 (0, 0))) := heap_new1 _ _ _
  have HA0 : Hid (((w.alloc (Obj.cells #[.pointer (some ⟨g, 0, none⟩)] 203)).alloc (Obj.cells #[.int .i64 0] 3)).cell? ⟨w.heap.size, 0, none⟩ = some (.pointer (some ⟨g, 0, none⟩))) := by simp [Hid]
  cases st with
  | bad p c =>
    have HF : Hid (RdF w g p c) := h.1
    have HC : Hid (c ≠ 0) := h.2
    clear h
    go_enter Tryz.func160, Tryz.ntmps160
    go_wp2_with fail
    refine (catch_bad _ g p c _ ((HK0.out.block g hglt (fun e => e)).trans HF.out) HC.out).mono ?_
    rintro e w1 ⟨rfl, hk⟩
    have cN : w1.cell? ⟨w.heap.size + 1, 0, none⟩ = some (.int .i64 0) := hk.cell (by simp) (fun e => e)
    have HK1 : Hid (Kept No w w1) := HK0.out.then hk
    clear hk
    go_wp2
    go_ret
    exact ⟨rfl, ⟨(HK1.out.block g hglt (fun e => e)).trans HF.out, HC.out⟩, HK1.out.of_no⟩
  | ok zs at_ =>
    obtain ⟨la, lc, hr, hb⟩ := h
    have HR : Hid (Rd w g la lc zs at_) := hr
    have HB : Hid (∀ k, At la k → k = lb) := hb
    clear hr hb
    go_enter Tryz.func160, Tryz.ntmps160
    go_wp2_with fail
    refine (catch_any 203 _ (run53 _) g la lc zs at_ (fun W w' => ∃ u k, nr zs = .ok (u, k) ∧ Laid g (w.heap.size + 1) 3 la zs at_ k (.int .i64 (u : Int)) W w') (fun c => nr zs = .error c) _ (HR.out.no HK0.out) (fun W hk => num1_any w.heap.size (w.heap.size + 1) g la lc zs at_ W ((HR.out.no HK0.out).no hk) (hk.cell HA0.out (fun e => e)) ((hk.block _ (Array.getElem?_eq_some_iff.1 HN0.out).1 (fun e => e)).trans HN0.out) (by omega))).mono ?_
    rintro e w1 ⟨rfl, hcase⟩
    rcases hcase with ⟨W, hW, hok⟩ | ⟨c, hbad, hF, hk⟩
    · obtain ⟨u, k, hv, hlaid⟩ := hok
      have cN : w1.cell? ⟨w.heap.size + 1, 0, none⟩ = some (.int .i64 (u : Int)) := by rw [cell_of_row w1 (w.heap.size + 1) 0 _ 3 (0, 0) hlaid.1]; rfl
      have HK1 : Hid (Kept (Only g) w w1) := (HK0.out.then hW).of_no.trans hlaid.2.2 (fun _ e => e) (fun i hi e => by
        rcases e with e | e
        · exact e
        · omega)
      have HP : Hid (Rs w1 g lb (numS (.ok zs at_)).1 ∧ (numS (.ok zs at_)).2 = (u : Int)) := by
        obtain ⟨b', off', lc', ha, hr⟩ := hlaid.2.1
        have e : numS (.ok zs at_) = (.ok (zs.drop k) (at_ + k), (u : Int)) := by simp only [numS, hv]
        rw [e]
        exact ⟨⟨_, _, hr, fun i hi => by obtain ⟨ad, e1, rfl⟩ := hi; cases e1; exact HB.out _ ha⟩, rfl⟩
      clear hW hlaid hv
      go_wp2
      go_ret
      exact ⟨ret_int HP.out.2.symm, HP.out.1, HK1.out⟩
    · have cN : w1.cell? ⟨w.heap.size + 1, 0, none⟩ = some (.int .i64 0) := hk.cell (by simp) (fun e => by have e' : w.heap.size + 1 = g := e; omega)
      have HK1 : Hid (Kept (Only g) w w1) := HK0.out.of_no.then hk
      have HP : Hid (Rs w1 g lb (numS (.ok zs at_)).1 ∧ numS (.ok zs at_) = (.bad at_ c, 0)) := by
        have e : numS (.ok zs at_) = (.bad at_ c, 0) := by simp only [numS, hbad]
        rw [e]
        exact ⟨⟨hF, by have := nr_code hbad; omega⟩, rfl⟩
      clear hbad hF hk
      go_wp2
      go_ret
      exact ⟨ret_int (by rw [HP.out.2]), HP.out.1, HK1.out⟩
set_option maxRecDepth 1000000 in
set_option maxHeartbeats 2000000 in
theorem Text_all (g lb : Nat) (st : RS) (w : World) (h : Rs w g lb st) :
    Calls Tryz.prog 194 #[.pointer (some ⟨g, 0, none⟩)] w fun e w' => e = .returned (.string (strOf (bytesS st).2)) ∧ Rs w' g lb (bytesS st).1 ∧ Kept (Only g) w w' := by
  have hmf : ∀ (fn : Fn) (first cap : Array Value) (w : World), (Instr.makeFunc fn first cap).run Tryz.prog w = .ok (.func fn first cap) w := fun _ _ _ _ => rfl
  have hglt := h.lt
  have HK0 : Hid (Kept No w ((w.alloc (Obj.cells #[.pointer (some ⟨g, 0, none⟩)] 203)).alloc (Obj.cells #[.string ByteArray.empty] 9))) := ((Kept.refl _ _).alloc _).alloc _
  have HN0 : Hid (((w.alloc (Obj.cells #[.pointer (some ⟨g, 0, none⟩)] 203)).alloc (Obj.cells #[.string ByteArray.empty] 9)).heap[w.heap.size + 1]? = some (.cells #[.string ByteArray.empty] 9 (0, 0))) := heap_new1 _ _ _
  have HA0 : Hid (((w.alloc (Obj.cells #[.pointer (some ⟨g, 0, none⟩)] 203)).alloc (Obj.cells #[.string ByteArray.empty] 9)).cell? ⟨w.heap.size, 0, none⟩ = some (.pointer (some ⟨g, 0, none⟩))) := by simp [Hid]
  cases st with
  | bad p c =>
    have HF : Hid (RdF w g p c) := h.1
    have HC : Hid (c ≠ 0) := h.2
    clear h
    go_enter Tryz.func194, Tryz.ntmps194
    go_wp2_with fail
    refine (catch_bad _ g p c _ ((HK0.out.block g hglt (fun e => e)).trans HF.out) HC.out).mono ?_
    rintro e w1 ⟨rfl, hk⟩
    have cN : w1.cell? ⟨w.heap.size + 1, 0, none⟩ = some (.string ByteArray.empty) := hk.cell (by simp) (fun e => e)
    have HK1 : Hid (Kept No w w1) := HK0.out.then hk
    clear hk
    go_wp2
    go_ret
    exact ⟨rfl, ⟨(HK1.out.block g hglt (fun e => e)).trans HF.out, HC.out⟩, HK1.out.of_no⟩
  | ok zs at_ =>
    obtain ⟨la, lc, hr, hb⟩ := h
    have HR : Hid (Rd w g la lc zs at_) := hr
    have HB : Hid (∀ k, At la k → k = lb) := hb
    clear hr hb
    go_enter Tryz.func194, Tryz.ntmps194
    go_wp2_with fail
    refine (catch_any 223 _ (run62 _) g la lc zs at_ (fun W w' => ∃ n k, cr zs = .ok (n, k) ∧ Laid g (w.heap.size + 1) 9 la zs at_ (k + n) (.string (strOf ((zs.drop k).take n))) W w') (fun c => cr zs = .error c) _ (HR.out.no HK0.out) (fun W hk => text1_any w.heap.size (w.heap.size + 1) g la lc zs at_ W ((HR.out.no HK0.out).no hk) (hk.cell HA0.out (fun e => e)) ((hk.block _ (Array.getElem?_eq_some_iff.1 HN0.out).1 (fun e => e)).trans HN0.out) (by omega))).mono ?_
    rintro e w1 ⟨rfl, hcase⟩
    rcases hcase with ⟨W, hW, hok⟩ | ⟨c, hbad, hF, hk⟩
    · obtain ⟨n, k, hv, hlaid⟩ := hok
      have cN : w1.cell? ⟨w.heap.size + 1, 0, none⟩ = some (.string (strOf ((zs.drop k).take n))) := by rw [cell_of_row w1 (w.heap.size + 1) 0 _ 9 (0, 0) hlaid.1]; rfl
      have HK1 : Hid (Kept (Only g) w w1) := (HK0.out.then hW).of_no.trans hlaid.2.2 (fun _ e => e) (fun i hi e => by
        rcases e with e | e
        · exact e
        · omega)
      have HP : Hid (Rs w1 g lb (bytesS (.ok zs at_)).1 ∧ (bytesS (.ok zs at_)).2 = (zs.drop k).take n) := by
        obtain ⟨b', off', lc', ha, hr⟩ := hlaid.2.1
        have e : bytesS (.ok zs at_) = (.ok (zs.drop (k + n)) (at_ + (k + n)), (zs.drop k).take n) := by simp only [bytesS, hv]
        rw [e]
        exact ⟨⟨_, _, hr, fun i hi => by obtain ⟨ad, e1, rfl⟩ := hi; cases e1; exact HB.out _ ha⟩, rfl⟩
      clear hW hlaid hv
      generalize (zs.drop k).take n = L at cN HP
      go_wp2
      go_ret
      exact ⟨by rw [HP.out.2]; rfl, HP.out.1, HK1.out⟩
    · have cN : w1.cell? ⟨w.heap.size + 1, 0, none⟩ = some (.string ByteArray.empty) := hk.cell (by simp) (fun e => by have e' : w.heap.size + 1 = g := e; omega)
      have HK1 : Hid (Kept (Only g) w w1) := HK0.out.of_no.then hk
      have HP : Hid (Rs w1 g lb (bytesS (.ok zs at_)).1 ∧ bytesS (.ok zs at_) = (.bad at_ c, [])) := by
        have e : bytesS (.ok zs at_) = (.bad at_ c, []) := by simp only [bytesS, hbad]
        rw [e]
        exact ⟨⟨hF, by have := cr_code hbad; omega⟩, rfl⟩
      clear hbad hF hk
      go_wp2
      go_ret
      exact ⟨by rw [HP.out.2]; rfl, HP.out.1, HK1.out⟩
set_option maxRecDepth 1000000 in
set_option maxHeartbeats 2000000 in
theorem Bytes_all (g lb : Nat) (st : RS) (w : World) (h : Rs w g lb st) :
    Calls Tryz.prog 188 #[.pointer (some ⟨g, 0, none⟩)] w fun e w' => ∃ a' n' c', e = .returned (.slice a' n' c') ∧ n' = (bytesS st).2.length ∧ OwnS w' w.heap.size a' c' (bytesS st).2 ∧ Rs w' g lb (bytesS st).1 ∧ Kept (Only g) w w' := by
  have hmf : ∀ (fn : Fn) (first cap : Array Value) (w : World), (Instr.makeFunc fn first cap).run Tryz.prog w = .ok (.func fn first cap) w := fun _ _ _ _ => rfl
  have hglt := h.lt
  have HK0 : Hid (Kept No w ((w.alloc (Obj.cells #[.pointer (some ⟨g, 0, none⟩)] 203)).alloc (Obj.cells #[.slice none 0 0] 35))) := ((Kept.refl _ _).alloc _).alloc _
  have HN0 : Hid (((w.alloc (Obj.cells #[.pointer (some ⟨g, 0, none⟩)] 203)).alloc (Obj.cells #[.slice none 0 0] 35)).heap[w.heap.size + 1]? = some (.cells #[.slice none 0 0] 35 (0, 0))) := heap_new1 _ _ _
  have HA0 : Hid (((w.alloc (Obj.cells #[.pointer (some ⟨g, 0, none⟩)] 203)).alloc (Obj.cells #[.slice none 0 0] 35)).cell? ⟨w.heap.size, 0, none⟩ = some (.pointer (some ⟨g, 0, none⟩))) := by simp [Hid]
  cases st with
  | bad p c =>
    have HF : Hid (RdF w g p c) := h.1
    have HC : Hid (c ≠ 0) := h.2
    clear h
    go_enter Tryz.func188, Tryz.ntmps188
    go_wp2_with fail
    refine (catch_bad _ g p c _ ((HK0.out.block g hglt (fun e => e)).trans HF.out) HC.out).mono ?_
    rintro e w1 ⟨rfl, hk⟩
    have cN : w1.cell? ⟨w.heap.size + 1, 0, none⟩ = some (.slice none 0 0) := hk.cell (by simp) (fun e => e)
    have HK1 : Hid (Kept No w w1) := HK0.out.then hk
    clear hk
    go_wp2
    go_ret
    exact ⟨none, 0, 0, rfl, rfl, OwnS.nil _ _, ⟨(HK1.out.block g hglt (fun e => e)).trans HF.out, HC.out⟩, HK1.out.of_no⟩
  | ok zs at_ =>
    obtain ⟨la, lc, hr, hb⟩ := h
    have HR : Hid (Rd w g la lc zs at_) := hr
    have HB : Hid (∀ k, At la k → k = lb) := hb
    clear hr hb
    go_enter Tryz.func188, Tryz.ntmps188
    go_wp2_with fail
    refine (catch_any 219 _ (run60 _) g la lc zs at_ (fun W w' => ∃ n k, cr zs = .ok (n, k) ∧ ∃ a' c', Laid g (w.heap.size + 1) 35 la zs at_ (k + n) (.slice a' n c') W w' ∧ OwnS w' W.heap.size a' c' ((zs.drop k).take n)) (fun c => cr zs = .error c) _ (HR.out.no HK0.out) (fun W hk => bytes1_any w.heap.size (w.heap.size + 1) g la lc zs at_ W ((HR.out.no HK0.out).no hk) (hk.cell HA0.out (fun e => e)) ((hk.block _ (Array.getElem?_eq_some_iff.1 HN0.out).1 (fun e => e)).trans HN0.out) (by omega))).mono ?_
    rintro e w1 ⟨rfl, hcase⟩
    rcases hcase with ⟨W, hW, hok⟩ | ⟨c, hbad, hF, hk⟩
    · obtain ⟨n, k, hv, a2, c2, hlaid, hO⟩ := hok
      have cN : w1.cell? ⟨w.heap.size + 1, 0, none⟩ = some (.slice a2 n c2) := by rw [cell_of_row w1 (w.heap.size + 1) 0 _ 35 (0, 0) hlaid.1]; rfl
      have HK1 : Hid (Kept (Only g) w w1) := (HK0.out.then hW).of_no.trans hlaid.2.2 (fun _ e => e) (fun i hi e => by
        rcases e with e | e
        · exact e
        · omega)
      have HP : Hid (Rs w1 g lb (bytesS (.ok zs at_)).1 ∧ n = (bytesS (.ok zs at_)).2.length ∧ OwnS w1 w.heap.size a2 c2 (bytesS (.ok zs at_)).2) := by
        obtain ⟨b', off', lc', ha, hr⟩ := hlaid.2.1
        have e : bytesS (.ok zs at_) = (.ok (zs.drop (k + n)) (at_ + (k + n)), (zs.drop k).take n) := by simp only [bytesS, hv]
        rw [e]
        refine ⟨⟨_, _, hr, fun i hi => by obtain ⟨ad, e1, rfl⟩ := hi; cases e1; exact HB.out _ ha⟩, ?_, hO.lower (HK0.out.then hW).size⟩
        have := (cr_bd hv).2.2.1
        simp only [List.length_take, List.length_drop]; omega
      clear hW hlaid hv hO
      go_wp2
      go_ret
      exact ⟨a2, n, c2, rfl, HP.out.2.1, HP.out.2.2, HP.out.1, HK1.out⟩
    · have cN : w1.cell? ⟨w.heap.size + 1, 0, none⟩ = some (.slice none 0 0) := hk.cell (by simp) (fun e => by have e' : w.heap.size + 1 = g := e; omega)
      have HK1 : Hid (Kept (Only g) w w1) := HK0.out.of_no.then hk
      have HP : Hid (Rs w1 g lb (bytesS (.ok zs at_)).1 ∧ bytesS (.ok zs at_) = (.bad at_ c, [])) := by
        have e : bytesS (.ok zs at_) = (.bad at_ c, []) := by simp only [bytesS, hbad]
        rw [e]
        exact ⟨⟨hF, by have := cr_code hbad; omega⟩, rfl⟩
      clear hbad hF hk
      go_wp2
      go_ret
      exact ⟨none, 0, 0, rfl, by rw [HP.out.2]; rfl, by rw [HP.out.2]; exact OwnS.nil _ _, HP.out.1, HK1.out⟩
end Go.Proofs.YtgdnofacgfjaeaaGreat.Wi
