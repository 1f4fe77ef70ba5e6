import Derived.Test.YtpapbleabjpbfabFg
import Derived.Sort.Walk7
import Derived.Sort.Walk7a
import Derived.Sort.WalkA14
import Derived.Laws.Bits64
import Derived.Laws.Bits64b
import Derived.Shelf.RegionOpenPlain
namespace Go.Proofs.Ytpapbleabjpbfab
open Go.RowKit
set_option linter.unusedVariables false
set_option linter.unusedSimpArgs false


open Go.Sort in
set_option maxRecDepth 100000 in
set_option maxHeartbeats 2000000 in
theorem next_any (rb X : Nat) (hX : X < 18446744073709551616) (w : World) (hc : w.cell? ⟨rb, 0, none⟩ = some (.int .u64 X)) (hf : w.frozen? ⟨rb, 0, none⟩ = false) :
    Calls Try.prog 63 #[.pointer (some ⟨rb, 0, none⟩)] w fun e w' => e = .returned (.int .u64 (xorNextN X : Nat)) ∧ w' = (w.setCell ⟨rb, 0, none⟩ (.int .u64 (xorNextN X : Nat))).drewN 3 := by
  obtain ⟨A, hA⟩ : ∃ A : Nat, A = X ^^^ (X * 8192 % 18446744073709551616) := ⟨_, rfl⟩
  obtain ⟨B, hB⟩ : ∃ B : Nat, B = A ^^^ (A / 128) := ⟨_, rfl⟩
  obtain ⟨C, hC⟩ : ∃ C : Nat, C = B ^^^ (B * 131072 % 18446744073709551616) := ⟨_, rfl⟩
  have lA : A < 18446744073709551616 := by rw [hA]; exact Nat.xor_lt_two_pow (n := 64) (by omega) (by omega)
  have lB : B < 18446744073709551616 := by rw [hB]; exact Nat.xor_lt_two_pow (n := 64) (by omega) (by omega)
  have e1 : bits .xor .u64 (X : Int) (IntKind.u64.wrap ((X : Int) * 8192)) = (A : Int) := by
    rw [IntKind.wrap_u64, show ((X : Int) * 8192 % 18446744073709551616) = ((X * 8192 % 18446744073709551616 : Nat) : Int) by omega, bits_xor_u64_nat _ _ hX (by omega), hA]
  have e2 : bits .xor .u64 (A : Int) ((A : Int) / 128) = (B : Int) := by
    rw [show ((A : Int) / 128) = ((A / 128 : Nat) : Int) by omega, bits_xor_u64_nat _ _ lA (by omega), hB]
  have e3 : bits .xor .u64 (B : Int) (IntKind.u64.wrap ((B : Int) * 131072)) = (C : Int) := by
    rw [IntKind.wrap_u64, show ((B : Int) * 131072 % 18446744073709551616) = ((B * 131072 % 18446744073709551616 : Nat) : Int) by omega, bits_xor_u64_nat _ _ lB (by omega), hC]
  have hv : xorNextN X = C := by unfold xorNextN; simp only []; rw [← hA, ← hB, ← hC]
  rw [hv]
  clear hA hB hC hv
  have hss : ∀ v v', (w.setCell ⟨rb, 0, none⟩ v).setCell ⟨rb, 0, none⟩ v' = w.setCell ⟨rb, 0, none⟩ v' := setCell_setCell w rb 0
  have mixed : Try.prog.follows .mixedOrders = true := by kernel_rfl
  go_enter Try.func63, Try.ntmps63
  go_wp2
  go_region_o
  all_goals go_wp2
  all_goals go_region_o
  all_goals go_wp2
  all_goals go_region_o
  all_goals go_wp2
  go_ret
  exact ⟨rfl, rfl⟩

open Go.Sort in
set_option maxRecDepth 100000 in
set_option maxHeartbeats 2000000 in
theorem pow_any (n : Nat) (hn : n ≤ 4096) (w : World) : Calls Try.prog 62 #[.int .i64 n] w fun e w' => e = .returned (.int .u64 ((1 <<< bitsLen n : Nat) : Int)) ∧ w' = w := by
  have hLen : ∀ w, Calls Try.prog 45 #[.int .u64 (n : Int)] w fun e w' => e = .returned (.int .i64 (bitsLen n : Nat)) ∧ w' = w := fun w => by
    have h := len_any (n : Int) w (by omega) (by omega)
    rwa [Int.toNat_natCast, bitLen_eq _ (by omega)] at h
  have hk : bitsLen n ≤ 62 := (bitsLen_le_iff n 62).2 (by omega)
  have hp := wrap_two_pow (bitsLen n) hk
  have wr : IntKind.u64.wrap (n : Int) = n := by simp [IntKind.wrap, IntKind.bits, IntKind.signed]; omega
  go_enter Try.func62, Try.ntmps62
  go_wp2_with fail
  refine Calls.mono (hLen _) ?_
  rintro e w' ⟨rfl, rfl⟩
  go_wp2
  go_ret
  exact ⟨rfl, rfl⟩

open Go.Sort in
set_option maxRecDepth 100000 in
set_option maxHeartbeats 4000000 in
theorem breakPatterns_any (g cap a l b n : Nat) (d : Array (Int × Int)) (sp : List Value) (w : World) (hn : d.size = n) (hl : 8 ≤ l) (hbl : b = a + l) (hb : b ≤ n) (hm : n ≤ 4096) (hp : Pts w g d sp) :
    Calls Try.prog 71 #[.slice (some ⟨g, 0, none⟩) n cap, .int .i64 a, .int .i64 b, cmpV] w fun e w' => e = .returned (.tuple #[]) ∧ Pts w' g (breakPatterns d a b) sp ∧ Kept (Only g) w w' := by
  have HP : Hid (Pts w g d sp) := hp
  have hlg := Box.lt hp
  have hne : w.heap.size ≠ g := by omega
  have HNE : Hid (g ≠ w.heap.size) := by show _ ≠ _; omega
  have HNN : Hid (d.size = n) := hn
  clear hp hn hlg
  obtain ⟨M, hM⟩ : ∃ M : Nat, M = 1 <<< bitsLen l := ⟨_, rfl⟩
  have hM1 : 1 ≤ M := by rw [hM, Nat.one_shiftLeft]; exact Nat.two_pow_pos _
  have hM2 : M ≤ 2 * l := by rw [hM, Nat.one_shiftLeft]; exact two_pow_bitsLen_le (by omega)
  have HNP : Hid (∀ w, Calls Try.prog 62 #[.int .i64 (l : Int)] w fun e w' => e = .returned (.int .u64 (M : Int)) ∧ w' = w) := by rw [hM]; exact fun w => pow_any l (by omega) w
  obtain ⟨i0, hi0⟩ : ∃ i0, i0 = a + l / 4 * 2 - 1 := ⟨_, rfl⟩
  have HT : Hid (breakPatterns d a b = bpRest a l M i0 3 0 (UInt64.ofNat l, d)) := by
    show _ = _
    rw [hbl, breakPatterns_eq d a l hl, hM, hi0]
  have E0 : Hid (((b : Int) - (a : Int)) = (l : Int)) := by show _ = _; omega
  have E1 : Hid ((a : Int) + (l : Int) / 4 * 2 - 1 = (i0 : Int)) := by show _ = _; omega
  have hi3 : i0 + 3 ≤ a + l := by omega
  have hal : a + l ≤ n := by omega
  have hab : a + 8 ≤ b := by omega
  have HI0 : Hid (i0 = a + l / 4 * 2 - 1) := hi0
  clear hM hbl hi0
  have h8 : (8 : Int) ≤ (b : Int) - (a : Int) := by omega
  go_enter Try.func71, Try.ntmps71
  go_wp2_with fail
  rw [E0.out]
  refine Calls.mono (HNP.out _) ?_
  rintro e w' ⟨rfl, rfl⟩
  clear HNP h8
  go_wp2
  rw [E1.out]
 
  have HB0 : Hid (Box (w.alloc (Obj.cells #[Value.int IntKind.u64 (l : Int)] 102)) w.heap.size 102 #[.int .u64 (((UInt64.ofNat l).toNat : Nat) : Int)]) := by
    rw [show (UInt64.ofNat l).toNat = l from by simp; omega]
    exact Box.new w 102 _
  have HP0 : Hid (Pts (w.alloc (Obj.cells #[Value.int IntKind.u64 (l : Int)] 102)) g d sp) := HP.out.alloc _
  have HK0 : Hid (Kept (Only g) w (w.alloc (Obj.cells #[Value.int IntKind.u64 (l : Int)] 102))) := (Kept.refl _ w).alloc _
  clear HP
  go_loopw [11] (fun vi wr => ∃ (t : Nat) (r : UInt64) (dk : Array (Int × Int)) (i : Nat), vi = .int .i64 i ∧ t ≤ 3 ∧ Hid (i = i0 + t) ∧ Hid (dk.size = n) ∧ Hid (Pts wr g dk sp) ∧ Hid (Box wr w.heap.size 102 #[.int .u64 ((r.toNat : Nat) : Int)]) ∧ Hid (bpRest a l M i0 (3 - t) t (r, dk) = bpRest a l M i0 3 0 (UInt64.ofNat l, d)) ∧ Hid (Kept (Only g) w wr)) (fun i _ => i0 + 3 - (intOf i).toNat)
  case atStart => exact ⟨0, UInt64.ofNat l, d, i0, rfl, by omega, rfl, HNN, HP0, HB0, rfl, HK0⟩
  case round =>
    obtain ⟨t, r, dk, i, rfl, ht, HI, HS, HPk, HBk, HE, HK⟩ := hrel
    clear HP0 HB0 HK0
    have hi1 : i0 ≤ i := by have := HI.out; omega
    have hi2 : i ≤ i0 + 3 := by have := HI.out; omega
    by_cases ht3 : t < 3
    · have hle : (i : Int) ≤ (a : Int) + (l : Int) / 4 * 2 + 1 := by have := HI.out; have := HI0.out; omega
      have hin : i < i0 + 3 := by have := HI.out; omega
      obtain ⟨R0, hRr⟩ : ∃ R0 : Nat, R0 = r.toNat := ⟨_, rfl⟩
      have lR : R0 < 18446744073709551616 := by rw [hRr]; exact r.toNat_lt
      obtain ⟨R', hR'⟩ : ∃ R' : Nat, R' = xorNextN R0 := ⟨_, rfl⟩
      have lR' : R' < 18446744073709551616 := by rw [hR']; exact xorNextN_lt R0 lR
      obtain ⟨O, hO⟩ : ∃ O : Nat, O = R' &&& (M - 1) := ⟨_, rfl⟩
      have lO : O ≤ M - 1 := by rw [hO]; exact Nat.and_le_right
      have eAnd : bits .and .u64 (R' : Int) ((M : Int) - 1) = (O : Int) := by
        rw [show ((M : Int) - 1) = ((M - 1 : Nat) : Int) by omega, bits_and_u64_nat _ _ lR' (by omega), hO]
      have hcR : wr.cell? ⟨w.heap.size, 0, none⟩ = some (.int .u64 (R0 : Int)) := by rw [HBk.out.cell 0, hRr]; rfl
      have HX : Hid (Calls Try.prog 63 #[.pointer (some ⟨w.heap.size, 0, none⟩)] wr fun e w' => e = .returned (.int .u64 (R' : Int)) ∧ w' = (wr.setCell ⟨w.heap.size, 0, none⟩ (.int .u64 (R' : Int))).drewN 3) := by
        rw [hR']; exact next_any _ R0 lR wr hcR (HBk.out.frozen 0)
      have HN : Hid (R' = (xorNext r).toNat ∧ O = (xorNext r).toNat &&& (M - 1)) := by
        have e : R' = (xorNext r).toNat := by rw [hR', hRr, xorNext_toNat]
        exact ⟨e, by rw [hO, e]⟩
      have HP2 : Hid (Pts ((wr.setCell ⟨w.heap.size, 0, none⟩ (.int .u64 (R' : Int))).drewN 3) g dk sp) := HPk.out.other (p := ⟨w.heap.size, 0, none⟩) HNE.out _
      have HB2 : Hid (Box ((wr.setCell ⟨w.heap.size, 0, none⟩ (.int .u64 (R' : Int))).drewN 3) w.heap.size 102 #[.int .u64 (R' : Int)]) := HBk.out.set 0 _
      have HK2 : Hid (Kept (Only g) w ((wr.setCell ⟨w.heap.size, 0, none⟩ (.int .u64 (R' : Int))).drewN 3)) := (HK.out.setCell (p := ⟨w.heap.size, 0, none⟩) (fun h => absurd h (Nat.lt_irrefl _)) _).drewN 3
      generalize (wr.setCell ⟨w.heap.size, 0, none⟩ (.int .u64 (R' : Int))).drewN 3 = w2 at HX HP2 HB2 HK2
      clear hRr hR' hO hcR HPk HBk HK lR
      by_cases hLO : l ≤ O
      · have hLOz : (l : Int) ≤ (O : Int) := by omega
        obtain ⟨q, hq⟩ : ∃ q, q = a + (O - l) := ⟨_, rfl⟩
        have hwq : IntKind.i64.wrap ((a : Int) + ((O : Int) - (l : Int))) = (q : Int) := by rw [IntKind.wrap_i64]; omega
        have hqn : q < n := by omega
        have HQ : Hid (q = a + (O - l)) := hq
        have HB : Hid (bpRest a l M i0 (3 - t) t (r, dk) = bpRest a l M i0 (3 - (t + 1)) (t + 1) (xorNext r, swp dk (i0 + t) (a + (O - l)))) := bp_step a l M i0 t r dk (O - l) ht3 (by rw [← HN.out.2, if_pos (by omega)])
        clear hq
        obtain ⟨x, hx⟩ : ∃ x, dk[i]! = x := ⟨_, rfl⟩
        obtain ⟨y, hy⟩ : ∃ y, dk[q]! = y := ⟨_, rfl⟩
        have HXx : Hid (dk[i]! = x) := hx
        have HXy : Hid (dk[q]! = y) := hy
        clear hx hy

        have sa := HP2.out.cell (i) (by have := HS.out; omega)
        have sb := HP2.out.cell (q) (by have := HS.out; omega)
        rw [HXx.out] at sa
        rw [HXy.out] at sb
        obtain ⟨sa1, sa2⟩ := sa
        obtain ⟨sb1, sb2⟩ := sb
        have f1 := HP2.out.frozen ((i) * 2)
        have f2 := HP2.out.frozen ((i) * 2 + 1)
        have f3 := HP2.out.frozen ((q) * 2)
        have f4 := HP2.out.frozen ((q) * 2 + 1)

        have sc := (HP2.out.put (i) y (by have := HS.out; omega)).cell (q) (by rw [Array.size_setIfInBounds]; exact (by have := HS.out; omega))
        have sf1 := (HP2.out.put (i) y (by have := HS.out; omega)).frozen ((q) * 2)
        have sf2 := (HP2.out.put (i) y (by have := HS.out; omega)).frozen ((q) * 2 + 1)
        obtain ⟨z, hz⟩ : ∃ z, (dk.setIfInBounds (i) y)[q]! = z := ⟨_, rfl⟩
        rw [hz] at sc
        clear hz
        obtain ⟨sc1, sc2⟩ := sc
        have sd1 := cell_drew' sc1
        have sd2 := cell_drew' sc2

        have t1 : (i : Int) < (n : Int) := by omega
        have t2 : (q : Int) < (n : Int) := by omega
        have t3 : (0 : Int) ≤ (i : Int) := by omega
        have t4 : (0 : Int) ≤ (q : Int) := by omega
        go_wp2_with fail
        refine Calls.mono (HX.out) ?_
        rintro e w3 ⟨rfl, rfl⟩
        go_wp2
        go_big_region
        all_goals go_wp2
        go_roundw
        case rel =>
          refine ⟨t + 1, xorNext r, swp dk i q, i + 1, by go_num, by omega, ?_, ?_, HP2.out.swap i q (by have := HS.out; omega) (by have := HS.out; omega) HXx.out HXy.out, ?_, ?_, (HK2.out.swap i q _ _ _ _).drew⟩
          · show _ = _; have := HI.out; omega
          · show _ = _; rw [size_swp']; exact HS.out
          · rw [← HN.out.1]
            exact ((((HB2.out.other (p := ⟨g, i * 2, none⟩) hne _).other (p := ⟨g, i * 2 + 1, none⟩) hne _).other (p := ⟨g, q * 2, none⟩) hne _).other (p := ⟨g, q * 2 + 1, none⟩) hne _)
          · show _ = _
            rw [← HE.out, HB.out, HI.out, HQ.out]
        case measure => simp [intOf]; omega

      · have hLOz : ¬ (l : Int) ≤ (O : Int) := by omega
        obtain ⟨q, hq⟩ : ∃ q, q = a + O := ⟨_, rfl⟩
        have hwq : IntKind.i64.wrap ((a : Int) + (O : Int)) = (q : Int) := by rw [IntKind.wrap_i64]; omega
        have hqn : q < n := by omega
        have HQ : Hid (q = a + O) := hq
        have HB : Hid (bpRest a l M i0 (3 - t) t (r, dk) = bpRest a l M i0 (3 - (t + 1)) (t + 1) (xorNext r, swp dk (i0 + t) (a + O))) := bp_step a l M i0 t r dk O ht3 (by rw [← HN.out.2, if_neg (by omega)])
        clear hq
        obtain ⟨x, hx⟩ : ∃ x, dk[i]! = x := ⟨_, rfl⟩
        obtain ⟨y, hy⟩ : ∃ y, dk[q]! = y := ⟨_, rfl⟩
        have HXx : Hid (dk[i]! = x) := hx
        have HXy : Hid (dk[q]! = y) := hy
        clear hx hy

        have sa := HP2.out.cell (i) (by have := HS.out; omega)
        have sb := HP2.out.cell (q) (by have := HS.out; omega)
        rw [HXx.out] at sa
        rw [HXy.out] at sb
        obtain ⟨sa1, sa2⟩ := sa
        obtain ⟨sb1, sb2⟩ := sb
        have f1 := HP2.out.frozen ((i) * 2)
        have f2 := HP2.out.frozen ((i) * 2 + 1)
        have f3 := HP2.out.frozen ((q) * 2)
        have f4 := HP2.out.frozen ((q) * 2 + 1)

        have sc := (HP2.out.put (i) y (by have := HS.out; omega)).cell (q) (by rw [Array.size_setIfInBounds]; exact (by have := HS.out; omega))
        have sf1 := (HP2.out.put (i) y (by have := HS.out; omega)).frozen ((q) * 2)
        have sf2 := (HP2.out.put (i) y (by have := HS.out; omega)).frozen ((q) * 2 + 1)
        obtain ⟨z, hz⟩ : ∃ z, (dk.setIfInBounds (i) y)[q]! = z := ⟨_, rfl⟩
        rw [hz] at sc
        clear hz
        obtain ⟨sc1, sc2⟩ := sc
        have sd1 := cell_drew' sc1
        have sd2 := cell_drew' sc2

        have t1 : (i : Int) < (n : Int) := by omega
        have t2 : (q : Int) < (n : Int) := by omega
        have t3 : (0 : Int) ≤ (i : Int) := by omega
        have t4 : (0 : Int) ≤ (q : Int) := by omega
        go_wp2_with fail
        refine Calls.mono (HX.out) ?_
        rintro e w3 ⟨rfl, rfl⟩
        go_wp2
        go_big_region
        all_goals go_wp2
        go_roundw
        case rel =>
          refine ⟨t + 1, xorNext r, swp dk i q, i + 1, by go_num, by omega, ?_, ?_, HP2.out.swap i q (by have := HS.out; omega) (by have := HS.out; omega) HXx.out HXy.out, ?_, ?_, (HK2.out.swap i q _ _ _ _).drew⟩
          · show _ = _; have := HI.out; omega
          · show _ = _; rw [size_swp']; exact HS.out
          · rw [← HN.out.1]
            exact ((((HB2.out.other (p := ⟨g, i * 2, none⟩) hne _).other (p := ⟨g, i * 2 + 1, none⟩) hne _).other (p := ⟨g, q * 2, none⟩) hne _).other (p := ⟨g, q * 2 + 1, none⟩) hne _)
          · show _ = _
            rw [← HE.out, HB.out, HI.out, HQ.out]
        case measure => simp [intOf]; omega

    · obtain rfl : t = 3 := by omega
      have hle : ¬ (i : Int) ≤ (a : Int) + (l : Int) / 4 * 2 + 1 := by have := HI.out; have := HI0.out; omega
      have HE2 : Hid (bpRest a l M i0 3 0 (UInt64.ofNat l, d) = dk) := HE.out.symm
      go_wp2
      go_end0
      rw [HT.out, HE2.out]
      exact ⟨rfl, HPk.out, HK.out⟩

end Go.Proofs.Ytpapbleabjpbfab
