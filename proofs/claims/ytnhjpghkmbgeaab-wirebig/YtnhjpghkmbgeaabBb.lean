import Derived.Test.YtnhjpghkmbgeaabBd
namespace Go.Proofs.Ytnhjpghkmbgeaab
open Go.RowKit
set_option linter.unusedVariables false

/-- n bytes of one's own at block g, whatever they are. -/
def Some8 (w : World) (base g n : Nat) : Prop := ∃ zs : List Int, zs.length = n ∧ U8 zs ∧ OwnS w base (some ⟨g, 0, none⟩) n zs

theorem made_some {w1 : World} {B n : Nat} (h : w1.ownsRow B 5 1 (.slice (some ⟨B, 0, none⟩) n n) n (madeCells (Value.int .u8 0).cells (n * 1)).toList) : Some8 w1 B B n := by
  rw [made_bytes] at h
  refine ⟨List.replicate n 0, List.length_replicate, ?_, ?_⟩
  · intro i
    by_cases hi : i < n
    · simp [hi]
    · simp [hi]
  · unfold OwnS
    rw [List.length_replicate]
    exact h

theorem Some8.set {w : World} {base g n : Nat} (h : Some8 w base g n) (j : Nat) {v : Int} (hv : 0 ≤ v ∧ v ≤ 255) : Some8 (w.setCell ⟨g, j, none⟩ (.int .u8 v)) base g n := by
  obtain ⟨zs, h1, h2, h3⟩ := h
  exact ⟨zs.set j v, by rw [List.length_set]; exact h1, h2.set j hv, h3.set j v⟩

theorem U8.zeros (n : Nat) : U8 (List.replicate n 0) := by
  intro i
  by_cases hi : i < n
  · simp [hi]
  · simp [hi]

theorem len_nn (N S : Int) (n : Nat) : (fourOf N ++ fourOf S ++ List.replicate n (0 : Int)).length = 8 + n := by simp [fourOf_len]; omega

namespace wireBig
set_option maxRecDepth 100000 in
set_option maxHeartbeats 4000000 in
theorem walk (x more : Int) (w : World) (hx : 0 ≤ x ∧ x ≤ 255) :
    Calls Try.prog 4 #[.int .u8 x, .int .i64 more] w fun e w' => e = .returned (.bool true) ∧ Below w.heap.size w w' := by
  obtain ⟨i0, hi, hz0, hz1, hz2⟩ := info_parts Try.info5
  go_enter Try.func4, Try.ntmps4
  go_wp2_with (at_make; go_must (refine wpList_make_full _ rfl (.const (.int .i64 131072)) (.const (.int .i64 131072)) 22 rfl w.heap.size 5 i0 (.int .u8 0) 1 Try.underlying22 hi hz0 hz1 .i64 .i64 _ _ 131072 rfl rfl (by omega) (by omega) (by rw [hz2]; omega) (by unfold maxLen; omega) (Nat.le_refl _) ?_; intro w1 hown hgrow; have HG : Hid (Some8 w1 w.heap.size w.heap.size 131072) := made_some hown; have HK : Hid (Kept No w w1) := kept_grown hgrow; clear hown hgrow))
  clear hi hz0 hz1 hz2
  clear i0
  go_loopw [6] (fun i wr => ∃ k : Nat, k ≤ 131072 ∧ i = .int .i64 (k : Int) ∧ Hid (Some8 wr w.heap.size w.heap.size 131072) ∧ Hid (Kept No w wr)) (fun i _ => 131072 - (intOf i).toNat)
  case atStart => exact ⟨0, Nat.zero_le _, rfl, HG, HK⟩
  case round =>
    obtain ⟨k, hk, rfl, HGr, HKr⟩ := hrel
    clear HG HK
    by_cases hlt : k < 131072
    · have i1 : (k : Int) < 131072 := by omega
      have hrow : ∃ z, wr.cell? ⟨w.heap.size, k, none⟩ = some (.int .u8 z) ∧ wr.frozen? ⟨w.heap.size, k, none⟩ = false := by
        obtain ⟨zs, h1, h2, h3⟩ := HGr.out
        exact ⟨_, h3.row k (by rw [h1]; exact hlt)⟩
      obtain ⟨z, hcl, hfr⟩ := hrow
      have HGn : Hid (Some8 (wr.setCell ⟨w.heap.size, k, none⟩ (.int .u8 ((x + (k : Int) / 128) % 256))) w.heap.size w.heap.size 131072) := HGr.out.set k (by omega)
      have HKn : Hid (Kept No w (wr.setCell ⟨w.heap.size, k, none⟩ (.int .u8 ((x + (k : Int) / 128) % 256)))) := HKr.out.setCell (fun h => absurd h (Nat.lt_irrefl _)) _
      clear HGr HKr
      go_wp2
      go_roundw
      case rel => exact ⟨k + 1, by omega, by go_num, HGn, HKn⟩
      case measure => simp [intOf]; omega
    · have i1 : ¬ (k : Int) < 131072 := by omega
      obtain ⟨zs, hzl, h8, hO⟩ := HGr.out
      have HZ : Hid (zs.length = 131072) := hzl
      have HO : Hid (OwnS wr w.heap.size (some ⟨w.heap.size, 0, none⟩) 131072 zs) := hO
      have HU : Hid (U8 zs) := h8
      clear hzl h8 hO HGr hlt hk
      go_wp2_with fail
      refine (seal_any _ _ _ zs wr HZ.out (Nat.le_refl _) HO.out.bytes HU.out (fun e => by cases e)).mono ?_
      rintro e w2 ⟨a2, c2, rfl, hO2, hK2⟩
      have HS2 : Hid (Sl w2 a2 (131072 + 12) c2 (sealOf zs)) := hO2.sl (by rw [sealOf_len, HZ.out]) (sealOf_u8 HU.out) (by omega)
      have HK2 : Hid (Kept No w w2) := HKr.out.then hK2
      have HO2 : Hid (OwnS w2 w.heap.size (some ⟨w.heap.size, 0, none⟩) 131072 zs) := HO.out.no hK2
      clear hO2 hK2 HO HKr
      go_wp2_with fail
      refine (open_sl HS2.out).mono ?_
      intro e w3 hop
      obtain ⟨a3, c3, rfl, hO3, hK3⟩ := opens_eq (open_seal zs (by rw [HZ.out]; omega)) hop
      have HB3 : Hid (Bytes w3 a3 zs) := hO3.bytes
      have HK3 : Hid (Kept No w w3) := HK2.out.then hK3
      have HO3 : Hid (OwnS w3 w.heap.size (some ⟨w.heap.size, 0, none⟩) 131072 zs) := HO2.out.no hK3
      rw [HZ.out]
      clear hop hO3 hK3 HO2 HK2 HS2
      go_wp2_with fail
      have hsm := sameN_any a3 (some ⟨w.heap.size, 0, none⟩) 131072 131072 c3 131072 zs zs w3 HZ.out HZ.out (by omega) (by omega) HB3.out HO3.out.bytes
      rw [eqB_refl] at hsm
      refine hsm.mono ?_
      rintro e w4 ⟨rfl, n4, hw4⟩
      clear hsm
      have HK4 : Hid (Kept No w w4) := by rw [hw4]; exact HK3.out.drewN _
      have HO4 : Hid (OwnS w4 w.heap.size (some ⟨w.heap.size, 0, none⟩) 131072 zs) := by rw [hw4]; exact HO3.out.no (Kept.no_drewN _ _)
      clear hw4 HB3 HK3 HO3
      go_wp2_with (at_builtin; go_must (refine wpList_wanted (by simp [Region.wanted, yielded]) ?_; refine wp_app _ Try.underlying22 Try.info5 rfl _ _ rfl w.heap.size _ _ _ zs rfl HZ.out (HO4.out.no ((Kept.refl _ _).alloc _)) _ _ _ [x] rfl rfl (one_own _ _).bytes (fun e => by cases e) (by rw [HZ.out]; simp) (by have := HK4.out.size; simp; omega) ?_; intro a5 c5 w5 HO5 HK5 HM5))
      have HK6 : Hid (Kept No w w5) := (HK4.out.alloc _).fresh HK5.out (fun k e => by have := at_some e; omega)
      clear HO5 HK5 HM5 HO4 HK4 HZ HU
      refine (seal_long a5 131073 c5 w5 (by omega) (by omega)).mono ?_
      rintro e w6 ⟨rfl, rfl⟩
      go_wp2_with fail
      refine (round_any more 1073741824 w6 (by omega) (by omega)).mono ?_
      rintro e w7 ⟨rfl, rfl⟩
      have hrd := roundOf_lt more 1073741824 (by omega)
      generalize roundOf more 1073741824 = rd at hrd
      have hrd' : (rd : Int) < 1073741824 := by omega
      clear hrd
      go_wp2_with fail
      obtain ⟨N, hN⟩ : ∃ N : Int, N = 131073 + (rd : Int) := ⟨_, rfl⟩
      rw [← hN]
      have hN0 : 131072 < N := by omega
      have hN1 : N ≤ 4294967295 := by omega
      clear hN hrd'
      refine (lfour_any N w7 (by omega) hN1).mono ?_
      rintro e w8 ⟨rfl, hO8, hK8⟩
      have HB8 : Hid (Bytes w8 (some ⟨w7.heap.size, 0, none⟩) (fourOf N)) := hO8.bytes
      have HK8 : Hid (Kept No w w8) := HK6.out.then hK8
      clear hO8 hK8 HK6
      go_wp2_with fail
      refine (sumN_any _ 4 _ (fourOf N) w8 rfl (by omega) HB8.out (fourOf_u8 N)).mono ?_
      rintro e w9 ⟨rfl, rfl⟩
      have hS := sumOf_bd (fourOf N)
      obtain ⟨S, hSe⟩ : ∃ S, S = sumOf (fourOf N) := ⟨_, rfl⟩
      rw [← hSe] at hS ⊢
      have HSe : Hid (S = sumOf (fourOf N)) := hSe
      have hS0 := hS.1
      have hS1 := hS.2
      clear hS hSe
      go_wp2_with fail
      refine (lfour_any S w9 hS0 hS1).mono ?_
      rintro e w10 ⟨rfl, hO10, hK10⟩
      have HB10 : Hid (Bytes w10 (some ⟨w9.heap.size, 0, none⟩) (fourOf S)) := hO10.bytes
      have HH10 : Hid (Bytes w10 (some ⟨w7.heap.size, 0, none⟩) (fourOf N)) := HB8.out.no hK10
      have HK10 : Hid (Kept No w w10) := HK8.out.then hK10
      clear hO10 hK10 HK8 HB8
      go_wp2_with (at_builtin; go_must (refine wp_grows _ Try.underlying22 Try.info5 rfl _ _ rfl _ _ _ (fourOf N) rfl rfl HH10.out _ _ _ (fourOf S) rfl rfl HB10.out (by omega) (by omega) ?_; intro a11 c11 w11 HO11 HK11))
      have HS11 : Hid (Sl w11 a11 8 c11 (fourOf N ++ fourOf S)) := HO11.out.sl rfl ((fourOf_u8 _).append (fourOf_u8 _)) (by omega)
      have HH11 : Hid (Bytes w11 (some ⟨w7.heap.size, 0, none⟩) (fourOf N)) := HH10.out.no HK11.out
      have HK11' : Hid (Kept No w w11) := HK10.out.then HK11.out
      have HL1 : Hid (openOf (fourOf N ++ fourOf S) = ([], 2)) := by have := openOf_long N [] hN0 hN1; rw [List.append_nil, ← HSe.out] at this; exact this
      clear HO11 HK11 HK10 HH10 HB10
      refine (open_sl HS11.out).mono ?_
      intro e w12 hop
      obtain ⟨a12, c12, rfl, hO12, hK12⟩ := opens_eq HL1.out hop
      have HH12 : Hid (Bytes w12 (some ⟨w7.heap.size, 0, none⟩) (fourOf N)) := HH11.out.no hK12
      have HK12 : Hid (Kept No w w12) := HK11'.out.then hK12
      clear hop hO12 hK12 HK11' HH11 HS11 HL1
      simp only [List.length_nil]
      go_wp2_with fail
      refine (lfour_any S w12 hS0 hS1).mono ?_
      rintro e w13 ⟨rfl, hO13, hK13⟩
      have HB13 : Hid (Bytes w13 (some ⟨w12.heap.size, 0, none⟩) (fourOf S)) := hO13.bytes
      have HH13 : Hid (Bytes w13 (some ⟨w7.heap.size, 0, none⟩) (fourOf N)) := HH12.out.no hK13
      have HK13 : Hid (Kept No w w13) := HK12.out.then hK13
      clear hO13 hK13 HK12 HH12
      go_wp2_with (at_builtin; go_must (first
        | (refine wp_zeros _ Try.underlying22 Try.underlying3 Try.info5 rfl _ _ rfl w13.heap.size _ _ _ (fourOf N ++ fourOf S) rfl rfl (by omega) HO14.out 200000 rfl (by omega) (by omega) (by have := HK14.out.size; omega) ?_; intro a15 c15 w15 HO15 HK15)
        | (refine wp_grows _ Try.underlying22 Try.info5 rfl _ _ rfl _ _ _ (fourOf N) rfl rfl HH13.out _ _ _ (fourOf S) rfl rfl HB13.out (by omega) (by omega) ?_; intro a14 c14 w14 HO14 HK14)))
      have HS15 : Hid (Sl w15 a15 200008 c15 (fourOf N ++ fourOf S ++ List.replicate 200000 0)) := HO15.out.sl (len_nn N S 200000) (((fourOf_u8 _).append (fourOf_u8 _)).append (U8.zeros _)) (by omega)
      have HK16 : Hid (Kept No w w15) := (HK13.out.then HK14.out).fresh HK15.out (fun k e => by have h1 := HO14.out.base e; have h2 := HK13.out.size; omega)
      have HL2 : Hid (openOf (fourOf N ++ fourOf S ++ List.replicate 200000 0) = ([], 2)) := by have := openOf_long N (List.replicate 200000 0) hN0 hN1; rw [← HSe.out] at this; exact this
      clear HO15 HK15 HO14 HK14 HK13 HB13 HH13
      refine (open_sl HS15.out).mono ?_
      intro e w17 hop
      obtain ⟨a17, c17, rfl, hO17, hK17⟩ := opens_eq HL2.out hop
      have HK17 : Hid (Kept No w w17) := HK16.out.then hK17
      clear hop hO17 hK17 HK16 HS15 HL2
      simp only [List.length_nil]
      go_wp2
      go_ret
      exact ⟨rfl, HK17.out.below (Nat.le_refl _) (fun _ e => e.elim)⟩
end wireBig
end Go.Proofs.Ytnhjpghkmbgeaab
