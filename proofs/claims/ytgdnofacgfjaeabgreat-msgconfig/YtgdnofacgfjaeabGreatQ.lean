import Derived.Test.YtgdnofacgfjaeabGreatJ
namespace Go.Proofs.YtgdnofacgfjaeabGreat
open Go.RowKit
set_option linter.unusedVariables false

set_option maxRecDepth 1000000 in
set_option maxHeartbeats 1000000 in
theorem ropen_any (b off m cap : Nat) (zs : List Int) (w : World) (hz : zs.length = m) (hm : m ≤ 140737488355328) (hcm : cap ≤ 9223372036854775807) (hcap : m ≤ cap) (hb : Bytes w (some ⟨b, off, none⟩) zs) (h8 : U8 zs) (hl : 8 ≤ m) :
    Calls Tryz.prog 169 #[.slice (some ⟨b, off, none⟩) m cap] w (Opens w zs) := by
  have HB : Hid (Bytes w (some ⟨b, off, none⟩) zs) := hb
  have H8 : Hid (U8 zs) := h8
  have HZ : Hid (zs.length = m) := hz
  obtain ⟨n, hn⟩ : ∃ n : Nat, numOf zs = n := ⟨(numOf zs).toNat, by have := numOf_bd h8; omega⟩
  have hn2 : n ≤ 4294967295 := by have := numOf_bd h8; omega
  obtain ⟨P, hP⟩ : ∃ P, numOf (zs.drop 4) = P := ⟨_, rfl⟩
  obtain ⟨S, hS⟩ : ∃ S, sumOf (zs.take 4) = S := ⟨_, rfl⟩
  have HN : Hid (numOf zs = n) := hn
  have HP : Hid (numOf (zs.drop 4) = P) := hP
  have HS : Hid (sumOf (zs.take 4) = S) := hS
  clear hb h8 hz hn hP hS
  have g1 : (4 : Int) ≤ (m : Int) := by omega
  have g2 : (m : Int) ≤ (cap : Int) := by omega
  have g3 : ¬ (cap = 4) := by omega
  have g4 : (4 : Int) ≤ (cap : Int) := by omega
  have g5 : ¬ ((cap : Int) = 4) := by omega
  have g6 : (8 : Int) ≤ (cap : Int) := by omega
  by_cases hps : P = S
  · have hps' : (P == S) = true := by simpa using hps
    by_cases h1 : 131072 < n
    · have HO : Hid (openOf zs = ([], 2)) := by unfold Hid openOf; rw [HP.out, HS.out, HZ.out, HN.out, if_neg (by omega), if_neg (by simpa using hps), if_pos (by omega)]
      clear hps
      go_enter Tryz.func169, Tryz.ntmps169
      go_wp2
      go_quiet ((first
        | (go_at_call 195; exact Calls.quiet_of (number_n P _ _ _ ((zs.drop 4).take 4) _ ((numOf_take _).trans HP.out) (by have := HZ.out; simp; omega) (by omega) (((HB.out.drop 4).take 4).drewN _) ((H8.out.drop 4).take 4)))
        | (go_at_call 196; exact Calls.quiet_of_same (rsum_n S _ _ _ (zs.take 4) _ HS.out (by have := HZ.out; simp; omega) (by omega) ((HB.out.take 4).drewN _) (H8.out.take 4)))))
      go_wp2_with fail
      refine (number_n n _ _ _ (zs.take 4) _ ((numOf_take _).trans HN.out) (by have := HZ.out; simp; omega) (by omega) ((HB.out.take 4).drewN _) (H8.out.take 4)).mono ?_
      rintro e w1 ⟨rfl, n1, hw1⟩
      have HB2 : Hid (Bytes w1 (some ⟨b, off, none⟩) zs) := by rw [hw1]; exact HB.out
      have HK2 : Hid (Kept No w w1) := by rw [hw1]; exact (Kept.no_drewN _ _).drewN _
      clear hw1
      go_wp2
      go_ret2
      exact opens_no 2 HO.out HK2.out
    by_cases h2 : m < n + 12
    · have HO : Hid (openOf zs = ([], 10)) := by unfold Hid openOf; rw [HP.out, HS.out, HZ.out, HN.out, if_neg (by omega), if_neg (by simpa using hps), if_neg (by omega), if_pos (by omega)]
      clear hps
      go_enter Tryz.func169, Tryz.ntmps169
      go_wp2
      go_quiet ((first
        | (go_at_call 195; exact Calls.quiet_of (number_n P _ _ _ ((zs.drop 4).take 4) _ ((numOf_take _).trans HP.out) (by have := HZ.out; simp; omega) (by omega) (((HB.out.drop 4).take 4).drewN _) ((H8.out.drop 4).take 4)))
        | (go_at_call 196; exact Calls.quiet_of_same (rsum_n S _ _ _ (zs.take 4) _ HS.out (by have := HZ.out; simp; omega) (by omega) ((HB.out.take 4).drewN _) (H8.out.take 4)))))
      go_wp2_with fail
      refine (number_n n _ _ _ (zs.take 4) _ ((numOf_take _).trans HN.out) (by have := HZ.out; simp; omega) (by omega) ((HB.out.take 4).drewN _) (H8.out.take 4)).mono ?_
      rintro e w1 ⟨rfl, n1, hw1⟩
      have HB2 : Hid (Bytes w1 (some ⟨b, off, none⟩) zs) := by rw [hw1]; exact HB.out
      have HK2 : Hid (Kept No w w1) := by rw [hw1]; exact (Kept.no_drewN _ _).drewN _
      clear hw1
      go_wp2
      go_ret2
      exact opens_no 10 HO.out HK2.out
    by_cases h3 : n + 12 < m
    · have HO : Hid (openOf zs = ([], 11)) := by unfold Hid openOf; rw [HP.out, HS.out, HZ.out, HN.out, if_neg (by omega), if_neg (by simpa using hps), if_neg (by omega), if_neg (by omega), if_pos (by omega)]
      clear hps
      go_enter Tryz.func169, Tryz.ntmps169
      go_wp2
      go_quiet ((first
        | (go_at_call 195; exact Calls.quiet_of (number_n P _ _ _ ((zs.drop 4).take 4) _ ((numOf_take _).trans HP.out) (by have := HZ.out; simp; omega) (by omega) (((HB.out.drop 4).take 4).drewN _) ((H8.out.drop 4).take 4)))
        | (go_at_call 196; exact Calls.quiet_of_same (rsum_n S _ _ _ (zs.take 4) _ HS.out (by have := HZ.out; simp; omega) (by omega) ((HB.out.take 4).drewN _) (H8.out.take 4)))))
      go_wp2_with fail
      refine (number_n n _ _ _ (zs.take 4) _ ((numOf_take _).trans HN.out) (by have := HZ.out; simp; omega) (by omega) ((HB.out.take 4).drewN _) (H8.out.take 4)).mono ?_
      rintro e w1 ⟨rfl, n1, hw1⟩
      have HB2 : Hid (Bytes w1 (some ⟨b, off, none⟩) zs) := by rw [hw1]; exact HB.out
      have HK2 : Hid (Kept No w w1) := by rw [hw1]; exact (Kept.no_drewN _ _).drewN _
      clear hw1
      go_wp2
      go_ret2
      exact opens_no 11 HO.out HK2.out
    obtain rfl : m = n + 12 := by omega
    obtain ⟨P2, hP2⟩ : ∃ P, numOf (zs.drop (n + 8)) = P := ⟨_, rfl⟩
    obtain ⟨S2, hS2⟩ : ∃ S, sumOf (zs.take (n + 8)) = S := ⟨_, rfl⟩
    have HP2 : Hid (numOf (zs.drop (n + 8)) = P2) := hP2
    have HS2 : Hid (sumOf (zs.take (n + 8)) = S2) := hS2
    clear hP2 hS2
    have q0 : (0 : Int) ≤ (n : Int) + 8 := by omega
    have q1 : (n : Int) + 8 ≤ (n : Int) + 12 := by omega
    have q2 : ((n : Int) + 8).toNat = n + 8 := by omega
    have q3 : ¬ (cap = n + 8) := by omega
    have k6 : ¬ (cap = 8) := by omega
    clear h2 h3
    by_cases hq : P2 = S2
    · have hq' : (P2 == S2) = true := by simpa using hq
      have HO : Hid (openOf zs = ((zs.drop 8).take n, 0)) := by unfold Hid openOf; rw [HP.out, HS.out, HZ.out, HN.out, if_neg (by omega), if_neg (by simpa using hps), if_neg (by omega), if_neg (by omega), if_neg (by omega), Int.toNat_natCast, HP2.out, HS2.out, if_neg (by simpa using hq)]
      clear hps hq
      go_enter Tryz.func169, Tryz.ntmps169
      go_wp2
      go_quiet ((first
        | (go_at_call 195; exact Calls.quiet_of (number_n P _ _ _ ((zs.drop 4).take 4) _ ((numOf_take _).trans HP.out) (by have := HZ.out; simp; omega) (by omega) (((HB.out.drop 4).take 4).drewN _) ((H8.out.drop 4).take 4)))
        | (go_at_call 196; exact Calls.quiet_of_same (rsum_n S _ _ _ (zs.take 4) _ HS.out (by have := HZ.out; simp; omega) (by omega) ((HB.out.take 4).drewN _) (H8.out.take 4)))))
      go_wp2_with fail
      refine (number_n n _ _ _ (zs.take 4) _ ((numOf_take _).trans HN.out) (by have := HZ.out; simp; omega) (by omega) ((HB.out.take 4).drewN _) (H8.out.take 4)).mono ?_
      rintro e w1 ⟨rfl, n1, hw1⟩
      have HB2 : Hid (Bytes w1 (some ⟨b, off, none⟩) zs) := by rw [hw1]; exact HB.out
      have HK2 : Hid (Kept No w w1) := by rw [hw1]; exact (Kept.no_drewN _ _).drewN _
      clear hw1
      go_wp2_with fail
      go_quiet ((first
        | (go_at_call 195; exact Calls.quiet_of (number_n P2 _ _ _ (zs.drop (n + 8)) _ HP2.out (by have := HZ.out; simp; omega) (by omega) ((HB2.out.drop (n + 8)).drewN _) (H8.out.drop _)))
        | (go_at_call 196; exact Calls.quiet_of_same (rsum_n S2 _ _ _ (zs.take (n + 8)) _ HS2.out (by have := HZ.out; simp; omega) (by omega) ((HB2.out.take (n + 8)).drewN _) (H8.out.take _)))))
      go_wp2_with (at_builtin; go_must (refine wp_app _ Tryz.underlying30 Tryz.info5 rfl _ _ rfl w.heap.size none 0 0 [] rfl rfl (OwnS.nil _ _) _ _ _ ((zs.drop 8).take n) rfl (by have := HZ.out; simp; omega) (((HB2.out.drop 8).take n).drewN _) (fun e => by cases e) (by have := HZ.out; simp; omega) (HK2.out.drewN _).size ?_; intro a3 c3 w3 HO3 HK3' HN3))
      have HK3 : Hid (Kept No w w3) := (HK2.out.drewN _).fresh HK3'.out (fun i e => absurd e At.none)
      go_ret2
      exact ⟨a3, n, c3, by rw [HO.out]; rfl, by rw [HO.out]; have := HZ.out; simp; omega, by rw [HO.out]; exact HO3.out, HK3.out⟩
    · have hq' : (P2 == S2) = false := by simpa using hq
      have HO : Hid (openOf zs = ([], 12)) := by unfold Hid openOf; rw [HP.out, HS.out, HZ.out, HN.out, if_neg (by omega), if_neg (by simpa using hps), if_neg (by omega), if_neg (by omega), if_neg (by omega), Int.toNat_natCast, HP2.out, HS2.out, if_pos (by simpa using hq)]
      clear hps hq
      go_enter Tryz.func169, Tryz.ntmps169
      go_wp2
      go_quiet ((first
        | (go_at_call 195; exact Calls.quiet_of (number_n P _ _ _ ((zs.drop 4).take 4) _ ((numOf_take _).trans HP.out) (by have := HZ.out; simp; omega) (by omega) (((HB.out.drop 4).take 4).drewN _) ((H8.out.drop 4).take 4)))
        | (go_at_call 196; exact Calls.quiet_of_same (rsum_n S _ _ _ (zs.take 4) _ HS.out (by have := HZ.out; simp; omega) (by omega) ((HB.out.take 4).drewN _) (H8.out.take 4)))))
      go_wp2_with fail
      refine (number_n n _ _ _ (zs.take 4) _ ((numOf_take _).trans HN.out) (by have := HZ.out; simp; omega) (by omega) ((HB.out.take 4).drewN _) (H8.out.take 4)).mono ?_
      rintro e w1 ⟨rfl, n1, hw1⟩
      have HB2 : Hid (Bytes w1 (some ⟨b, off, none⟩) zs) := by rw [hw1]; exact HB.out
      have HK2 : Hid (Kept No w w1) := by rw [hw1]; exact (Kept.no_drewN _ _).drewN _
      clear hw1
      go_wp2_with fail
      go_quiet ((first
        | (go_at_call 195; exact Calls.quiet_of (number_n P2 _ _ _ (zs.drop (n + 8)) _ HP2.out (by have := HZ.out; simp; omega) (by omega) ((HB2.out.drop (n + 8)).drewN _) (H8.out.drop _)))
        | (go_at_call 196; exact Calls.quiet_of_same (rsum_n S2 _ _ _ (zs.take (n + 8)) _ HS2.out (by have := HZ.out; simp; omega) (by omega) ((HB2.out.take (n + 8)).drewN _) (H8.out.take _)))))
      go_wp2
      go_ret2
      exact opens_no 12 HO.out (HK2.out.drewN _)
  · have hps' : (P == S) = false := by simpa using hps
    have HO : Hid (openOf zs = ([], 12)) := by unfold Hid openOf; rw [HP.out, HS.out, HZ.out, if_neg (by omega), if_pos hps]
    clear hps
    go_enter Tryz.func169, Tryz.ntmps169
    go_wp2
    go_quiet ((first
      | (go_at_call 195; exact Calls.quiet_of (number_n P _ _ _ ((zs.drop 4).take 4) _ ((numOf_take _).trans HP.out) (by have := HZ.out; simp; omega) (by omega) (((HB.out.drop 4).take 4).drewN _) ((H8.out.drop 4).take 4)))
      | (go_at_call 196; exact Calls.quiet_of_same (rsum_n S _ _ _ (zs.take 4) _ HS.out (by have := HZ.out; simp; omega) (by omega) ((HB.out.take 4).drewN _) (H8.out.take 4)))))
    go_wp2
    go_ret2
    exact opens_no 12 HO.out (Kept.no_drewN _ _)


set_option maxRecDepth 1000000 in
set_option maxHeartbeats 400000 in
theorem ropen_cut (a : Option Addr) (m cap : Nat) (zs : List Int) (w : World) (hz : zs.length = m) (hl : m < 8) :
    Calls Tryz.prog 169 #[.slice a m cap] w (Opens w zs) := by
  have HO : Hid (openOf zs = ([], 10)) := by unfold Hid openOf; rw [if_pos (by omega)]
  clear hz
  go_enter Tryz.func169, Tryz.ntmps169
  go_wp2
  go_ret2
  exact opens_no 10 HO.out (Kept.refl _ _)

end Go.Proofs.YtgdnofacgfjaeabGreat
