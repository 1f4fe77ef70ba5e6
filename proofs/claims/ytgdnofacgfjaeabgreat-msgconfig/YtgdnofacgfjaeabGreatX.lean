import Derived.Test.YtgdnofacgfjaeabGreatV
namespace Go.Proofs.YtgdnofacgfjaeabGreat
open Go.RowKit
set_option linter.unusedVariables false

set_option maxRecDepth 1000000 in
set_option maxHeartbeats 1000000 in
theorem varint_any (base g : Nat) (a : Option Addr) (c : Nat) (zs : List Int) (u : Nat) (w : World)
    (hw : Wr w base g a c zs false) (hu : W64 u) (hlen : zs.length + 10 ≤ 140737488355328) (hbase : base ≤ w.heap.size) :
    Calls Tryz.prog 138 #[.pointer (some ⟨g, 0, none⟩), .int .u64 (u : Int)] w fun e w' => e = .returned (.tuple #[]) ∧ ∃ a' c', Wr w' base g a' c' (zs ++ vint u) false ∧ Kept (WrAt g a) w w' ∧ Moved w a a' := by
  have HW : Hid (Wr w base g a c zs false) := hw
  have HV : Hid ((vint u).length ≤ 10) := vint_len10 u hu
  have HU : Hid (W64 u) := hu
  clear hw hu
  go_enter Tryz.func138, Tryz.ntmps138
  go_wp2
  go_loopw [1] (fun s wr => ∃ v : Nat, Hid (W64 v) ∧ s = .int .u64 (v : Int) ∧ Hid (∃ a' c' zs', Wr wr base g a' c' zs' false ∧ zs' ++ vint v = zs ++ vint u ∧ Kept (WrAt g a) w wr ∧ Moved w a a')) (fun s _ => (intOf s).toNat)
  case atStart => exact ⟨u, HU, rfl, a, c, zs, HW.out, rfl, Kept.refl _ _, Moved.refl _ _⟩
  case round =>
    obtain ⟨v, HV2, rfl, HR⟩ := hrel
    by_cases hlt : v < 128
    · have h2 : ¬ (128 : Int) ≤ (v : Int) := by omega
      obtain ⟨a1, c1, zs1, hw1, he1, hk1, hm1⟩ := HR.out
      have HW1 : Hid (Wr wr base g a1 c1 zs1 false) := hw1
      have HE1 : Hid (zs1 ++ vint v = zs ++ vint u) := he1
      have HK1 : Hid (Kept (WrAt g a) w wr) := hk1
      have HM1 : Hid (Moved w a a1) := hm1
      clear hw1 he1 hk1 hm1 HR
      go_wp2_with fail
      refine (join_any base g a1 c1 zs1 _ _ _ [(v : Int)] _ (HW1.out.no ((Kept.refl _ _).alloc _)) rfl (one_own _ _).bytes (fun e => by cases e) ?_ (by have := HK1.out.size; simp; omega)).mono ?_
      · have h1 := congrArg List.length HE1.out; have := HV.out; rw [vint_lo hlt] at h1; simp at h1 ⊢; omega
      rintro e w2 ⟨rfl, a2, c2, hw2, hk2, hm2⟩
      have HF : Hid (∃ a' c', Wr w2 base g a' c' (zs ++ vint u) false ∧ Kept (WrAt g a) w w2 ∧ Moved w a a') :=
        ⟨a2, c2, by rw [← HE1.out, vint_lo hlt]; exact hw2, (HK1.out.then (((Kept.refl No wr).alloc _).of_no)).moved hk2 HM1.out, HM1.out.trans hm2 (by have := HK1.out.size; simp; omega)⟩
      clear hw2 hk2 hm2
      go_wp2
      go_end0
      exact ⟨rfl, HF.out⟩
    · have h2 : (128 : Int) ≤ (v : Int) := by omega
      have h3 : (v : Int) ≤ 18446744073709551615 := by have := HV2.out; unfold W64 at this; omega
      obtain ⟨a1, c1, zs1, hw1, he1, hk1, hm1⟩ := HR.out
      have HW1 : Hid (Wr wr base g a1 c1 zs1 false) := hw1
      have HE1 : Hid (zs1 ++ vint v = zs ++ vint u) := he1
      have HK1 : Hid (Kept (WrAt g a) w wr) := hk1
      have HM1 : Hid (Moved w a a1) := hm1
      clear hw1 he1 hk1 hm1 HR
      go_wp2_with fail
      refine (join_any base g a1 c1 zs1 _ _ _ [((v % 128 + 128 : Nat) : Int)] _ (HW1.out.no ((Kept.refl _ _).alloc _)) rfl ?_ (fun e => by cases e) ?_ (by have := HK1.out.size; simp; omega)).mono ?_
      · rw [show ((v % 128 + 128 : Nat) : Int) = (v : Int) % 128 + 128 from by omega]; exact (one_own _ _).bytes
      · have h1 := congrArg List.length HE1.out; have := HV.out; rw [vint_hi hlt] at h1; simp at h1 ⊢; omega
      rintro e w2 ⟨rfl, a2, c2, hw2, hk2, hm2⟩
      have HF : Hid (∃ a' c' zs', Wr w2 base g a' c' zs' false ∧ zs' ++ vint (v / 128) = zs ++ vint u ∧ Kept (WrAt g a) w w2 ∧ Moved w a a') :=
        ⟨a2, c2, _, hw2, by rw [← HE1.out, vint_hi hlt]; simp, (HK1.out.then (((Kept.refl No wr).alloc _).of_no)).moved hk2 HM1.out, HM1.out.trans hm2 (by have := HK1.out.size; simp; omega)⟩
      clear hw2 hk2 hm2
      go_wp2
      go_roundw
      case rel => exact ⟨v / 128, HV2.out.div 128, by go_num, HF⟩
      case measure => simp [intOf]; omega

end Go.Proofs.YtgdnofacgfjaeabGreat
