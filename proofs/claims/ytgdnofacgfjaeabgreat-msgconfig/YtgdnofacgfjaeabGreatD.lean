import Derived.Test.YtgdnofacgfjaeabGreatC
import Derived.Test.YtgdnofacgfjaeabGreatT
namespace Go.Proofs.YtgdnofacgfjaeabGreat
open Go.RowKit
set_option linter.unusedVariables false

theorem and127 (v : Nat) (h : W64 v) : bits .and .u64 (v : Int) 127 = (v : Int) % 128 := by
  unfold W64 at h
  exact bits_mask .u64 64 (by decide) (fun n a b => by simp [IntKind.wrap, IntKind.bits, IntKind.signed]; omega) 7 (by decide) (v : Int) (by omega) (by omega)

set_option maxRecDepth 1000000 in
set_option maxHeartbeats 1000000 in
theorem rvarint_any (u : Nat) (w : World) (hu : W64 u) :
    Calls Tryz.prog 234 #[.int .u64 (u : Int)] w fun e w' => ∃ a' n' c', e = .returned (.slice a' n' c') ∧ n' = (vint u).length ∧ OwnS w' w.heap.size a' c' (vint u) ∧ Kept No w w' := by
  have HU : Hid (W64 u) := hu
  have HV : Hid ((vint u).length ≤ 10) := vint_len10 u hu
  clear hu
  go_enter Tryz.func234, Tryz.ntmps234
  go_wp2
  go_loopw [0, 3] (fun s o wr => ∃ v : Nat, ∃ a' n' c', Hid (W64 v) ∧ s = .int .u64 (v : Int) ∧ o = .slice a' n' c' ∧ Hid (∃ zs', n' = zs'.length ∧ OwnS wr w.heap.size a' c' zs' ∧ zs' ++ vint v = vint u) ∧ Hid (Kept No w wr)) (fun s _ _ => (intOf s).toNat)
  case atStart => exact ⟨u, none, 0, 0, HU, rfl, rfl, ⟨[], rfl, OwnS.nil _ _, rfl⟩, Kept.refl _ _⟩
  case round =>
    obtain ⟨v, a1, n1, c1, HV2, rfl, rfl, HR, HK⟩ := hrel
    obtain ⟨zs1, hn1, ho1, he1⟩ := HR.out
    have HN1 : Hid (n1 = zs1.length) := hn1
    have HO1 : Hid (OwnS wr w.heap.size a1 c1 zs1) := ho1
    have HE1 : Hid (zs1 ++ vint v = vint u) := he1
    clear hn1 ho1 he1 HR
    by_cases hlt : v < 128
    · have h2 : ¬ (127 : Int) < (v : Int) := by omega
      have hn : n1 ≤ 10 := by have h1 := congrArg List.length HE1.out; have := HV.out; have := HN1.out; rw [List.length_append] at h1; omega
      go_wp2_with (at_builtin; go_must (refine wp_appB _ Tryz.underlying30 Tryz.info5 rfl _ _ rfl w.heap.size _ _ _ zs1 rfl HN1.out.symm (HO1.out.no ((Kept.refl _ _).alloc _)) _ _ _ [(v : Int)] rfl rfl (one_own _ _).bytes (fun e => by cases e) (by omega) (by have := HK.out.size; simp; omega) ?_; intro a2 c2 w2 HO2 HK2 HM2))
      go_ret
      exact ⟨a2, _, c2, rfl, by rw [← HE1.out, vint_lo hlt, HN1.out]; simp, by rw [← HE1.out, vint_lo hlt]; exact HO2.out, (HK.out.alloc _).fresh HK2.out (fun i e => HO1.out.base e)⟩
    · have h2 : (127 : Int) < (v : Int) := by omega
      have h3 : (v : Int) ≤ 18446744073709551615 := by have := HV2.out; unfold W64 at this; omega
      have hb := and127 v HV2.out
      have hn : n1 ≤ 10 := by have h1 := congrArg List.length HE1.out; have := HV.out; have := HN1.out; rw [List.length_append] at h1; omega
      go_wp2_with (at_builtin; go_must (refine wp_appB _ Tryz.underlying30 Tryz.info5 rfl _ _ rfl w.heap.size _ _ _ zs1 rfl HN1.out.symm (HO1.out.no ((Kept.refl _ _).alloc _)) _ _ _ [(v : Int) % 128 + 128] rfl rfl (one_own _ _).bytes (fun e => by cases e) (by omega) (by have := HK.out.size; simp; omega) ?_; intro a2 c2 w2 HO2 HK2 HM2))
      have HF : Hid (∃ zs', n1 + 1 = zs'.length ∧ OwnS w2 w.heap.size a2 c2 zs' ∧ zs' ++ vint (v / 128) = vint u) := ⟨_, by rw [HN1.out]; simp, HO2.out, by rw [← HE1.out, vint_hi hlt]; simp⟩
      have HK3 : Hid (Kept No w w2) := (HK.out.alloc _).fresh HK2.out (fun i e => HO1.out.base e)
      go_roundw
      case rel => exact ⟨v / 128, a2, n1 + 1, c2, HV2.out.div 128, by go_num, rfl, HF, HK3⟩
      case measure => simp [intOf]; omega

end Go.Proofs.YtgdnofacgfjaeabGreat
