import Derived.Test.YtnhjpghkmbgeaaaB
import Derived.Test.YtnhjpghkmbgeaaaO
namespace Go.Proofs.Ytnhjpghkmbgeaaa
open Go.ChangeShapes Go.WideShapes Go.ChangeAt Go.RowKit
open Go.ChangeMaps (open_string shut_string)
set_option linter.unusedVariables false

namespace wireSums

set_option maxHeartbeats 400000 in
theorem walk (a : Option Addr) (cap : Nat) (zs : List Int) (w : World) (hm : zs.length ≤ 140737488351232) (hb : Bytes w a zs) (h8 : U8 zs) :
    Calls Try.prog 5 #[.slice a zs.length cap] w fun e w' => e = .returned (.bool true) ∧ Below w.heap.size w w' := by
  have HB : Hid (Bytes w a zs) := hb
  have H8 : Hid (U8 zs) := h8
  clear hb h8
  go_enter Try.func5, Try.ntmps5
  go_wp2_with fail
  refine (lend_any _ _ zs _ (by omega) HB.out).mono ?_
  rintro e w1 ⟨rfl, hB1, hK1⟩
  have HB1 : Hid (Blk w1 w.heap.size (lent zs 5)) := hB1
  have HK1 : Hid (Kept No w w1) := hK1
  clear hB1 hK1
  go_wp2_with fail
  refine (sum_any _ _ zs _ (by omega) (by have := HB1.out.bytes0 zs.length; rw [lent_take] at this; exact this) H8.out).mono ?_
  rintro e w2 ⟨rfl, rfl⟩
  go_wp2_with fail
  refine (back_any _ _ _ zs _ (by omega) HB1.out (HB.out.no HK1.out)).mono ?_
  rintro e w3 ⟨rfl, hK3⟩
  have HK3 : Hid (Kept (Only w.heap.size) w w3) := HK1.out.of_no.then hK3
  have HB3 : Hid (Bytes w3 a zs) := by
    intro i hi
    obtain ⟨b, off, rfl, hc⟩ := HB.out i hi
    have hlt : b < w.heap.size := World.block_lt_of_cell? w _ hc
    exact ⟨b, off, rfl, HK3.out.cell hc (fun e => by have e' : b = w.heap.size := e; omega)⟩
  clear hK3
  go_wp2_with fail
  refine (rsum_any _ _ zs _ (by omega) HB3.out H8.out).mono ?_
  rintro e w4 ⟨rfl, rfl⟩
  go_wp2
  go_ret
  exact ⟨by simp, HK3.out.below (Nat.le_refl _) (fun k e => by simp only [Only] at e; omega)⟩

set_option maxRecDepth 100000 in
theorem lifted (os : Os) (started : os.Started) (H : Type) (enc : TypeId × Value → H) :
    ReturnsInHanded {} Try.checked os 5 .any (Rows.wireSumsSpec.pre6 enc Try.prog Try.f5 Rows.wireSumsRow.domain false) (Rows.wireSumsSpec.post enc Try.prog Try.f5 false true false false) := by
  refine returnsInHanded_of_change_sized (C := Try.checked) own started (by kernel_rfl) Try.func5
    (ChangeSpec.witness6 (enc := enc) (C := Try.checked) false ⟨#[], #[.slice none 0 0], []⟩ 8 (by kernel_rfl) (by kernel_rfl) (by kernel_rfl) (by kernel_rfl)) ?_
  intro W base args ds gs before hval0 hW hcnd hsz0 hlone
  have hval : ∀ (j : Nat) t v, Try.f5.params[j]? = some t → args[j]? = some v → Value.okWide Try.prog W .any base t v := hval0
  have hsz1 : (DataW.weightsEach Try.prog (Try.f5.params.toList ++ Rows.wireSumsSpec.plain.varTypes Try.prog) (ds ++ gs)).all (· ≤ reachBytes) = true := hsz0
  have hW' := hW
  obtain ⟨p, q, hA0, hV, rfl, hfz, hnd⟩ := hW
  have hA : DataW.TrodAll enc Try.prog W 0 (fun _ => true) true Try.f5.params.toList args.toList ds p := hA0
  rw [Try.params5] at hA hval hsz1
  obtain ⟨v0, vs0, d0, ds0, p0, q0, hargs, rfl, rfl, h0, r0⟩ := trodAll_cons hA
  obtain ⟨rfl, rfl, rfl⟩ := trodAll_nil r0
  obtain rfl : args = #[v0] := by cases args; simp_all
  obtain ⟨rfl, rfl⟩ := trodVars_none hV
  obtain ⟨a0, len0, cap0, rfl⟩ := okWide_slice Try.underlying23 (hval 0 23 v0 rfl rfl)
  have k0 := h0
  have lt0 : ∀ x ∈ p0, x.block < W.heap.size := by obtain ⟨m, hm⟩ := k0; exact DataW.trod_lt m _ _ _ hm
  obtain ⟨zs, hz, hb, hB, h8⟩ := opened H enc W a0 len0 cap0 d0 p0 h0 (fun elems spare e => by subst e; exact sized_slice hsz1 (j := 0) (t := 23) (e := 5) rfl rfl Try.underlying23)
  subst hz
  clear hA0 hval0 hsz0
  refine (walk a0 cap0 zs W hb hB h8).mono fun e W' ⟨he, bel⟩ => ?_
  subst he
  exact ⟨_, rfl, _, _, _, [], _, [], hW', trodAll_mk1 (shut_bool Try.underlying4 _), (trodAll_cons_mk (Below.trod laidOut (by kernel_rfl) (of_decide_eq_true (by kernel_rfl)) k0 bel lt0) trodAll_mk0), rfl, bel.frame _, fun h => by cases h⟩

theorem over : Rows.wireSumsRow.holds Try.pinned (OpenSpec.ofChange Rows.wireSumsSpec) :=
  OpenClaim.holds_of_wide 5 Try.f5 rfl rfl rfl rfl rfl rfl rfl ⟨rfl, rfl, rfl, rfl, rfl⟩ rfl rfl rfl rfl rfl (by kernel_rfl) Try.func5 (by kernel_rfl)
    (of_decide_eq_true (by kernel_rfl)) (by unfold Func.isWrapper; first | (rw [if_pos (by decide +kernel)]; kernel_rfl) | (rw [if_neg (by decide +kernel)]; exact ⟨rfl, rfl⟩))
    (fun os started H enc _ => lifted os started H enc)

end wireSums

theorem wireSums_holds : Rows.WireSumsSaid := wireSums.over

#print axioms wireSums_holds
end Go.Proofs.Ytnhjpghkmbgeaaa
