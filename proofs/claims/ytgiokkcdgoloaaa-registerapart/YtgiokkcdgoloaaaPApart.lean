import Derived.Test.YtgiokkcdgoloaaaWApart
import Derived.Test.YtgiokkcdgoloaaaOf
import Derived.JoinedCond
import Derived.Deep.CondSized
namespace Go.Proofs.Ytgiokkcdgoloaaa.Md
open Go.ChangeShapes Go.WideShapes Go.ChangeAt Go.RowKit
open Go.ChangeMaps (open_string shut_string)
set_option linter.unusedVariables false
set_option linter.unusedSimpArgs false


namespace registerApart
set_option maxRecDepth 100000 in
theorem lifted (os : Os) (started : os.Started) (H : Type) (enc : TypeId × Value → H) :
    ReturnsInHanded {} Try.checked os 8 .any (Rows.registerApartSpec.pre6 enc Try.prog Try.f8 Rows.registerApartRow.domain false) (Rows.registerApartSpec.post enc Try.prog Try.f8 false true false false) := by
  refine returnsInHanded_of_change_sized (C := Try.checked) own started (by kernel_rfl) Try.func8
    (ChangeSpec.witness6 (enc := enc) (C := Try.checked) false ⟨#[], #[.agg (Aq.cells ⟨false, 0, 0, kyZ, slZ, 0, 0, slZ⟩), .agg (Aq.cells ⟨false, 0, 0, kyZ, slZ, 0, 0, slZ⟩), .slice none 0 0, .slice none 0 0, .slice none 0 0], []⟩ 8 (by kernel_rfl) (by kernel_rfl) (by kernel_rfl) (by kernel_rfl)) ?_
  intro W base args ds gs before hval0 hW hcnd hsz0 hlone
  have hval : ∀ (j : Nat) t v, Try.f8.params[j]? = some t → args[j]? = some v → Value.okWide Try.prog W .any base t v := hval0
  have hsz1 : (DataW.weightsEach Try.prog (Try.f8.params.toList ++ Rows.registerApartSpec.plain.varTypes Try.prog) (ds ++ gs)).all (· ≤ reachBytes) = true := hsz0
  have hW' := hW
  obtain ⟨p, q, hA0, hV, rfl, hfz, hnd⟩ := hW
  have hA : DataW.TrodAll enc Try.prog W 0 (fun _ => true) true Try.f8.params.toList args.toList ds p := hA0
  rw [Try.params8] at hA hval hsz1
  obtain ⟨v0, vs0, d0, ds0, p0, q0, hargs, rfl, rfl, h0, r0⟩ := trodAll_cons hA
  obtain ⟨v1, vs1, d1, ds1, p1, q1, rfl, rfl, rfl, h1, r1⟩ := trodAll_cons r0
  obtain ⟨v2, vs2, d2, ds2, p2, q2, rfl, rfl, rfl, h2, r2⟩ := trodAll_cons r1
  obtain ⟨v3, vs3, d3, ds3, p3, q3, rfl, rfl, rfl, h3, r3⟩ := trodAll_cons r2
  obtain ⟨v4, vs4, d4, ds4, p4, q4, rfl, rfl, rfl, h4, r4⟩ := trodAll_cons r3
  obtain ⟨rfl, rfl, rfl⟩ := trodAll_nil r4
  obtain rfl : args = #[v0, v1, v2, v3, v4] := by cases args; simp_all
  obtain ⟨rfl, rfl⟩ := trodVars_none hV
  have k0 := h0
  have k1 := h1
  have k2 := h2
  have k3 := h3
  have k4 := h4
  have lt0 : ∀ x ∈ p0, x.block < W.heap.size := by obtain ⟨m, hm⟩ := k0; exact DataW.trod_lt m _ _ _ hm
  have lt1 : ∀ x ∈ p1, x.block < W.heap.size := by obtain ⟨m, hm⟩ := k1; exact DataW.trod_lt m _ _ _ hm
  have lt2 : ∀ x ∈ p2, x.block < W.heap.size := by obtain ⟨m, hm⟩ := k2; exact DataW.trod_lt m _ _ _ hm
  have lt3 : ∀ x ∈ p3, x.block < W.heap.size := by obtain ⟨m, hm⟩ := k3; exact DataW.trod_lt m _ _ _ hm
  have lt4 : ∀ x ∈ p4, x.block < W.heap.size := by obtain ⟨m, hm⟩ := k4; exact DataW.trod_lt m _ _ _ hm
  obtain ⟨⟨wr1, cl1, op1, ky1, ⟨sa1, n1, sk1⟩, rd1, sz1, ⟨da1, dl1, dk1⟩⟩, gs1, zs1, rfl, hg1, hz1, hb1, hl1⟩ := opened_ask H enc W base v0 d0 p0 (hval 0 27 v0 rfl rfl) h0 hsz1 (j := 0) rfl rfl
  obtain ⟨⟨wr2, cl2, op2, ky2, ⟨sa2, n2, sk2⟩, rd2, sz2, ⟨da2, dl2, dk2⟩⟩, gs2, zs2, rfl, hg2, hz2, hb2, hl2⟩ := opened_ask H enc W base v1 d1 p1 (hval 1 27 v1 rfl rfl) h1 hsz1 (j := 1) rfl rfl
  obtain ⟨a2, l2, c2, rfl⟩ := okWide_slice U28 (hval 2 28 v2 rfl rfl)
  obtain ⟨xs, hx1, hx2⟩ := opened_stps H enc W a2 l2 c2 d2 p2 h2 hsz1 (j := 2) rfl rfl
  obtain ⟨a3, l3, c3, rfl⟩ := okWide_slice U28 (hval 3 28 v3 rfl rfl)
  obtain ⟨ys, hy1, hy2⟩ := opened_stps H enc W a3 l3 c3 d3 p3 h3 hsz1 (j := 3) rfl rfl
  obtain ⟨a4, l4, c4, rfl⟩ := okWide_slice U24 (hval 4 24 v4 rfl rfl)
  obtain ⟨f4, hf4⟩ := h4
  obtain ⟨s4, vs, e4, hv4, _⟩ := ints_ok (by simpa [Value.cells] using hf4)
  clear hA0 hval0 hsz0
  refine (apartWalk wr1 cl1 op1 ky1 sa1 n1 sk1 rd1 sz1 da1 dl1 dk1 gs1 zs1 wr2 cl2 op2 ky2 sa2 n2 sk2 rd2 sz2 da2 dl2 dk2 gs2 zs2 ⟨a2, l2, c2⟩ ⟨a3, l3, c3⟩ ⟨a4, l4, c4⟩ xs ys vs W hg1 hz1 hb1 hl1 hg2 hz2 hb2 hl2 hx2 hy2 hx1 hy1 (by rw [slv_inj (a := ⟨a4, l4, c4⟩) (b := s4) e4]; exact hv4)).mono fun e W' ⟨he, hkk⟩ => ?_
  have bel : Below W.heap.size W W' := hkk.below (Nat.le_refl _) (fun _ e => e.elim)
  subst he
  exact ⟨_, rfl, _, _, _, [], _, [], hW', trodAll_mk1 (shut_bool Try.und4 _), (trodAll_cons_mk (Below.trod laidOut (by kernel_rfl) (of_decide_eq_true (by kernel_rfl)) k0 bel lt0) (trodAll_cons_mk (Below.trod laidOut (by kernel_rfl) (of_decide_eq_true (by kernel_rfl)) k1 bel lt1) (trodAll_cons_mk (Below.trod laidOut (by kernel_rfl) (of_decide_eq_true (by kernel_rfl)) k2 bel lt2) (trodAll_cons_mk (Below.trod laidOut (by kernel_rfl) (of_decide_eq_true (by kernel_rfl)) k3 bel lt3) (trodAll_cons_mk (Below.trod laidOut (by kernel_rfl) (of_decide_eq_true (by kernel_rfl)) k4 bel lt4) trodAll_mk0))))), rfl, bel.frame _, fun h => by cases h⟩

theorem over : Rows.registerApartRow.holds Try.pinned (OpenSpec.ofChange Rows.registerApartSpec) :=
  OpenClaim.holds_of_wide 8 Try.f8 rfl rfl rfl rfl rfl rfl rfl ⟨rfl, rfl, rfl, rfl, rfl⟩ rfl rfl rfl rfl rfl (by kernel_rfl) Try.func8 (by kernel_rfl)
    (of_decide_eq_true (by kernel_rfl)) (by unfold Func.isWrapper; first | (rw [if_pos (by decide +kernel)]; kernel_rfl) | (rw [if_neg (by decide +kernel)]; exact ⟨rfl, rfl⟩))
    (fun os started H enc _ => lifted os started H enc)

end registerApart
end Go.Proofs.Ytgiokkcdgoloaaa.Md
namespace Go.Proofs.Ytgiokkcdgoloaaa
theorem registerApart_holds : Rows.RegisterApartSaid := Md.registerApart.over

#print axioms registerApart_holds
end Go.Proofs.Ytgiokkcdgoloaaa
