import Derived.Test.YtgdnofacgfjaeabGreatOc
import Derived.Test.YtgdnofacgfjaeabGreatOg
import Derived.JoinedCond
import Derived.Deep.CondSized
namespace Go.Proofs.YtgdnofacgfjaeabGreat.Md
open Go.ChangeShapes Go.WideShapes Go.ChangeAt Go.RowKit
open Go.ChangeMaps (open_string shut_string)
set_option linter.unusedVariables false
set_option linter.unusedSimpArgs false
namespace msgStored
set_option maxRecDepth 100000 in
theorem lifted (os : Os) (started : os.Started) (H : Type) (enc : TypeId × Value → H) :
    ReturnsInHanded {} Tryz.checked os 3 .any (Rows.msgStoredSpec.pre6 enc Tryz.prog Tryz.f3 Rows.msgStoredRow.domain false) (Rows.msgStoredSpec.post enc Tryz.prog Tryz.f3 false true false false) := by
  refine returnsInHanded_of_change_sized (C := Tryz.checked) own started (by kernel_rfl) Tryz.func3
    (ChangeSpec.witness6 (enc := enc) (C := Tryz.checked) false ⟨#[], #[.agg (Cg.cells cgZ), .slice none 0 0, .slice none 0 0, .slice none 0 0, .slice none 0 0], []⟩ 8 (by kernel_rfl) (by kernel_rfl) (by kernel_rfl) (by kernel_rfl)) ?_
  intro W base args ds gs before hval0 hW hcnd hsz0 hlone
  have hval : ∀ (j : Nat) t v, Tryz.f3.params[j]? = some t → args[j]? = some v → Value.okWide Tryz.prog W .any base t v := hval0
  have hsz1 : (DataW.weightsEach Tryz.prog (Tryz.f3.params.toList ++ Rows.msgStoredSpec.plain.varTypes Tryz.prog) (ds ++ gs)).all (· ≤ reachBytes) = true := hsz0
  have hW' := hW
  obtain ⟨p, q, hA0, hV, rfl, hfz, hnd⟩ := hW
  have hA : DataW.TrodAll enc Tryz.prog W 0 (fun _ => true) true Tryz.f3.params.toList args.toList ds p := hA0
  rw [Tryz.params3] at hA hval hsz1
  obtain ⟨v0, vs0, d0, ds0, p0, q0, hargs, rfl, rfl, h0, r0⟩ := trodAll_cons hA
  obtain ⟨v1, vs1, d1, ds1, p1, q1, rfl, rfl, rfl, h1, r1⟩ := trodAll_cons r0
  obtain ⟨v2, vs2, d2, ds2, p2, q2, rfl, rfl, rfl, h2, r2⟩ := trodAll_cons r1
  obtain ⟨v3, vs3, d3, ds3, p3, q3, rfl, rfl, rfl, h3, r3⟩ := trodAll_cons r2
  obtain ⟨v4, vs4, d4, ds4, p4, q4, rfl, rfl, rfl, h4, r4⟩ := trodAll_cons r3
  obtain ⟨rfl, rfl, rfl⟩ := trodAll_nil r4
  obtain rfl : args = #[v0, v1, v2, v3, v4] := by cases args; simp_all
  obtain ⟨rfl, rfl⟩ := trodVars_none hV
  have k0 := h0
  have k1 := h1
  have k2 := h2
  have k3 := h3
  have k4 := h4
  have lt0 : ∀ x ∈ p0, x.block < W.heap.size := by obtain ⟨m, hm⟩ := k0; exact DataW.trod_lt m _ _ _ hm
  have lt1 : ∀ x ∈ p1, x.block < W.heap.size := by obtain ⟨m, hm⟩ := k1; exact DataW.trod_lt m _ _ _ hm
  have lt2 : ∀ x ∈ p2, x.block < W.heap.size := by obtain ⟨m, hm⟩ := k2; exact DataW.trod_lt m _ _ _ hm
  have lt3 : ∀ x ∈ p3, x.block < W.heap.size := by obtain ⟨m, hm⟩ := k3; exact DataW.trod_lt m _ _ _ hm
  have lt4 : ∀ x ∈ p4, x.block < W.heap.size := by obtain ⟨m, hm⟩ := k4; exact DataW.trod_lt m _ _ _ hm
  obtain ⟨c, zs, rfl, hc⟩ := opened_cg H enc W base v0 d0 p0 (hval 0 24 v0 rfl rfl) h0 hsz1 (j := 0) rfl rfl
  obtain ⟨a1, l1, c1, rfl⟩ := okWide_slice U25 (hval 1 25 v1 rfl rfl)
  obtain ⟨os, hm1, hm2, hm3⟩ := opened_os H enc W a1 l1 c1 d1 p1 h1 hsz1 (j := 1) rfl rfl
  obtain ⟨a2, l2, c2, rfl⟩ := okWide_slice U26 (hval 2 26 v2 rfl rfl)
  obtain ⟨ns, hx1, _, hx2⟩ := opened_ns H enc W a2 l2 c2 d2 p2 h2 hsz1 (j := 2) rfl rfl
  obtain ⟨a3, l3, c3, rfl⟩ := okWide_slice U27 (hval 3 27 v3 rfl rfl)
  obtain ⟨ks, hk1, hk2, hk3⟩ := opened_ks H enc W a3 l3 c3 d3 p3 h3 hsz1 (j := 3) rfl rfl
  obtain ⟨a4, l4, c4, rfl⟩ := okWide_slice U28 (hval 4 28 v4 rfl rfl)
  obtain ⟨rb, hs1, hs2, hs3⟩ := opened_ss H enc W a4 l4 c4 d4 p4 h4 hsz1 (j := 4) rfl rfl
  clear hA0 hval0 hsz0
  refine (storedWalk c ⟨a1, l1, c1⟩ ⟨a2, l2, c2⟩ ⟨a3, l3, c3⟩ ⟨a4, l4, c4⟩ zs os ns ks rb W hc hm1 hm2 hx1 hk1 hk2 hs1 hs2 hm3 hx2 hk3 hs3).mono fun e W' ⟨he, hkk⟩ => ?_
  have bel : Below W.heap.size W W' := hkk.below (Nat.le_refl _) (fun _ e => e.elim)
  subst he
  exact ⟨_, rfl, _, _, _, [], _, [], hW', trodAll_mk1 (shut_bool Tryz.und4 _), (trodAll_cons_mk (Below.trod laidOut (by kernel_rfl) (of_decide_eq_true (by kernel_rfl)) k0 bel lt0) (trodAll_cons_mk (Below.trod laidOut (by kernel_rfl) (of_decide_eq_true (by kernel_rfl)) k1 bel lt1) (trodAll_cons_mk (Below.trod laidOut (by kernel_rfl) (of_decide_eq_true (by kernel_rfl)) k2 bel lt2) (trodAll_cons_mk (Below.trod laidOut (by kernel_rfl) (of_decide_eq_true (by kernel_rfl)) k3 bel lt3) (trodAll_cons_mk (Below.trod laidOut (by kernel_rfl) (of_decide_eq_true (by kernel_rfl)) k4 bel lt4) trodAll_mk0))))), rfl, bel.frame _, fun h => by cases h⟩
theorem over : Rows.msgStoredRow.holds Tryz.pinned (OpenSpec.ofChange Rows.msgStoredSpec) :=
  OpenClaim.holds_of_wide 3 Tryz.f3 rfl rfl rfl rfl rfl rfl rfl ⟨rfl, rfl, rfl, rfl, rfl⟩ rfl rfl rfl rfl rfl (by kernel_rfl) Tryz.func3 (by kernel_rfl)
    (of_decide_eq_true (by kernel_rfl)) (by unfold Func.isWrapper; first | (rw [if_pos (by decide +kernel)]; kernel_rfl) | (rw [if_neg (by decide +kernel)]; exact ⟨rfl, rfl⟩))
    (fun os started H enc _ => lifted os started H enc)
end msgStored
end Go.Proofs.YtgdnofacgfjaeabGreat.Md
namespace Go.Proofs.YtgdnofacgfjaeabGreat
theorem msgStored_holds : Rows.MsgStoredSaid := Md.msgStored.over
#print axioms msgStored_holds
end Go.Proofs.YtgdnofacgfjaeabGreat
