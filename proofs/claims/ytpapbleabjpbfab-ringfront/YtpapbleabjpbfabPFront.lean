import Derived.Test.YtpapbleabjpbfabWFront
import Derived.Test.YtpapbleabjpbfabOd
import Derived.SliceStrings
namespace Go.Proofs.Ytpapbleabjpbfab
open Go.ChangeShapes Go.WideShapes Go.ChangeAt Go.RowKit
open Go.ChangeMaps (open_string shut_string)
set_option linter.unusedVariables false

theorem Try.cells9 : Try.prog.cellsOf 9 = 1 := by kernel_rfl
theorem Try.bytes9 : Try.prog.bytesOf 9 = 16 := by kernel_rfl

/-- Texts that came in. -/
theorem opened_strs (H : Type) (enc : TypeId × Value → H) (W : World) (a0 : Option Addr) (len0 cap0 : Nat) (d0 : DataW H) (p0 : List MemPlace)
    (h0 : DataW.Trod enc Try.prog W 0 (fun _ => true) true 45 (.slice a0 len0 cap0) d0 p0)
    {ts : List TypeId} {ds : List (DataW H)} (hsz : (DataW.weightsEach Try.prog ts ds).all (· ≤ reachBytes) = true) {j : Nat} (ht : ts[j]? = some 45) (hd : ds[j]? = some d0) :
    ∃ xs : List ByteArray, xs.length = len0 ∧ len0 ≤ 140737488351232 ∧ Strs W a0 xs ∧ ∀ x ∈ xs, x.size ≤ 9223372036854775807 := by
  obtain ⟨fuel, hf⟩ := h0
  rcases open_strings Try.underlying45 Try.underlying9 Try.cells9 hf with ⟨hcs, _⟩ | ⟨x, l, c, ss, hcs, hq, hl, hm, hss, hx, hel, hsm⟩
  · simp [Value.cells] at hcs
    obtain ⟨rfl, rfl, rfl⟩ := hcs
    exact ⟨[], rfl, by omega, fun i x hx => by simp at hx, fun x hx => by simp at hx⟩
  · simp [Value.cells] at hcs
    obtain ⟨rfl, rfl, rfl⟩ := hcs
    simp only [if_true] at hss
    simp only [Prod.mk.injEq] at hx
    have hb : len0 ≤ 140737488351232 := by
      have := sized_slice hsz (j := j) (t := 45) (e := 9) ht (by rw [hd, hx.1]) Try.underlying45
      rw [Try.bytes9] at this
      simp only [strs, List.length_map, List.length_take, List.length_drop, reachBytes] at this
      omega
    refine ⟨ss.take len0, by simp; omega, hb, ?_, ?_⟩
    · intro i s hs
      have hi : i < len0 := by have := (List.getElem?_eq_some_iff.1 hs).1; simp at this; omega
      have hc := hel i (by omega)
      have he : ss.getD i ByteArray.empty = s := by
        rw [List.getElem?_take, if_pos hi] at hs
        rw [List.getD_eq_getElem?_getD, hs]; rfl
      rw [he] at hc
      obtain ⟨b, off, spot⟩ := x
      have hspot : spot = none := by
        have h00 := hel 0 (by omega)
        have := World.cell?_spot h00
        simpa [Addr.add] using this
      subst hspot
      rw [addr_add] at hc
      exact ⟨b, off, rfl, hc⟩
    · intro s hs
      have := hsm s (List.mem_of_mem_take hs)
      unfold maxLen at this
      omega


namespace ringFront
set_option maxRecDepth 100000 in
theorem lifted (os : Os) (started : os.Started) (H : Type) (enc : TypeId × Value → H) :
    ReturnsInHanded {} Try.checked os 4 .any (Rows.ringFrontSpec.pre6 enc Try.prog Try.f4 Rows.ringFrontRow.domain false) (Rows.ringFrontSpec.post enc Try.prog Try.f4 false true false false) := by
  refine returnsInHanded_of_change_sized (C := Try.checked) own started (by kernel_rfl) Try.func4
    (ChangeSpec.witness6 (enc := enc) (C := Try.checked) false ⟨#[], #[.agg #[.slice none 0 0, .int .i64 0, .int .i64 0, .int .i64 0, .int .i64 0, .int .i64 0], .int .i64 0, .int .i64 0, .slice none 0 0, .slice none 0 0], []⟩ 8 (by kernel_rfl) (by kernel_rfl) (by kernel_rfl) (by kernel_rfl)) ?_
  intro W base args ds gs before hval0 hW hcnd hsz0 hlone
  have hval : ∀ (j : Nat) t v, Try.f4.params[j]? = some t → args[j]? = some v → Value.okWide Try.prog W .any base t v := hval0
  have hsz1 : (DataW.weightsEach Try.prog (Try.f4.params.toList ++ Rows.ringFrontSpec.plain.varTypes Try.prog) (ds ++ gs)).all (· ≤ reachBytes) = true := hsz0
  have hW' := hW
  obtain ⟨p, q, hA0, hV, rfl, hfz, hnd⟩ := hW
  have hA : DataW.TrodAll enc Try.prog W 0 (fun _ => true) true Try.f4.params.toList args.toList ds p := hA0
  rw [Try.params4] at hA hval hsz1
  obtain ⟨v0, vs0, d0, ds0, p0, q0, hargs, rfl, rfl, h0, r0⟩ := trodAll_cons hA
  obtain ⟨v1, vs1, d1, ds1, p1, q1, rfl, rfl, rfl, h1, r1⟩ := trodAll_cons r0
  obtain ⟨v2, vs2, d2, ds2, p2, q2, rfl, rfl, rfl, h2, r2⟩ := trodAll_cons r1
  obtain ⟨v3, vs3, d3, ds3, p3, q3, rfl, rfl, rfl, h3, r3⟩ := trodAll_cons r2
  obtain ⟨v4, vs4, d4, ds4, p4, q4, rfl, rfl, rfl, h4, r4⟩ := trodAll_cons r3
  obtain ⟨rfl, rfl, rfl⟩ := trodAll_nil r4
  obtain rfl : args = #[v0, v1, v2, v3, v4] := by cases args; simp_all
  obtain ⟨rfl, rfl⟩ := trodVars_none hV
  obtain ⟨z0, e0, s0⟩ := opened_cfg H enc W base v0 d0 p0 (hval 0 24 v0 rfl rfl) h0 hsz1 (j := 0) rfl rfl
  obtain ⟨x1, rfl, rfl, rfl, b1⟩ := open_int Try.underlying3 (hval 1 3 v1 rfl rfl) h1
  obtain ⟨x2, rfl, rfl, rfl, b2⟩ := open_int Try.underlying3 (hval 2 3 v2 rfl rfl) h2
  obtain ⟨a3, len3, cap3, rfl⟩ := okWide_slice Try.underlying25 (hval 3 25 v3 rfl rfl)
  obtain ⟨a4, len4, cap4, rfl⟩ := okWide_slice Try.underlying45 (hval 4 45 v4 rfl rfl)
  have k0 := h0
  have k3 := h3
  have k4 := h4
  have lt0 : ∀ x ∈ p0, x.block < W.heap.size := by obtain ⟨m, hm⟩ := k0; exact DataW.trod_lt m _ _ _ hm
  have lt3 : ∀ x ∈ p3, x.block < W.heap.size := by obtain ⟨m, hm⟩ := k3; exact DataW.trod_lt m _ _ _ hm
  have lt4 : ∀ x ∈ p4, x.block < W.heap.size := by obtain ⟨m, hm⟩ := k4; exact DataW.trod_lt m _ _ _ hm
  obtain ⟨z3, s3⟩ := opened_keys H enc W a3 len3 cap3 d3 p3 h3 hsz1 (j := 3) rfl rfl
  obtain ⟨z4, s4⟩ := opened_strs H enc W a4 len4 cap4 d4 p4 h4 hsz1 (j := 4) rfl rfl
  clear hA0 hval0 hsz0
  subst e0
  refine (frontWalk z0 x1 x2 a3 len3 cap3 z3 a4 len4 cap4 z4 W s0 (bounds_i64 b1) (bounds_i64 b2) s3.1 s3.2.2.1 (by have := s3.2.1; omega) s4.1 s4.2.2.1 s4.2.2.2 (by have := s4.2.1; omega)).mono fun e W' ⟨he, bel⟩ => ?_
  subst he
  exact ⟨_, rfl, _, _, _, [], _, [], hW', trodAll_mk1 (shut_bool Try.underlying4 _), (trodAll_cons_mk (Below.trod laidOut (by kernel_rfl) (of_decide_eq_true (by kernel_rfl)) k0 bel lt0) (trodAll_cons_mk (shut_int Try.underlying3 b1) (trodAll_cons_mk (shut_int Try.underlying3 b2) (trodAll_cons_mk (Below.trod laidOut (by kernel_rfl) (of_decide_eq_true (by kernel_rfl)) k3 bel lt3) (trodAll_cons_mk (Below.trod laidOut (by kernel_rfl) (of_decide_eq_true (by kernel_rfl)) k4 bel lt4) trodAll_mk0))))), rfl, bel.frame _, fun h => by cases h⟩

theorem over : Rows.ringFrontRow.holds Try.pinned (OpenSpec.ofChange Rows.ringFrontSpec) :=
  OpenClaim.holds_of_wide 4 Try.f4 rfl rfl rfl rfl rfl rfl rfl ⟨rfl, rfl, rfl, rfl, rfl⟩ rfl rfl rfl rfl rfl (by kernel_rfl) Try.func4 (by kernel_rfl)
    (of_decide_eq_true (by kernel_rfl)) (by unfold Func.isWrapper; first | (rw [if_pos (by decide +kernel)]; kernel_rfl) | (rw [if_neg (by decide +kernel)]; exact ⟨rfl, rfl⟩))
    (fun os started H enc _ => lifted os started H enc)

end ringFront

theorem ringFront_holds : Rows.RingFrontSaid := ringFront.over

#print axioms ringFront_holds
end Go.Proofs.Ytpapbleabjpbfab
