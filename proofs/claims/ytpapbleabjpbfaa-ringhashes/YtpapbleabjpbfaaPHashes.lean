import Derived.Test.YtpapbleabjpbfaaWHashes
import Derived.Test.YtpapbleabjpbfaaOc
import Derived.SliceStrings
namespace Go.Proofs.Ytpapbleabjpbfaa
open Go.ChangeShapes Go.WideShapes Go.ChangeAt Go.RowKit
open Go.ChangeMaps (open_string shut_string)
set_option linter.unusedVariables false

theorem Try.cells9 : Try.prog.cellsOf 9 = 1 := by kernel_rfl
theorem Try.bytes9 : Try.prog.bytesOf 9 = 16 := by kernel_rfl

/-- Texts that came in. -/
theorem opened_strs (H : Type) (enc : TypeId × Value → H) (W : World) (a0 : Option Addr) (len0 cap0 : Nat) (d0 : DataW H) (p0 : List MemPlace)
    (h0 : DataW.Trod enc Try.prog W 0 (fun _ => true) true 48 (.slice a0 len0 cap0) d0 p0)
    {ts : List TypeId} {ds : List (DataW H)} (hsz : (DataW.weightsEach Try.prog ts ds).all (· ≤ reachBytes) = true) {j : Nat} (ht : ts[j]? = some 48) (hd : ds[j]? = some d0) :
    ∃ xs : List ByteArray, xs.length = len0 ∧ len0 ≤ 140737488351232 ∧ Strs W a0 xs ∧ ∀ x ∈ xs, x.size ≤ 9223372036854775807 := by
  obtain ⟨fuel, hf⟩ := h0
  rcases open_strings Try.underlying48 Try.underlying9 Try.cells9 hf with ⟨hcs, _⟩ | ⟨x, l, c, ss, hcs, hq, hl, hm, hss, hx, hel, hsm⟩
  · simp [Value.cells] at hcs
    obtain ⟨rfl, rfl, rfl⟩ := hcs
    exact ⟨[], rfl, by omega, fun i x hx => by simp at hx, fun x hx => by simp at hx⟩
  · simp [Value.cells] at hcs
    obtain ⟨rfl, rfl, rfl⟩ := hcs
    simp only [if_true] at hss
    simp only [Prod.mk.injEq] at hx
    have hb : len0 ≤ 140737488351232 := by
      have := sized_slice hsz (j := j) (t := 48) (e := 9) ht (by rw [hd, hx.1]) Try.underlying48
      rw [Try.bytes9] at this
      simp only [strs, List.length_map, List.length_take, List.length_drop, reachBytes] at this
      omega
    refine ⟨ss.take len0, by simp; omega, hb, ?_, ?_⟩
    · intro i s hs
      have hi : i < len0 := by have := (List.getElem?_eq_some_iff.1 hs).1; simp at this; omega
      have hc := hel i (by omega)
      have he : ss.getD i ByteArray.empty = s := by
        rw [List.getElem?_take, if_pos hi] at hs
        rw [List.getD_eq_getElem?_getD, hs]; rfl
      rw [he] at hc
      obtain ⟨b, off, spot⟩ := x
      have hspot : spot = none := by
        have h00 := hel 0 (by omega)
        have := World.cell?_spot h00
        simpa [Addr.add] using this
      subst hspot
      rw [addr_add] at hc
      exact ⟨b, off, rfl, hc⟩
    · intro s hs
      have := hsm s (List.mem_of_mem_take hs)
      unfold maxLen at this
      omega

set_option maxRecDepth 100000 in
/-- A configuration that came in by itself. -/
theorem opened_cfg (H : Type) (enc : TypeId × Value → H) (W : World) (b0 : Nat) (v : Value) (d0 : DataW H) (p0 : List MemPlace) (hv : Value.okWide Try.prog W .any b0 29 v)
    (h0 : DataW.Trod enc Try.prog W 0 (fun _ => true) true 29 v d0 p0)
    {ts : List TypeId} {ds : List (DataW H)} (hsz : (DataW.weightsEach Try.prog ts ds).all (· ≤ reachBytes) = true) {j : Nat} (ht : ts[j]? = some 29) (hd : ds[j]? = some d0) :
    ∃ x : Cfg, v = cfgV (.slice x.a x.n x.c) x.f x.p x.bu x.bl x.ro ∧ CfgOk W x := by
  obtain ⟨cs, rfl, _⟩ := okWide_struct Try.underlying29 hv
  obtain ⟨fuel, hf⟩ := h0
  have hw : ∀ n ∈ d0.weights Try.prog 29, n ≤ reachBytes := fun n hn => by
    have := List.all_eq_true.1 hsz _ (DataW.weights_mem_each ht hd n hn)
    simpa using this
  obtain ⟨it, hcs, hok⟩ := cfg_ok hf hw
  refine ⟨it, ?_, hok⟩
  simp only [Value.cells] at hcs
  have : cs = #[.slice it.a it.n it.c, .int .i64 it.f, .int .i64 it.p, .int .i64 it.bu, .int .i64 it.bl, .int .i64 it.ro] := by
    cases cs; simp_all
  rw [this]

namespace ringHashes
set_option maxRecDepth 100000 in
theorem lifted (os : Os) (started : os.Started) (H : Type) (enc : TypeId × Value → H) :
    ReturnsInHanded {} Try.checked os 6 .any (Rows.ringHashesSpec.pre6 enc Try.prog Try.f6 Rows.ringHashesRow.domain false) (Rows.ringHashesSpec.post enc Try.prog Try.f6 false true false false) := by
  refine returnsInHanded_of_change_sized (C := Try.checked) own started (by kernel_rfl) Try.func6
    (ChangeSpec.witness6 (enc := enc) (C := Try.checked) false ⟨#[], #[.agg #[.slice none 0 0, .int .i64 0, .int .i64 0, .int .i64 0, .int .i64 0, .int .i64 0], .slice none 0 0, .slice none 0 0], []⟩ 8 (by kernel_rfl) (by kernel_rfl) (by kernel_rfl) (by kernel_rfl)) ?_
  intro W base args ds gs before hval0 hW hcnd hsz0 hlone
  have hval : ∀ (j : Nat) t v, Try.f6.params[j]? = some t → args[j]? = some v → Value.okWide Try.prog W .any base t v := hval0
  have hsz1 : (DataW.weightsEach Try.prog (Try.f6.params.toList ++ Rows.ringHashesSpec.plain.varTypes Try.prog) (ds ++ gs)).all (· ≤ reachBytes) = true := hsz0
  have hW' := hW
  obtain ⟨p, q, hA0, hV, rfl, hfz, hnd⟩ := hW
  have hA : DataW.TrodAll enc Try.prog W 0 (fun _ => true) true Try.f6.params.toList args.toList ds p := hA0
  rw [Try.params6] at hA hval hsz1
  obtain ⟨v0, vs0, d0, ds0, p0, q0, hargs, rfl, rfl, h0, r0⟩ := trodAll_cons hA
  obtain ⟨v1, vs1, d1, ds1, p1, q1, rfl, rfl, rfl, h1, r1⟩ := trodAll_cons r0
  obtain ⟨v2, vs2, d2, ds2, p2, q2, rfl, rfl, rfl, h2, r2⟩ := trodAll_cons r1
  obtain ⟨rfl, rfl, rfl⟩ := trodAll_nil r2
  obtain rfl : args = #[v0, v1, v2] := by cases args; simp_all
  obtain ⟨rfl, rfl⟩ := trodVars_none hV
  obtain ⟨z0, e0, s0⟩ := opened_cfg H enc W base v0 d0 p0 (hval 0 29 v0 rfl rfl) h0 hsz1 (j := 0) rfl rfl
  obtain ⟨a1, len1, cap1, rfl⟩ := okWide_slice Try.underlying38 (hval 1 38 v1 rfl rfl)
  obtain ⟨a2, len2, cap2, rfl⟩ := okWide_slice Try.underlying48 (hval 2 48 v2 rfl rfl)
  have k0 := h0
  have k1 := h1
  have k2 := h2
  have lt0 : ∀ x ∈ p0, x.block < W.heap.size := by obtain ⟨m, hm⟩ := k0; exact DataW.trod_lt m _ _ _ hm
  have lt1 : ∀ x ∈ p1, x.block < W.heap.size := by obtain ⟨m, hm⟩ := k1; exact DataW.trod_lt m _ _ _ hm
  have lt2 : ∀ x ∈ p2, x.block < W.heap.size := by obtain ⟨m, hm⟩ := k2; exact DataW.trod_lt m _ _ _ hm
  obtain ⟨z1, s1⟩ := opened_keys H enc W a1 len1 cap1 d1 p1 h1 hsz1 (j := 1) rfl rfl
  obtain ⟨z2, s2⟩ := opened_strs H enc W a2 len2 cap2 d2 p2 h2 hsz1 (j := 2) rfl rfl
  clear hA0 hval0 hsz0
  subst e0
  refine (hashesWalk z0 a1 len1 cap1 z1 a2 len2 cap2 z2 W s0 s1.1 s1.2.2.1 (by have := s1.2.1; omega) s2.1 s2.2.2.1 s2.2.2.2 (by have := s2.2.1; omega)).mono fun e W' ⟨he, bel⟩ => ?_
  subst he
  exact ⟨_, rfl, _, _, _, [], _, [], hW', trodAll_mk1 (shut_bool Try.underlying4 _), (trodAll_cons_mk (Below.trod laidOut (by kernel_rfl) (of_decide_eq_true (by kernel_rfl)) k0 bel lt0) (trodAll_cons_mk (Below.trod laidOut (by kernel_rfl) (of_decide_eq_true (by kernel_rfl)) k1 bel lt1) (trodAll_cons_mk (Below.trod laidOut (by kernel_rfl) (of_decide_eq_true (by kernel_rfl)) k2 bel lt2) trodAll_mk0))), rfl, bel.frame _, fun h => by cases h⟩

theorem over : Rows.ringHashesRow.holds Try.pinned (OpenSpec.ofChange Rows.ringHashesSpec) :=
  OpenClaim.holds_of_wide 6 Try.f6 rfl rfl rfl rfl rfl rfl rfl ⟨rfl, rfl, rfl, rfl, rfl⟩ rfl rfl rfl rfl rfl (by kernel_rfl) Try.func6 (by kernel_rfl)
    (of_decide_eq_true (by kernel_rfl)) (by unfold Func.isWrapper; first | (rw [if_pos (by decide +kernel)]; kernel_rfl) | (rw [if_neg (by decide +kernel)]; exact ⟨rfl, rfl⟩))
    (fun os started H enc _ => lifted os started H enc)

end ringHashes

theorem ringHashes_holds : Rows.RingHashesSaid := ringHashes.over

#print axioms ringHashes_holds
end Go.Proofs.Ytpapbleabjpbfaa
