import Derived.Test.YtppkjebiiheljaaWNew
import Derived.Test.YtppkjebiiheljaaOc
namespace Go.Proofs.Ytppkjebiiheljaa
open Go.ChangeShapes Go.WideShapes Go.ChangeAt Go.RowKit
open Go.ChangeMaps (open_string shut_string)
set_option linter.unusedVariables false

/-- The room of bytes that came in. -/
theorem opened_cap (H : Type) (enc : TypeId × Value → H) (W : World) (a0 : Option Addr) (len0 cap0 : Nat) (d0 : DataW H) (p0 : List MemPlace)
    (h0 : DataW.Trod enc Try.prog W 0 (fun _ => true) true 22 (.slice a0 len0 cap0) d0 p0)
    {ts : List TypeId} {ds : List (DataW H)} (hsz : (DataW.weightsEach Try.prog ts ds).all (· ≤ reachBytes) = true) {j : Nat} (ht : ts[j]? = some 22) (hd : ds[j]? = some d0) :
    len0 ≤ cap0 ∧ cap0 ≤ 4611686018427387904 := by
  have hs : ∀ elems spare, d0 = .slice elems spare → (elems.length + spare.length) * Try.prog.bytesOf 5 ≤ reachBytes := by
    intro elems spare e
    subst e
    exact sized_slice hsz (j := j) (t := 22) (e := 5) ht hd Try.und22
  obtain ⟨fuel, hf⟩ := h0
  rcases open_ints Try.und22 Try.und5 (by kernel_rfl) hf with ⟨hcs, _⟩ | ⟨x, l, c, zs, hcs, hq, hl, hm, hz, hx, hcell, hwz⟩
  · simp [Value.cells] at hcs
    obtain ⟨rfl, rfl, rfl⟩ := hcs
    exact ⟨by omega, by omega⟩
  · simp [Value.cells] at hcs
    obtain ⟨rfl, rfl, rfl⟩ := hcs
    have hz' : zs.length = cap0 := by simpa using hz
    simp only [Prod.mk.injEq] at hx
    have := hs _ _ hx.1
    rw [Try.bytes5] at this
    simp [lits, reachBytes] at this
    omega

namespace diskNew
set_option maxRecDepth 100000 in
theorem lifted (os : Os) (started : os.Started) (H : Type) (enc : TypeId × Value → H) :
    ReturnsInHanded {} Try.checked os 3 .any (Rows.diskNewSpec.pre6 enc Try.prog Try.f3 Rows.diskNewRow.domain false) (Rows.diskNewSpec.post enc Try.prog Try.f3 false true false false) := by
  refine returnsInHanded_of_change_sized (C := Try.checked) own started (by kernel_rfl) Try.func3
    (ChangeSpec.witness6 (enc := enc) (C := Try.checked) false ⟨#[], #[.int .i64 0, .slice none 0 0], []⟩ 8 (by kernel_rfl) (by kernel_rfl) (by kernel_rfl) (by kernel_rfl)) ?_
  intro W base args ds gs before hval0 hW hcnd hsz0 hlone
  have hval : ∀ (j : Nat) t v, Try.f3.params[j]? = some t → args[j]? = some v → Value.okWide Try.prog W .any base t v := hval0
  have hsz1 : (DataW.weightsEach Try.prog (Try.f3.params.toList ++ Rows.diskNewSpec.plain.varTypes Try.prog) (ds ++ gs)).all (· ≤ reachBytes) = true := hsz0
  have hW' := hW
  obtain ⟨p, q, hA0, hV, rfl, hfz, hnd⟩ := hW
  have hA : DataW.TrodAll enc Try.prog W 0 (fun _ => true) true Try.f3.params.toList args.toList ds p := hA0
  rw [Try.params3] at hA hval hsz1
  obtain ⟨v0, vs0, d0, ds0, p0, q0, hargs, rfl, rfl, h0, r0⟩ := trodAll_cons hA
  obtain ⟨v1, vs1, d1, ds1, p1, q1, rfl, rfl, rfl, h1, r1⟩ := trodAll_cons r0
  obtain ⟨rfl, rfl, rfl⟩ := trodAll_nil r1
  obtain rfl : args = #[v0, v1] := by cases args; simp_all
  obtain ⟨rfl, rfl⟩ := trodVars_none hV
  obtain ⟨a1, len1, cap1, rfl⟩ := okWide_slice Try.und22 (hval 1 22 v1 rfl rfl)
  have k1 := h1
  have lt1 : ∀ x ∈ p1, x.block < W.heap.size := by obtain ⟨m, hm⟩ := k1; exact DataW.trod_lt m _ _ _ hm
  obtain ⟨z1, s1⟩ : ∃ z1, Bys W a1 len1 cap1 z1 := by
    obtain ⟨z, q1, q2, q3, q4⟩ := opened_by H enc W a1 len1 cap1 d1 p1 h1 hsz1 (j := 1) rfl rfl
    obtain ⟨q5, q6⟩ := opened_cap H enc W a1 len1 cap1 d1 p1 h1 hsz1 (j := 1) rfl rfl
    exact ⟨z, q3, q1, q2, q4, q5, q6⟩
  obtain ⟨n0, rfl, rfl, rfl, w0⟩ := open_int Try.und3 (hval 0 3 v0 rfl rfl) h0
  clear hA0 hval0 hsz0
  have hcall : Calls Try.prog 3 #[.int .i64 n0, .slice a1 len1 cap1] W fun e w' => e = .returned (.bool true) ∧ Kept No W w' := by
    by_cases hI : len1 % 512 = 0 ∧ 1 ≤ len1 / 512 ∧ len1 / 512 ≤ 65536
    · have hL : 0 < z1.length := by have := s1.2.1; omega
      obtain ⟨g, off, ha, _⟩ := s1.1 0 hL
      subst ha
      have hm : len1 = len1 / 512 * 512 := by omega
      by_cases hc : n0 < 1
      · exact newLoYes n0 hc g off cap1 (len1 / 512) len1 z1 W s1 hm hI.2.1 hI.2.2
      · by_cases hc2 : 65536 < n0
        · exact newHiYes n0 hc2 g off cap1 (len1 / 512) len1 z1 W s1 hm hI.2.1 hI.2.2
        · have hn : n0 = (n0.toNat : Int) := by omega
          rw [hn]
          exact newYesYes n0.toNat (by omega) (by omega) g off cap1 (len1 / 512) len1 z1 W s1 hm hI.2.1 hI.2.2
    · by_cases hc : n0 < 1
      · exact newLoNo n0 hc a1 len1 cap1 z1 W s1 hI
      · by_cases hc2 : 65536 < n0
        · exact newHiNo n0 hc2 a1 len1 cap1 z1 W s1 hI
        · have hn : n0 = (n0.toNat : Int) := by omega
          rw [hn]
          exact newYesNo n0.toNat (by omega) (by omega) a1 len1 cap1 z1 W s1 hI
  refine hcall.mono fun e W' ⟨he, hk⟩ => ?_
  have bel : Below W.heap.size W W' := hk.below (Nat.le_refl _) (fun _ e => e.elim)
  subst he
  exact ⟨_, rfl, _, _, _, [], _, [], hW', trodAll_mk1 (shut_bool Try.und4 _), (trodAll_cons_mk (shut_int Try.und3 w0) (trodAll_cons_mk (Below.trod laidOut (by kernel_rfl) (of_decide_eq_true (by kernel_rfl)) k1 bel lt1) trodAll_mk0)), rfl, bel.frame _, fun h => by cases h⟩

theorem over : Rows.diskNewRow.holds Try.pinned (OpenSpec.ofChange Rows.diskNewSpec) :=
  OpenClaim.holds_of_wide 3 Try.f3 rfl rfl rfl rfl rfl rfl rfl ⟨rfl, rfl, rfl, rfl, rfl⟩ rfl rfl rfl rfl rfl (by kernel_rfl) Try.func3 (by kernel_rfl)
    (of_decide_eq_true (by kernel_rfl)) (by unfold Func.isWrapper; first | (rw [if_pos (by decide +kernel)]; kernel_rfl) | (rw [if_neg (by decide +kernel)]; exact ⟨rfl, rfl⟩))
    (fun os started H enc _ => lifted os started H enc)

end diskNew

theorem diskNew_holds : Rows.DiskNewSaid := diskNew.over

#print axioms diskNew_holds
end Go.Proofs.Ytppkjebiiheljaa
