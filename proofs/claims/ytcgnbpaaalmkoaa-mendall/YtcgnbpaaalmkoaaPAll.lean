import Derived.Test.YtcgnbpaaalmkoaaWAll
import Derived.Test.YtcgnbpaaalmkoaaOc
namespace Go.Proofs.Ytcgnbpaaalmkoaa
open Go.ChangeShapes Go.WideShapes Go.ChangeAt Go.RowKit
open Go.ChangeMaps (open_string shut_string)
set_option linter.unusedVariables false
set_option linter.unusedSimpArgs false

theorem Try.bytes3 : Try.prog.bytesOf 3 = 8 := by kernel_rfl
set_option maxRecDepth 100000 in
theorem ints_ok {H : Type} {enc : TypeId × Value → H} {W : World} {fuel : Nat} {v : Value} {x : DataW H × List MemPlace}
    (hf : DataW.trod enc Try.prog W 0 (fun _ => true) true fuel 74 [v] = some x) (hs : ∀ n ∈ x.1.weights Try.prog 74, n ≤ reachBytes) :
    ∃ (a : Option Addr) (l k : Nat) (xs : List Int), v = .slice a l k ∧ Nums .i64 W a xs ∧ xs.length = l ∧ l ≤ 100000000000000 := by
  rcases Go.Deep.open_slice Try.und74 hf with ⟨hcs, _⟩ | ⟨ad, l, cp, m, n, D, PP, hcs, hq, hl, hm, hmm, hx, hel⟩
  · simp at hcs
    exact ⟨none, 0, 0, [], hcs, Nums.nil _ _ _, rfl, by omega⟩
  · simp at hcs
    simp only [if_true] at hmm
    subst hmm
    have hb : l ≤ 100000000000000 := by
      have h1 := hs _ (by rw [hx]; simp only [DataW.weights, Try.und74]; exact List.mem_cons_self ..)
      rw [Try.bytes3] at h1
      simp [reachBytes] at h1
      omega
    rw [Try.cells3] at hel
    have key : ∀ i, i < l → ∃ z : Int, W.cells? 0 (ad.add (i * 1)) 1 = some [.int .i64 z] := by
      intro i hi
      obtain ⟨cs', hc, htr⟩ := hel i (by omega)
      obtain ⟨z, e, _, _⟩ := DataW.trod_int Try.und3 htr
      subst e
      exact ⟨z, hc⟩
    obtain ⟨f, hfm⟩ := Go.Deep.choose_lt key
    refine ⟨some ad, l, _, (List.range l).map f, hcs, ?_, by simp, hb⟩
    intro i hi0
    have hi : i < l := by simpa using hi0
    have hc := hfm i hi
    have hcs := (World.cells?_some hc).2.2 0 (by omega)
    obtain ⟨b, off, spot⟩ := ad
    have h00' : [Value.int .i64 (f i)][0]? = some (.int .i64 (f i)) := rfl
    rw [h00'] at hcs
    have hspot : spot = none := by
      have h0 := (World.cells?_some (hfm 0 (by omega))).2.2 0 (by omega)
      have h00 : [Value.int .i64 (f 0)][0]? = some (.int .i64 (f 0)) := rfl
      rw [h00] at h0
      have := World.cell?_spot h0
      simpa [Addr.add] using this
    subst hspot
    refine ⟨b, off, rfl, ?_⟩
    rw [Go.Deep.add_add, addr_add] at hcs
    rw [show off + i = off + (i * 1 + 0) by omega]
    simpa [hi] using hcs
namespace mendAll
set_option maxRecDepth 100000 in
theorem lifted (os : Os) (started : os.Started) (H : Type) (enc : TypeId × Value → H) :
    ReturnsInHanded {} Try.checked os 8 .any (Rows.mendAllSpec.pre6 enc Try.prog Try.f8 Rows.mendAllRow.domain false) (Rows.mendAllSpec.post enc Try.prog Try.f8 false true false false) := by
  refine returnsInHanded_of_change_sized (C := Try.checked) own started (by kernel_rfl) Try.func8
    (ChangeSpec.witness6 (enc := enc) (C := Try.checked) false ⟨#[], #[.int .i64 0, .slice none 0 0, .slice none 0 0], []⟩ 8 (by kernel_rfl) (by kernel_rfl) (by kernel_rfl) (by kernel_rfl)) ?_
  intro W base args ds gs before hval0 hW hcnd hsz0 hlone
  have hval : ∀ (j : Nat) t v, Try.f8.params[j]? = some t → args[j]? = some v → Value.okWide Try.prog W .any base t v := hval0
  have hsz1 : (DataW.weightsEach Try.prog (Try.f8.params.toList ++ Rows.mendAllSpec.plain.varTypes Try.prog) (ds ++ gs)).all (· ≤ reachBytes) = true := hsz0
  have hW' := hW
  obtain ⟨p, q, hA0, hV, rfl, hfz, hnd⟩ := hW
  have hA : DataW.TrodAll enc Try.prog W 0 (fun _ => true) true Try.f8.params.toList args.toList ds p := hA0
  rw [Try.params8] at hA hval hsz1
  obtain ⟨v0, vs0, d0, ds0, p0, q0, hargs, rfl, rfl, h0, r0⟩ := trodAll_cons hA
  obtain ⟨v1, vs1, d1, ds1, p1, q1, rfl, rfl, rfl, h1, r1⟩ := trodAll_cons r0
  obtain ⟨v2, vs2, d2, ds2, p2, q2, rfl, rfl, rfl, h2, r2⟩ := trodAll_cons r1
  obtain ⟨rfl, rfl, rfl⟩ := trodAll_nil r2
  obtain rfl : args = #[v0, v1, v2] := by cases args; simp_all
  obtain ⟨rfl, rfl⟩ := trodVars_none hV
  obtain ⟨n0, rfl, rfl, rfl, w0⟩ := open_int Try.und3 (hval 0 3 v0 rfl rfl) h0
  have k1 := h1
  have lt1 : ∀ x ∈ p1, x.block < W.heap.size := by obtain ⟨m, hm⟩ := k1; exact DataW.trod_lt m _ _ _ hm
  have hs1 : ∀ n ∈ d1.weights Try.prog 74, n ≤ reachBytes := fun n hn => by
    have := List.all_eq_true.1 hsz1 _ (DataW.weights_mem_each (j := 1) rfl rfl n hn)
    simpa using this
  have k2 := h2
  have lt2 : ∀ x ∈ p2, x.block < W.heap.size := by obtain ⟨m, hm⟩ := k2; exact DataW.trod_lt m _ _ _ hm
  have hs2 : ∀ n ∈ d2.weights Try.prog 74, n ≤ reachBytes := fun n hn => by
    have := List.all_eq_true.1 hsz1 _ (DataW.weights_mem_each (j := 2) rfl rfl n hn)
    simpa using this
  obtain ⟨f1, hf1⟩ := h1
  obtain ⟨a1, l1, c1, rfl⟩ := okWide_slice Try.und74 (hval 1 74 v1 rfl rfl)
  obtain ⟨a1', l1', c1', xs1, e1, q11, q12, q13⟩ := ints_ok (by simpa [Value.cells] using hf1) hs1
  cases e1
  obtain ⟨f2, hf2⟩ := h2
  obtain ⟨a2, l2, c2, rfl⟩ := okWide_slice Try.und74 (hval 2 74 v2 rfl rfl)
  obtain ⟨a2', l2', c2', xs2, e2, q21, q22, q23⟩ := ints_ok (by simpa [Value.cells] using hf2) hs2
  cases e2
  clear hA0 hval0 hsz0
  refine (allWalk n0 a1 a2 l1 c1 l2 c2 xs1 xs2 W q11 q12 q13 q21 q22 q23).mono fun e W' ⟨he, hk⟩ => ?_
  have bel : Below W.heap.size W W' := hk.below (Nat.le_refl _) (fun _ e => e.elim)
  subst he
  exact ⟨_, rfl, _, _, _, [], _, [], hW', trodAll_mk1 (shut_bool Try.und4 _), (trodAll_cons_mk (shut_int Try.und3 w0) (trodAll_cons_mk (Below.trod laidOut (by kernel_rfl) (of_decide_eq_true (by kernel_rfl)) k1 bel lt1) (trodAll_cons_mk (Below.trod laidOut (by kernel_rfl) (of_decide_eq_true (by kernel_rfl)) k2 bel lt2) trodAll_mk0))), rfl, bel.frame _, fun h => by cases h⟩

theorem over : Rows.mendAllRow.holds Try.pinned (OpenSpec.ofChange Rows.mendAllSpec) :=
  OpenClaim.holds_of_wide 8 Try.f8 rfl rfl rfl rfl rfl rfl rfl ⟨rfl, rfl, rfl, rfl, rfl⟩ rfl rfl rfl rfl rfl (by kernel_rfl) Try.func8 (by kernel_rfl)
    (of_decide_eq_true (by kernel_rfl)) (by unfold Func.isWrapper; first | (rw [if_pos (by decide +kernel)]; kernel_rfl) | (rw [if_neg (by decide +kernel)]; exact ⟨rfl, rfl⟩))
    (fun os started H enc _ => lifted os started H enc)

end mendAll

theorem mendAll_holds : Rows.MendAllSaid := mendAll.over

#print axioms mendAll_holds

end Go.Proofs.Ytcgnbpaaalmkoaa
