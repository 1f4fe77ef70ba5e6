import Derived.Test.YtphiokehcgbldaaWBook
import Derived.Test.YtphiokehcgbldaaOc
namespace Go.Proofs.Ytphiokehcgbldaa
open Go.ChangeShapes Go.WideShapes Go.ChangeAt Go.RowKit
open Go.ChangeMaps (open_string shut_string)
set_option linter.unusedVariables false

theorem opened_datas (H : Type) (enc : TypeId × Value → H) (W : World) (a0 : Option Addr) (len0 cap0 : Nat) (d0 : DataW H) (p0 : List MemPlace)
    (h0 : DataW.Trod enc Try.prog W 0 (fun _ => true) true 59 (.slice a0 len0 cap0) d0 p0)
    {ts : List TypeId} {ds : List (DataW H)} (hsz : (DataW.weightsEach Try.prog ts ds).all (· ≤ reachBytes) = true) {j : Nat} (ht : ts[j]? = some 59) (hd : ds[j]? = some d0) :
    ∃ xs : List Dt, xs.length = len0 ∧ len0 ≤ 140737488351232 ∧ Dts W a0 xs ∧ ∀ x ∈ xs, DtOk W x := by
  obtain ⟨fuel, hf⟩ := h0
  rcases Go.Deep.open_slice Try.und59 hf with ⟨hcs, _⟩ | ⟨x, l, c, m, n, D, Pl, hcs, hq, hl, hm, hmm, hx, hel⟩
  · simp [Value.cells] at hcs
    obtain ⟨rfl, rfl, rfl⟩ := hcs
    exact ⟨[], rfl, by omega, fun i x hx => by simp at hx, fun x hx => by simp at hx⟩
  · simp [Value.cells] at hcs
    obtain ⟨rfl, rfl, rfl⟩ := hcs
    simp only [if_true] at hmm
    subst hmm
    simp only [Prod.mk.injEq] at hx
    have hw : ∀ n ∈ d0.weights Try.prog 59, n ≤ reachBytes := fun n hn => by
      have := List.all_eq_true.1 hsz _ (DataW.weights_mem_each ht hd n hn)
      simpa using this
    have hb : len0 ≤ 140737488351232 := by
      have := sized_slice hsz (j := j) (t := 59) (e := 35) ht (by rw [hd, hx.1]) Try.und59
      rw [Try.bytes35] at this
      simp [reachBytes] at this
      omega
    rw [Try.cells35] at hel
    have key : ∀ i, i < len0 → ∃ it : Dt, W.cells? 0 (x.add (i * 1)) 1 = some [.slice it.a it.l it.c] ∧ DtOk W it := by
      intro i hi
      obtain ⟨cs', hc, htr⟩ := hel i (by omega)
      have hl1 : cs'.length = 1 := (World.cells?_some hc).2.1
      match cs', hl1 with
      | [c], _ =>
        obtain ⟨a, l, cap, zs, e4, hzl, hle, hle2, hnu, hnil⟩ := bytes_sl htr (fun n hn => hw n (by
          rw [hx.1]; simp only [DataW.weights, Try.und59]
          refine List.mem_cons_of_mem _ (List.mem_append.2 (.inl (weights_all (d := D i) ?_ n hn)))
          exact List.mem_map.2 ⟨i, List.mem_range.2 hi, rfl⟩))
        subst e4
        exact ⟨⟨a, l, cap, zs⟩, hc, hnu, hzl, by show l ≤ _; omega⟩
    obtain ⟨f, hfm⟩ := Go.Deep.choose_lt key
    refine ⟨(List.range len0).map f, by simp, hb, ?_, ?_⟩
    · intro i it hit
      have hi : i < len0 := by have := (List.getElem?_eq_some_iff.1 hit).1; simpa using this
      have e : f i = it := by simpa [hi] using hit
      obtain ⟨hc, _⟩ := hfm i hi
      rw [e] at hc
      have hcs := (World.cells?_some hc).2.2
      obtain ⟨b, off, spot⟩ := x
      have hspot : spot = none := by
        have h00 := (World.cells?_some (hfm 0 (by omega)).1).2.2 0 (by omega)
        simp only [List.getElem?_cons_zero] at h00
        have := World.cell?_spot h00
        simpa [Addr.add] using this
      subst hspot
      have h := hcs 0 (by omega)
      rw [Go.Deep.add_add, addr_add] at h
      have h' : W.cell? ⟨b, off + i, none⟩ = some (.slice it.a it.l it.c) := by simpa using h
      exact ⟨b, off, rfl, h', World.block_lt_of_cell? W ⟨b, off + i, none⟩ h'⟩
    · intro it hit
      obtain ⟨i, hi, rfl⟩ := List.mem_map.1 hit
      exact (hfm i (List.mem_range.1 hi)).2

namespace netBook
set_option maxRecDepth 100000 in
theorem lifted (os : Os) (started : os.Started) (H : Type) (enc : TypeId × Value → H) :
    ReturnsInHanded {} Try.checked os 7 .any (Rows.netBookSpec.pre6 enc Try.prog Try.f7 Rows.netBookRow.domain false) (Rows.netBookSpec.post enc Try.prog Try.f7 false true false false) := by
  refine returnsInHanded_of_change_sized (C := Try.checked) own started (by kernel_rfl) Try.func7
    (ChangeSpec.witness6 (enc := enc) (C := Try.checked) false ⟨#[], #[.slice none 0 0], []⟩ 8 (by kernel_rfl) (by kernel_rfl) (by kernel_rfl) (by kernel_rfl)) ?_
  intro W base args ds gs before hval0 hW hcnd hsz0 hlone
  have hval : ∀ (j : Nat) t v, Try.f7.params[j]? = some t → args[j]? = some v → Value.okWide Try.prog W .any base t v := hval0
  have hsz1 : (DataW.weightsEach Try.prog (Try.f7.params.toList ++ Rows.netBookSpec.plain.varTypes Try.prog) (ds ++ gs)).all (· ≤ reachBytes) = true := hsz0
  have hW' := hW
  obtain ⟨p, q, hA0, hV, rfl, hfz, hnd⟩ := hW
  have hA : DataW.TrodAll enc Try.prog W 0 (fun _ => true) true Try.f7.params.toList args.toList ds p := hA0
  rw [Try.params7] at hA hval hsz1
  obtain ⟨v0, vs0, d0, ds0, p0, q0, hargs, rfl, rfl, h0, r0⟩ := trodAll_cons hA
  obtain ⟨rfl, rfl, rfl⟩ := trodAll_nil r0
  obtain rfl : args = #[v0] := by cases args; simp_all
  obtain ⟨rfl, rfl⟩ := trodVars_none hV
  have k0 := h0
  have lt0 : ∀ x ∈ p0, x.block < W.heap.size := by obtain ⟨m, hm⟩ := k0; exact DataW.trod_lt m _ _ _ hm
  obtain ⟨a0, l0, c0, rfl⟩ := okWide_slice Try.und59 (hval 0 59 v0 rfl rfl)
  obtain ⟨xs, q1, q2, q3, q4⟩ := opened_datas H enc W a0 l0 c0 d0 p0 h0 hsz1 (j := 0) rfl rfl
  clear hA0 hval0 hsz0
  refine (bookWalk a0 l0 c0 xs W q1 q2 q3 q4).mono fun e W' ⟨he, hk⟩ => ?_
  have bel : Below W.heap.size W W' := hk.below (Nat.le_refl _) (fun _ e => e.elim)
  subst he
  exact ⟨_, rfl, _, _, _, [], _, [], hW', trodAll_mk1 (shut_bool Try.und4 _), (trodAll_cons_mk (Below.trod laidOut (by kernel_rfl) (of_decide_eq_true (by kernel_rfl)) k0 bel lt0) trodAll_mk0), rfl, bel.frame _, fun h => by cases h⟩

theorem over : Rows.netBookRow.holds Try.pinned (OpenSpec.ofChange Rows.netBookSpec) :=
  OpenClaim.holds_of_wide 7 Try.f7 rfl rfl rfl rfl rfl rfl rfl ⟨rfl, rfl, rfl, rfl, rfl⟩ rfl rfl rfl rfl rfl (by kernel_rfl) Try.func7 (by kernel_rfl)
    (of_decide_eq_true (by kernel_rfl)) (by unfold Func.isWrapper; first | (rw [if_pos (by decide +kernel)]; kernel_rfl) | (rw [if_neg (by decide +kernel)]; exact ⟨rfl, rfl⟩))
    (fun os started H enc _ => lifted os started H enc)

end netBook

theorem netBook_holds : Rows.NetBookSaid := netBook.over

#print axioms netBook_holds
end Go.Proofs.Ytphiokehcgbldaa
