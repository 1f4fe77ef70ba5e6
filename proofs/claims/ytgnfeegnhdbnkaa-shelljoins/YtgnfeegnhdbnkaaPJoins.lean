import Derived.Test.YtgnfeegnhdbnkaaWJoins
import Derived.Test.YtgnfeegnhdbnkaaOb
namespace Go.Proofs.Ytgnfeegnhdbnkaa
open Go.ChangeShapes Go.WideShapes Go.ChangeAt Go.RowKit
open Go.ChangeMaps (open_string shut_string)
set_option linter.unusedVariables false
set_option linter.unusedSimpArgs false

theorem row_b {H : Type} {enc : TypeId × Value → H} {W : World} {fuel : Nat} {cs : List Value} {x : DataW H × List MemPlace}
    (hf : DataW.trod enc Try.prog W 0 (fun _ => true) true fuel 30 cs = some x) : ∃ (a : Option Addr) (cap : Nat) (l : List UInt8), cs = [.slice a l.length cap] ∧ l.length ≤ cap ∧ Nums .u8 W a (l.map bi) := by
  have hc : ∃ a n cap, cs = [.slice a n cap] := by
    rcases open_ints U30 U5 (by kernel_rfl) hf with ⟨hcs, _⟩ | ⟨x, l, c, zs, hcs, _⟩
    · exact ⟨_, _, _, hcs⟩
    · exact ⟨_, _, _, hcs⟩
  obtain ⟨a, n, cap, rfl⟩ := hc
  obtain ⟨l, rfl, hl, hN⟩ := opened_b H enc W a n cap x.1 x.2 ⟨fuel, by simpa [Value.cells] using hf⟩
  exact ⟨a, cap, l, rfl, hl, hN⟩
theorem Try.cells30 : Try.prog.cellsOf 30 = 1 := by kernel_rfl
/-- Rows of bytes that came in. -/
theorem opened_ws (H : Type) (enc : TypeId × Value → H) (W : World) (a0 : Option Addr) (len0 cap0 : Nat) (d0 : DataW H) (p0 : List MemPlace)
    (h0 : DataW.Trod enc Try.prog W 0 (fun _ => true) true 33 (.slice a0 len0 cap0) d0 p0) : ∃ xs : List (List UInt8), xs.length = len0 ∧ Wds W a0 xs := by
  obtain ⟨fuel, hf⟩ := h0
  rcases Go.Deep.open_slice U33 hf with ⟨hcs, _⟩ | ⟨x, l, c, m, n, D, Pl, hcs, hq, hl, hm, hmm, hx, hel⟩
  · simp [Value.cells] at hcs
    obtain ⟨rfl, rfl, rfl⟩ := hcs
    exact ⟨[], rfl, fun i x hx => by simp at hx⟩
  · simp [Value.cells] at hcs
    obtain ⟨rfl, rfl, rfl⟩ := hcs
    simp only [if_true] at hmm
    subst hmm
    rw [Try.cells30] at hel
    have key : ∀ i, i < len0 → ∃ li : List UInt8, ∃ ai ci, W.cells? 0 (x.add (i * 1)) 1 = some [.slice ai li.length ci] ∧ li.length ≤ ci ∧ Nums .u8 W ai (li.map bi) := by
      intro i hi
      obtain ⟨cs', hc, htr⟩ := hel i (by omega)
      obtain ⟨ai, ci, li, rfl, hlc, hN⟩ := row_b htr
      exact ⟨li, ai, ci, hc, hlc, hN⟩
    obtain ⟨f, hfm⟩ := Go.Deep.choose_lt key
    refine ⟨(List.range len0).map f, by simp, ?_⟩
    intro i y hy
    have hi : i < len0 := by
      have := (List.getElem?_eq_some_iff.1 hy).1
      simpa using this
    obtain rfl : f i = y := by simpa [hi] using hy
    obtain ⟨ai, ci, hc, hlc, hN⟩ := hfm i hi
    have hcs := (World.cells?_some hc).2.2
    have hc0 := hcs 0 (by omega)
    simp only [List.getElem?_cons_zero] at hc0
    rw [Go.Deep.add_add] at hc0
    obtain ⟨b, off, spot⟩ := x
    have hspot : spot = none := by
      obtain ⟨_, _, hc', _, _⟩ := hfm 0 (by omega)
      have h00 := (World.cells?_some hc').2.2 0 (by omega)
      simp only [List.getElem?_cons_zero] at h00
      have := World.cell?_spot h00
      simpa [Addr.add] using this
    subst hspot
    rw [addr_add] at hc0
    exact ⟨b, off, ai, ci, rfl, by simpa using hc0, hlc, hN⟩
namespace shellJoins
set_option maxRecDepth 100000 in
theorem lifted (os : Os) (started : os.Started) (H : Type) (enc : TypeId × Value → H) :
    ReturnsInHanded {} Try.checked os 5 .any (Rows.shellJoinsSpec.pre6 enc Try.prog Try.f5 Rows.shellJoinsRow.domain false) (Rows.shellJoinsSpec.post enc Try.prog Try.f5 false true false false) := by
  refine returnsInHanded_of_change_sized (C := Try.checked) own started (by kernel_rfl) Try.func5
    (ChangeSpec.witness6 (enc := enc) (C := Try.checked) false ⟨#[], #[.slice none 0 0, .string .empty], []⟩ 8 (by kernel_rfl) (by kernel_rfl) (by kernel_rfl) (by kernel_rfl)) ?_
  intro W base args ds gs before hval0 hW hcnd hsz0 hlone
  have hval : ∀ (j : Nat) t v, Try.f5.params[j]? = some t → args[j]? = some v → Value.okWide Try.prog W .any base t v := hval0
  have hW' := hW
  obtain ⟨p, q, hA0, hV, rfl, hfz, hnd⟩ := hW
  have hA : DataW.TrodAll enc Try.prog W 0 (fun _ => true) true Try.f5.params.toList args.toList ds p := hA0
  rw [Try.params5] at hA hval
  obtain ⟨v0, vs0, d0, ds0, p0, q0, hargs, rfl, rfl, h0, r0⟩ := trodAll_cons hA
  obtain ⟨v1, vs1, d1, ds1, p1, q1, rfl, rfl, rfl, h1, r1⟩ := trodAll_cons r0
  obtain ⟨rfl, rfl, rfl⟩ := trodAll_nil r1
  obtain rfl : args = #[v0, v1] := by cases args; simp_all
  obtain ⟨rfl, rfl⟩ := trodVars_none hV
  obtain ⟨a0, len0, cap0, rfl⟩ := okWide_slice U33 (hval 0 33 v0 rfl rfl)
  have k0 := h0
  have lt0 : ∀ x ∈ p0, x.block < W.heap.size := by obtain ⟨m, hm⟩ := k0; exact DataW.trod_lt m _ _ _ hm
  obtain ⟨xs, rfl, hX⟩ := opened_ws H enc W a0 len0 cap0 d0 p0 h0
  obtain ⟨s, rfl, rfl, rfl, hmax⟩ := open_string U9 (hval 1 9 v1 rfl rfl) h1
  obtain ⟨cm, rfl, _⟩ := bs_of s
  clear hA0 hval0 hsz0
  refine (joinsWalk a0 xs cap0 cm W hX).mono fun e W' ⟨he, hk⟩ => ?_
  subst he
  exact ⟨_, rfl, _, _, _, [], _, [], hW', trodAll_mk1 (shut_bool U4 _), (trodAll_cons_mk (Below.trod laidOut (by kernel_rfl) (of_decide_eq_true (by kernel_rfl)) k0 hk.bel lt0) (trodAll_cons_mk (shut_string U9 hmax) trodAll_mk0)), rfl, hk.bel.frame _, fun h => by cases h⟩

theorem over : Rows.shellJoinsRow.holds Try.pinned (OpenSpec.ofChange Rows.shellJoinsSpec) :=
  OpenClaim.holds_of_wide 5 Try.f5 rfl rfl rfl rfl rfl rfl rfl ⟨rfl, rfl, rfl, rfl, rfl⟩ rfl rfl rfl rfl rfl (by kernel_rfl) Try.func5 (by kernel_rfl)
    (of_decide_eq_true (by kernel_rfl)) (by unfold Func.isWrapper; first | (rw [if_pos (by decide +kernel)]; kernel_rfl) | (rw [if_neg (by decide +kernel)]; exact ⟨rfl, rfl⟩))
    (fun os started H enc _ => lifted os started H enc)

end shellJoins
theorem shellJoins_holds : Rows.ShellJoinsSaid := shellJoins.over
#print axioms shellJoins_holds
end Go.Proofs.Ytgnfeegnhdbnkaa
