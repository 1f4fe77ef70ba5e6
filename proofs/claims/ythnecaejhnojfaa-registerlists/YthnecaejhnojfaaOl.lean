import Derived.Test.YthnecaejhnojfaaWLi
import Derived.ProofKit
import Derived.OpenShut
import Derived.ShutString
import Derived.ChangeOld
import Derived.SizedLaws
import Derived.Deep.Slices
namespace Go.Proofs.Ythnecaejhnojfaa.Md
open Go.ChangeShapes Go.WideShapes Go.ChangeAt Go.RowKit
open Go.ChangeMaps (open_string shut_string)
set_option linter.unusedVariables false
set_option linter.unusedSimpArgs false

theorem own : ownKnob Try.prog.godebug = none := by kernel_rfl
theorem laidOut : laidOutB Try.prog = true := by kernel_rfl
theorem Try.cells5 : Try.prog.cellsOf 5 = 1 := by kernel_rfl
theorem Try.bytes5 : Try.prog.bytesOf 5 = 1 := by kernel_rfl
theorem bytes_ok {H : Type} {enc : TypeId × Value → H} {W : World} {fuel : Nat} {v : Value} {x : DataW H × List MemPlace}
    (hf : DataW.trod enc Try.prog W 0 (fun _ => true) true fuel 25 [v] = some x) (hs : ∀ n ∈ x.1.weights Try.prog 25, n ≤ reachBytes) :
    ∃ (s : Sl) (xs : List Int), v = s.v ∧ RdB W s xs ∧ s.l ≤ 140737488351232 ∧ s.l ≤ s.k := by
  rcases Go.Deep.open_slice Try.und26 hf with ⟨hcs, _⟩ | ⟨ad, l, cp, m, n, D, PP, hcs, hq, hl, hm, hmm, hx, hel⟩
  · simp at hcs
    exact ⟨slZ, [], hcs, ⟨Nums.nil _ _ _, rfl, fun _ => rfl⟩, by show 0 ≤ _; omega, Nat.le_refl _⟩
  · simp at hcs
    simp only [if_true] at hmm
    subst hmm
    have hb : l ≤ 140737488351232 := by
      have h1 := hs _ (by rw [hx]; simp only [DataW.weights, Try.und26]; exact List.mem_cons_self ..)
      rw [Try.bytes5] at h1
      simp [reachBytes] at h1
      omega
    rw [Try.cells5] at hel
    have key : ∀ i, i < l → ∃ z : Int, W.cells? 0 (ad.add (i * 1)) 1 = some [.int .u8 z] := by
      intro i hi
      obtain ⟨cs', hc, htr⟩ := hel i (by omega)
      obtain ⟨z, e, _, _⟩ := DataW.trod_int Try.und5 htr
      subst e
      exact ⟨z, hc⟩
    obtain ⟨f, hfm⟩ := Go.Deep.choose_lt key
    refine ⟨⟨some ad, l, m⟩, (List.range l).map f, hcs, ⟨?_, by simp, fun e => by cases e⟩, hb, (by show l ≤ m; omega)⟩
    intro i hi0
    have hi : i < l := by simpa using hi0
    have hc := hfm i hi
    have hcs := (World.cells?_some hc).2.2 0 (by omega)
    obtain ⟨b, off, spot⟩ := ad
    have h00' : [Value.int .u8 (f i)][0]? = some (.int .u8 (f i)) := rfl
    rw [h00'] at hcs
    have hspot : spot = none := by
      have h0 := (World.cells?_some (hfm 0 (by omega))).2.2 0 (by omega)
      have h00 : [Value.int .u8 (f 0)][0]? = some (.int .u8 (f 0)) := rfl
      rw [h00] at h0
      have := World.cell?_spot h0
      simpa [Addr.add] using this
    subst hspot
    refine ⟨b, off, rfl, ?_⟩
    rw [Go.Deep.add_add, addr_add] at hcs
    rw [show off + i = off + (i * 1 + 0) by omega]
    simpa [hi] using hcs
theorem ints_ok {H : Type} {enc : TypeId × Value → H} {W : World} {fuel : Nat} {v : Value} {x : DataW H × List MemPlace}
    (hf : DataW.trod enc Try.prog W 0 (fun _ => true) true fuel 24 [v] = some x) : ∃ (s : Sl) (zs : List Int), v = s.v ∧ RdI W s zs ∧ (s.a = none → s.k = 0) := by
  rcases open_ints U24 U3 (by kernel_rfl) hf with ⟨hcs, _⟩ | ⟨ad, l, c, zs, hcs, hq, hl, hm, hz, hx, hcell, hwz⟩
  · simp at hcs
    exact ⟨slZ, [], hcs, ⟨Nums.nil _ _ _, rfl⟩, fun _ => rfl⟩
  · simp at hcs
    have hz' : zs.length = c := by simpa using hz
    refine ⟨⟨some ad, l, c⟩, zs.take l, hcs, ⟨?_, by simp; omega⟩, fun e => by cases e⟩
    intro i hi
    simp only [List.length_take] at hi
    obtain ⟨b, off, rfl, hc⟩ := ints_at hcell (by omega)
    refine ⟨b, off, rfl, ?_⟩
    rw [List.getElem?_take, if_pos (by omega), hc i (by omega)]
    simp
theorem sl_eq {a0 : Option Addr} {len0 cap0 : Nat} {s : Sl} (e : Value.slice a0 len0 cap0 = s.v) : (⟨a0, len0, cap0⟩ : Sl) = s := by
  obtain ⟨sa, sl, sk⟩ := s
  unfold Sl.v at e
  simp only [Value.slice.injEq] at e
  obtain ⟨e1, e2, e3⟩ := e
  subst e1 e2 e3
  rfl
theorem opened_group (H : Type) (enc : TypeId × Value → H) (W : World) (a0 : Option Addr) (len0 cap0 : Nat) (d0 : DataW H) (p0 : List MemPlace)
    (h0 : DataW.Trod enc Try.prog W 0 (fun _ => true) true 24 (.slice a0 len0 cap0) d0 p0) : ∃ zs : List Int, RdI W ⟨a0, len0, cap0⟩ zs ∧ (a0 = none → cap0 = 0) := by
  obtain ⟨fuel, hf⟩ := h0
  obtain ⟨s, zs, e, h1, h2⟩ := ints_ok (v := .slice a0 len0 cap0) hf
  have es := sl_eq e
  refine ⟨zs, by rw [es]; exact h1, fun ha => ?_⟩
  rw [← es] at h2
  exact h2 ha
theorem opened_bytes (H : Type) (enc : TypeId × Value → H) (W : World) (a0 : Option Addr) (len0 cap0 : Nat) (d0 : DataW H) (p0 : List MemPlace)
    (h0 : DataW.Trod enc Try.prog W 0 (fun _ => true) true 25 (.slice a0 len0 cap0) d0 p0)
    {ts : List TypeId} {ds : List (DataW H)} (hsz : (DataW.weightsEach Try.prog ts ds).all (· ≤ reachBytes) = true) {j : Nat} (ht : ts[j]? = some 25) (hd : ds[j]? = some d0) :
    ∃ zs : List Int, RdB W ⟨a0, len0, cap0⟩ zs ∧ len0 ≤ 140737488351232 := by
  obtain ⟨fuel, hf⟩ := h0
  obtain ⟨s, zs, e, h1, h2, _⟩ := bytes_ok (v := .slice a0 len0 cap0) hf (fun n hn => of_decide_eq_true (List.all_eq_true.1 hsz n (DataW.weights_mem_each ht hd n hn)))
  have es := sl_eq e
  rw [← es] at h1 h2
  exact ⟨zs, h1, h2⟩
end Go.Proofs.Ythnecaejhnojfaa.Md
