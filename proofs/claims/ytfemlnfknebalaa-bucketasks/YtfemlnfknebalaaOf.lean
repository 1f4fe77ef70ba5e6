import Derived.Test.YtfemlnfknebalaaWAsks
import Derived.Test.YtfemlnfknebalaaOe
namespace Go.Proofs.Ytfemlnfknebalaa
open Go.ChangeShapes Go.WideShapes Go.ChangeAt Go.RowKit
open Go.ChangeMaps (open_string shut_string)
set_option linter.unusedVariables false
set_option linter.unusedSimpArgs false

theorem Try.und42 : Try.prog.underlying 42 = some (.slice 9) := by kernel_rfl
theorem Try.und43 : Try.prog.underlying 43 = some (.slice 3) := by kernel_rfl
theorem str_ok {H : Type} {enc : TypeId × Value → H} {W : World} {fuel : Nat} {l : List Value} {x : DataW H × List MemPlace} (hf : DataW.trod enc Try.prog W 0 (fun _ => true) true fuel 9 l = some x) : ∃ s, l = [Value.string s] := by
  obtain ⟨s, e0, _⟩ := DataW.trod_string Try.und9 hf
  exact ⟨s, e0⟩
theorem strs_ok {H : Type} {enc : TypeId × Value → H} {W : World} {fuel : Nat} {v : Value} {x : DataW H × List MemPlace}
    (hf : DataW.trod enc Try.prog W 0 (fun _ => true) true fuel 42 [v] = some x) (hs : ∀ n ∈ x.1.weights Try.prog 42, n ≤ reachBytes) :
    ∃ a len cap, v = .slice a len cap ∧ ∃ xs : List ByteArray, xs.length = len ∧ len * 16 ≤ 140737488351232 ∧ Ss W a xs := by
  rcases Go.Deep.open_slice Try.und42 hf with ⟨hcs, _⟩ | ⟨ad, l, cp, m, n, D, Pl, hcs, hq, hl, hm, hmm, hx, hel⟩
  · simp at hcs
    exact ⟨none, 0, 0, hcs, [], rfl, by omega, RowsAt.nil _ _ _⟩
  · simp at hcs
    simp only [if_true] at hmm
    subst hmm
    have hb : l * 16 ≤ 140737488351232 := by
      have h1 := hs _ (by rw [hx]; simp only [DataW.weights, Try.und42]; exact List.mem_cons_self ..)
      rw [show Try.prog.bytesOf 9 = 16 by kernel_rfl] at h1
      simp [reachBytes] at h1
      omega
    rw [show Try.prog.cellsOf 9 = 1 by kernel_rfl] at hel
    have key : ∀ i, i < l → ∃ it : ByteArray, W.cells? 0 (ad.add (i * 1)) 1 = some [Value.string it] := by
      intro i hi
      obtain ⟨cs', hc, htr⟩ := hel i (by omega)
      obtain ⟨it, rfl⟩ := str_ok htr
      exact ⟨it, hc⟩
    obtain ⟨f, hfm⟩ := Go.Deep.choose_lt key
    refine ⟨some ad, l, m, hcs, (List.range l).map f, by simp, hb, ?_⟩
    intro i it hit
    have hi : i < l := by have := (List.getElem?_eq_some_iff.1 hit).1; simpa using this
    have e : [Value.string (f i)] = it := by simpa [hi] using hit
    have hc := hfm i hi
    have hcs := (World.cells?_some hc).2.2
    obtain ⟨b, off, spot⟩ := ad
    have hspot : spot = none := by
      have h00 := (World.cells?_some (hfm 0 (by omega))).2.2 0 (by omega)
      have h00' : [Value.string (f 0)][0]? = some (Value.string (f 0)) := rfl
      rw [h00'] at h00
      have := World.cell?_spot h00
      simpa [Addr.add] using this
    subst hspot
    refine ⟨b, off, rfl, fun k v hv => ?_⟩
    rw [← e] at hv
    have hk : k < 1 := by have := (List.getElem?_eq_some_iff.1 hv).1; exact this
    have h1 := hcs k hk
    rw [hv, Go.Deep.add_add, addr_add] at h1
    rw [show off + i * 1 + k = off + (i * 1 + k) by omega]
    exact h1
theorem int_ok {H : Type} {enc : TypeId × Value → H} {W : World} {fuel : Nat} {l : List Value} {x : DataW H × List MemPlace} (hf : DataW.trod enc Try.prog W 0 (fun _ => true) true fuel 3 l = some x) : ∃ s, l = [Value.int .i64 s] := by
  obtain ⟨s, e0, _⟩ := DataW.trod_int Try.und3 hf
  exact ⟨s, e0⟩
theorem ints_ok {H : Type} {enc : TypeId × Value → H} {W : World} {fuel : Nat} {v : Value} {x : DataW H × List MemPlace}
    (hf : DataW.trod enc Try.prog W 0 (fun _ => true) true fuel 43 [v] = some x) (hs : ∀ n ∈ x.1.weights Try.prog 43, n ≤ reachBytes) :
    ∃ a len cap, v = .slice a len cap ∧ ∃ xs : List Int, xs.length = len ∧ len * 8 ≤ 140737488351232 ∧ Is W a xs := by
  rcases Go.Deep.open_slice Try.und43 hf with ⟨hcs, _⟩ | ⟨ad, l, cp, m, n, D, Pl, hcs, hq, hl, hm, hmm, hx, hel⟩
  · simp at hcs
    exact ⟨none, 0, 0, hcs, [], rfl, by omega, RowsAt.nil _ _ _⟩
  · simp at hcs
    simp only [if_true] at hmm
    subst hmm
    have hb : l * 8 ≤ 140737488351232 := by
      have h1 := hs _ (by rw [hx]; simp only [DataW.weights, Try.und43]; exact List.mem_cons_self ..)
      rw [show Try.prog.bytesOf 3 = 8 by kernel_rfl] at h1
      simp [reachBytes] at h1
      omega
    rw [show Try.prog.cellsOf 3 = 1 by kernel_rfl] at hel
    have key : ∀ i, i < l → ∃ it : Int, W.cells? 0 (ad.add (i * 1)) 1 = some [Value.int .i64 it] := by
      intro i hi
      obtain ⟨cs', hc, htr⟩ := hel i (by omega)
      obtain ⟨it, rfl⟩ := int_ok htr
      exact ⟨it, hc⟩
    obtain ⟨f, hfm⟩ := Go.Deep.choose_lt key
    refine ⟨some ad, l, m, hcs, (List.range l).map f, by simp, hb, ?_⟩
    intro i it hit
    have hi : i < l := by have := (List.getElem?_eq_some_iff.1 hit).1; simpa using this
    have e : [Value.int .i64 (f i)] = it := by simpa [hi] using hit
    have hc := hfm i hi
    have hcs := (World.cells?_some hc).2.2
    obtain ⟨b, off, spot⟩ := ad
    have hspot : spot = none := by
      have h00 := (World.cells?_some (hfm 0 (by omega))).2.2 0 (by omega)
      have h00' : [Value.int .i64 (f 0)][0]? = some (Value.int .i64 (f 0)) := rfl
      rw [h00'] at h00
      have := World.cell?_spot h00
      simpa [Addr.add] using this
    subst hspot
    refine ⟨b, off, rfl, fun k v hv => ?_⟩
    rw [← e] at hv
    have hk : k < 1 := by have := (List.getElem?_eq_some_iff.1 hv).1; exact this
    have h1 := hcs k hk
    rw [hv, Go.Deep.add_add, addr_add] at h1
    rw [show off + i * 1 + k = off + (i * 1 + k) by omega]
    exact h1

end Go.Proofs.Ytfemlnfknebalaa
