import Derived.Test.YtppkjebiiheljaaLn
import Derived.ProofKit
import Derived.OpenShut
import Derived.ShutString
import Derived.ChangeOld
import Derived.SizedLaws
import Derived.Deep.Slices
namespace Go.Proofs.Ytppkjebiiheljaa
open Go.ChangeShapes Go.WideShapes Go.ChangeAt Go.RowKit
open Go.ChangeMaps (open_string shut_string)
set_option linter.unusedVariables false

theorem own : ownKnob Try.prog.godebug = none := by kernel_rfl
theorem laidOut : laidOutB Try.prog = true := by kernel_rfl
theorem Try.und4 : Try.prog.underlying 4 = some .bool := by kernel_rfl
theorem Try.bytes5 : Try.prog.bytesOf 5 = 1 := by kernel_rfl

/-- A slice of bytes that came in. -/
theorem opened (H : Type) (enc : TypeId × Value → H) (W : World) (a0 : Option Addr) (len0 cap0 : Nat) (d0 : DataW H) (p0 : List MemPlace)
    (h0 : DataW.Trod enc Try.prog W 0 (fun _ => true) true 22 (.slice a0 len0 cap0) d0 p0)
    (hs : ∀ elems spare, d0 = .slice elems spare → (elems.length + spare.length) * Try.prog.bytesOf 5 ≤ reachBytes) :
    ∃ zs : List Int, zs.length = len0 ∧ len0 ≤ 140737488351232 ∧ Nums .u8 W a0 zs ∧ U8 zs := by
  obtain ⟨fuel, hf⟩ := h0
  rcases open_ints Try.und22 Try.und5 (by kernel_rfl) hf with ⟨hcs, _⟩ | ⟨x, l, c, zs, hcs, hq, hl, hm, hz, hx, hcell, hwz⟩
  · simp [Value.cells] at hcs
    obtain ⟨rfl, rfl, rfl⟩ := hcs
    exact ⟨[], rfl, by omega, fun i hi => absurd hi (Nat.not_lt_zero _), fun i => by simp⟩
  · simp [Value.cells] at hcs
    obtain ⟨rfl, rfl, rfl⟩ := hcs
    have hz' : zs.length = cap0 := by simpa using hz
    have hb : len0 ≤ 140737488351232 := by
      simp only [Prod.mk.injEq] at hx
      have := hs _ _ hx.1
      rw [Try.bytes5] at this
      simp [lits, reachBytes] at this
      omega
    refine ⟨zs.take len0, by simp; omega, hb, ?_, ?_⟩
    · intro i hi
      simp only [List.length_take] at hi
      obtain ⟨b, off, rfl, hc⟩ := ints_at hcell (by omega)
      refine ⟨b, off, rfl, ?_⟩
      rw [List.getElem?_take, if_pos (by omega), hc i (by omega)]
      simp
    · exact U8.take (fun i => range_u8 hwz i) _

theorem opened_by (H : Type) (enc : TypeId × Value → H) (W : World) (a0 : Option Addr) (len0 cap0 : Nat) (d0 : DataW H) (p0 : List MemPlace)
    (h0 : DataW.Trod enc Try.prog W 0 (fun _ => true) true 22 (.slice a0 len0 cap0) d0 p0)
    {ts : List TypeId} {ds : List (DataW H)} (hsz : (DataW.weightsEach Try.prog ts ds).all (· ≤ reachBytes) = true) {j : Nat} (ht : ts[j]? = some 22) (hd : ds[j]? = some d0) :
    ∃ zs : List Int, zs.length = len0 ∧ len0 ≤ 140737488351232 ∧ Nums .u8 W a0 zs ∧ U8 zs := by
  refine opened H enc W a0 len0 cap0 d0 p0 h0 (fun elems spare e => ?_)
  subst e
  have := sized_slice hsz (j := j) (t := 22) (e := 5) ht hd Try.und22
  exact this

end Go.Proofs.Ytppkjebiiheljaa
