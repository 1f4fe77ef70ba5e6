import Derived.Test.YtgnfeegnhdbnkaaPWords
import Derived.ShutString
import Derived.ChangeOld
import Derived.SizedLaws
import Derived.SliceStrings
import Derived.Deep.Slices
namespace Go.Proofs.Ytgnfeegnhdbnkaa
open Go.ChangeShapes Go.WideShapes Go.ChangeAt Go.RowKit
open Go.ChangeMaps (open_string shut_string)
set_option linter.unusedVariables false
set_option linter.unusedSimpArgs false

theorem laidOut : laidOutB Try.prog = true := by kernel_rfl
theorem Try.bytes5 : Try.prog.bytesOf 5 = 1 := by kernel_rfl
theorem bi_of {z : Int} (h0 : 0 ≤ z) (h1 : z ≤ 255) : bi (UInt8.ofNat z.toNat) = z := by
  unfold bi
  rw [UInt8.toNat_ofNat']
  omega
/-- A slice of bytes that came in. -/
theorem opened_b (H : Type) (enc : TypeId × Value → H) (W : World) (a0 : Option Addr) (len0 cap0 : Nat) (d0 : DataW H) (p0 : List MemPlace)
    (h0 : DataW.Trod enc Try.prog W 0 (fun _ => true) true 30 (.slice a0 len0 cap0) d0 p0) : ∃ l : List UInt8, l.length = len0 ∧ len0 ≤ cap0 ∧ Nums .u8 W a0 (l.map bi) := by
  obtain ⟨fuel, hf⟩ := h0
  rcases open_ints U30 U5 (by kernel_rfl) hf with ⟨hcs, _⟩ | ⟨x, l, c, zs, hcs, hq, hl, hm, hz, hx, hcell, hwz⟩
  · simp [Value.cells] at hcs
    obtain ⟨rfl, rfl, rfl⟩ := hcs
    exact ⟨[], rfl, by omega, Nums.nil _ _ _⟩
  · simp [Value.cells] at hcs
    obtain ⟨rfl, rfl, rfl⟩ := hcs
    have hz' : zs.length = cap0 := by simpa using hz
    have hr : ∀ n ∈ zs, 0 ≤ n ∧ n ≤ 255 := fun n hn => by
      have := hwz n hn
      simpa [Lit.wf] using bounds_u8 this
    have he : ((zs.take len0).map (fun z => UInt8.ofNat z.toNat)).map bi = zs.take len0 := by
      rw [List.map_map]
      conv => rhs; rw [← List.map_id (zs.take len0)]
      refine List.map_congr_left fun z hz => ?_
      have := hr z (List.mem_of_mem_take hz)
      exact bi_of this.1 this.2
    refine ⟨(zs.take len0).map (fun z => UInt8.ofNat z.toNat), by simp; omega, hl, ?_⟩
    rw [he]
    intro i hi
    simp only [List.length_take] at hi
    obtain ⟨b, off, rfl, hc⟩ := ints_at hcell (by omega)
    refine ⟨b, off, rfl, ?_⟩
    rw [List.getElem?_take, if_pos (by omega), hc i (by omega)]
    simp
end Go.Proofs.Ytgnfeegnhdbnkaa
